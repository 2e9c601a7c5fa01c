/- The walk of ObjectField. -/
import Derived.Test.YtfnkmgipjemkdaaDoorM40
import Derived.Test.YtfnkmgipjemkdaaDoorTakeL
namespace Go.Proofs.YtfnkmgipjemkdaaDoor
open Go Go.RowKit
set_option linter.unusedVariables false

theorem sumG (u v : Rat) (w : World) (hu : Bd 200 u) (hv : Bd 200 v) (ht : Tab w) : Calls Tryd.prog 10 #[vQ u, vQ v] w (RetN w (u + v)) :=
  sumP 200 (by decide) (.num u) (.num v) (.slice none 0 0) (.slice none 0 0) w (fun _ => False) rfl rfl hu hv ht
theorem productG (u v : Rat) (w : World) (hu : Bd 200 u) (hv : Bd 200 v) (ht : Tab w) : Calls Tryd.prog 8 #[vQ u, vQ v] w (RetN w (u * v)) :=
  productP 200 (by decide) (.num u) (.num v) (.slice none 0 0) (.slice none 0 0) w (fun _ => False) rfl rfl hu hv ht
theorem oppositeG (u : Rat) (w : World) (hu : Bd 200 u) (ht : Tab w) : Calls Tryd.prog 11 #[vQ u] w (RetN w (-u)) :=
  oppositeP 200 (by decide) (.num u) (.slice none 0 0) w (fun _ => False) rfl hu ht
theorem reciprocalG (u : Rat) (w : World) (hu : Bd 200 u) (ht : Tab w) : Calls Tryd.prog 9 #[vQ u] w (RetN w u⁻¹) :=
  reciprocalP 200 (by decide) (.num u) (.slice none 0 0) w (fun _ => False) rfl hu ht
theorem lessG (u v : Rat) (w : World) (hu : Bd 200 u) (hv : Bd 200 v) (ht : Tab w) : Calls Tryd.prog 12 #[vQ u, vQ v] w (RetB w (decide (ordQ u v < 0))) :=
  lessP 200 (by decide) (.num u) (.num v) (.slice none 0 0) (.slice none 0 0) w (fun _ => False) rfl rfl hu hv ht
theorem equalG (u v : Rat) (w : World) (hu : Bd 200 u) (hv : Bd 200 v) : Calls Tryd.prog 7 #[vQ u, vQ v] w (RetB w (decide (u = v))) := by
  have h := equalP 200 (by decide) (.num u) (.num v) (.slice none 0 0) (.slice none 0 0) w (fun _ => False) (fun _ h => h.elim) rfl rfl hu hv (show (1 : Nat) ≤ 3000 by decide)
  have e : decide (Ob.num u = Ob.num v) = decide (u = v) := by simp
  rw [e] at h
  exact h
theorem int0P (w : World) (ht : Tab w) : Calls Tryd.prog 6 #[.int .i64 0] w (RetN w 0) :=
  (intP 0 w (fun _ => False) (i64_small (by omega)) ht).mono fun _ _ h => by
    have := h.num
    simpa using this
theorem equalH (u v : Rat) (r : Bool) (w : World) (hu : Bd 200 u) (hv : Bd 200 v) (h : Hid (decide (u = v) = r)) : Calls Tryd.prog 7 #[vQ u, vQ v] w (RetB w r) := by
  have e := equalG u v w hu hv
  rw [h.out] at e
  exact e
theorem lessH (u v : Rat) (r : Bool) (w : World) (hu : Bd 200 u) (hv : Bd 200 v) (ht : Tab w) (h : Hid (decide (ordQ u v < 0) = r)) : Calls Tryd.prog 12 #[vQ u, vQ v] w (RetB w r) := by
  have e := lessG u v w hu hv ht
  rw [h.out] at e
  exact e
theorem two_boxes (w : World) (x y : Rat) :
    Below w.heap.size w (((w.alloc (.cells #[.int .i64 0, .string ⟨#[]⟩, .string ⟨#[]⟩, .string ⟨#[]⟩, .string ⟨#[]⟩, .string ⟨#[]⟩, .slice none 0 0] 27)).alloc (.cells #[.int .i64 0, .string ⟨#[]⟩, .string ⟨#[]⟩, .string ⟨#[]⟩, .string ⟨#[]⟩, .string ⟨#[]⟩, .slice none 0 0] 27)).setRow w.heap.size #[.int .i64 1, .string (nt x), .string (dt x), .string ⟨#[]⟩, .string ⟨#[]⟩, .string ⟨#[]⟩, .slice none 0 0] |>.setRow (w.heap.size + 1) #[.int .i64 1, .string (nt y), .string (dt y), .string ⟨#[]⟩, .string ⟨#[]⟩, .string ⟨#[]⟩, .slice none 0 0]) ∧
    (((w.alloc (.cells #[.int .i64 0, .string ⟨#[]⟩, .string ⟨#[]⟩, .string ⟨#[]⟩, .string ⟨#[]⟩, .string ⟨#[]⟩, .slice none 0 0] 27)).alloc (.cells #[.int .i64 0, .string ⟨#[]⟩, .string ⟨#[]⟩, .string ⟨#[]⟩, .string ⟨#[]⟩, .string ⟨#[]⟩, .slice none 0 0] 27)).setRow w.heap.size #[.int .i64 1, .string (nt x), .string (dt x), .string ⟨#[]⟩, .string ⟨#[]⟩, .string ⟨#[]⟩, .slice none 0 0] |>.setRow (w.heap.size + 1) #[.int .i64 1, .string (nt y), .string (dt y), .string ⟨#[]⟩, .string ⟨#[]⟩, .string ⟨#[]⟩, .slice none 0 0]).heap[w.heap.size]? = some (.cells #[.int .i64 1, .string (nt x), .string (dt x), .string ⟨#[]⟩, .string ⟨#[]⟩, .string ⟨#[]⟩, .slice none 0 0] 27 (0, 0)) ∧
    (((w.alloc (.cells #[.int .i64 0, .string ⟨#[]⟩, .string ⟨#[]⟩, .string ⟨#[]⟩, .string ⟨#[]⟩, .string ⟨#[]⟩, .slice none 0 0] 27)).alloc (.cells #[.int .i64 0, .string ⟨#[]⟩, .string ⟨#[]⟩, .string ⟨#[]⟩, .string ⟨#[]⟩, .string ⟨#[]⟩, .slice none 0 0] 27)).setRow w.heap.size #[.int .i64 1, .string (nt x), .string (dt x), .string ⟨#[]⟩, .string ⟨#[]⟩, .string ⟨#[]⟩, .slice none 0 0] |>.setRow (w.heap.size + 1) #[.int .i64 1, .string (nt y), .string (dt y), .string ⟨#[]⟩, .string ⟨#[]⟩, .string ⟨#[]⟩, .slice none 0 0]).heap[w.heap.size + 1]? = some (.cells #[.int .i64 1, .string (nt y), .string (dt y), .string ⟨#[]⟩, .string ⟨#[]⟩, .string ⟨#[]⟩, .slice none 0 0] 27 (0, 0)) := by
  have h0 := setRow_heap _ _ _ #[Value.int .i64 1, .string (nt x), .string (dt x), .string ⟨#[]⟩, .string ⟨#[]⟩, .string ⟨#[]⟩, .slice none 0 0] _ _ (heap_alloc2_old w (.cells #[.int .i64 0, .string ⟨#[]⟩, .string ⟨#[]⟩, .string ⟨#[]⟩, .string ⟨#[]⟩, .string ⟨#[]⟩, .slice none 0 0] 27) (.cells #[.int .i64 0, .string ⟨#[]⟩, .string ⟨#[]⟩, .string ⟨#[]⟩, .string ⟨#[]⟩, .string ⟨#[]⟩, .slice none 0 0] 27))
  have h1 := (setRow_other ((w.alloc (.cells #[.int .i64 0, .string ⟨#[]⟩, .string ⟨#[]⟩, .string ⟨#[]⟩, .string ⟨#[]⟩, .string ⟨#[]⟩, .slice none 0 0] 27)).alloc (.cells #[.int .i64 0, .string ⟨#[]⟩, .string ⟨#[]⟩, .string ⟨#[]⟩, .string ⟨#[]⟩, .string ⟨#[]⟩, .slice none 0 0] 27)) w.heap.size (w.heap.size + 1) #[Value.int .i64 1, .string (nt x), .string (dt x), .string ⟨#[]⟩, .string ⟨#[]⟩, .string ⟨#[]⟩, .slice none 0 0] (by omega)).trans (heap_alloc2_new w _ _)
  refine ⟨below_setRowO (below_setRowO (Below.alloc (Below.alloc (Below.refl _ _) (Nat.le_refl _) _) (by simp) _) (Nat.le_refl _) _) (by omega) _, ?_, setRow_heap _ _ _ _ _ _ h1⟩
  rw [setRow_other _ _ _ _ (by omega)]; exact h0
/-- A number's row. -/
abbrev rowQ (q : Rat) : Array Value := #[.int .i64 1, .string (nt q), .string (dt q), .string ⟨#[]⟩, .string ⟨#[]⟩, .string ⟨#[]⟩, .slice none 0 0]
abbrev rowZ : Array Value := #[.int .i64 0, .string ⟨#[]⟩, .string ⟨#[]⟩, .string ⟨#[]⟩, .string ⟨#[]⟩, .string ⟨#[]⟩, .slice none 0 0]
/-- Five numbers in their boxes. -/
structure Five (W : World) (s t : Nat) (x y z : Rat) : Prop where
  b0 : W.heap[s]? = some (.cells (rowQ x) 27 (0, 0))
  b1 : W.heap[s + 1]? = some (.cells (rowQ y) 27 (0, 0))
  b2 : W.heap[s + 1 + 1]? = some (.cells (rowQ z) 27 (0, 0))
  b3 : W.heap[t]? = some (.cells (rowQ 0) 27 (0, 0))
  b4 : W.heap[t + 1]? = some (.cells (rowQ 1) 27 (0, 0))
theorem lt_of_heap {w : World} {b : Nat} {o : Obj} (h : w.heap[b]? = some o) : b < w.heap.size := by
  rcases Nat.lt_or_ge b w.heap.size with hlt | hge
  · exact hlt
  · rw [Array.getElem?_eq_none hge] at h; cases h
theorem Five.below {W W' : World} {s t : Nat} {x y z : Rat} (h : Five W s t x y z) (hb : Below W.heap.size W W') : Five W' s t x y z :=
  ⟨(hb.block _ (lt_of_heap h.b0)).trans h.b0, (hb.block _ (lt_of_heap h.b1)).trans h.b1, (hb.block _ (lt_of_heap h.b2)).trans h.b2, (hb.block _ (lt_of_heap h.b3)).trans h.b3, (hb.block _ (lt_of_heap h.b4)).trans h.b4⟩
/-- The three boxes, made and filled. -/
theorem three_boxes (w : World) (x y z : Rat) :
    Below w.heap.size w (((((w.alloc (.cells rowZ 27)).alloc (.cells rowZ 27)).alloc (.cells rowZ 27)).setRow w.heap.size (rowQ x)).setRow (w.heap.size + 1) (rowQ y) |>.setRow (w.heap.size + 1 + 1) (rowQ z)) ∧
    (((((w.alloc (.cells rowZ 27)).alloc (.cells rowZ 27)).alloc (.cells rowZ 27)).setRow w.heap.size (rowQ x)).setRow (w.heap.size + 1) (rowQ y) |>.setRow (w.heap.size + 1 + 1) (rowQ z)).heap[w.heap.size]? = some (.cells (rowQ x) 27 (0, 0)) ∧
    (((((w.alloc (.cells rowZ 27)).alloc (.cells rowZ 27)).alloc (.cells rowZ 27)).setRow w.heap.size (rowQ x)).setRow (w.heap.size + 1) (rowQ y) |>.setRow (w.heap.size + 1 + 1) (rowQ z)).heap[w.heap.size + 1]? = some (.cells (rowQ y) 27 (0, 0)) ∧
    (((((w.alloc (.cells rowZ 27)).alloc (.cells rowZ 27)).alloc (.cells rowZ 27)).setRow w.heap.size (rowQ x)).setRow (w.heap.size + 1) (rowQ y) |>.setRow (w.heap.size + 1 + 1) (rowQ z)).heap[w.heap.size + 1 + 1]? = some (.cells (rowQ z) 27 (0, 0)) := by
  have T := Three.new w rowZ rowZ rowZ rfl
  obtain ⟨zz, hz, h2⟩ := T.b2
  have h0 := setRow_heap _ _ _ (rowQ x) _ _ T.b0
  have h1 := (setRow_other (((w.alloc (.cells rowZ 27)).alloc (.cells rowZ 27)).alloc (.cells rowZ 27)) w.heap.size (w.heap.size + 1) (rowQ x) (by omega)).trans T.b1
  have h1' := setRow_heap _ _ _ (rowQ y) _ _ h1
  have h0' := (setRow_other (((((w.alloc (.cells rowZ 27)).alloc (.cells rowZ 27)).alloc (.cells rowZ 27)).setRow w.heap.size (rowQ x))) (w.heap.size + 1) w.heap.size (rowQ y) (by omega)).trans h0
  have h2' := ((setRow_other (((((w.alloc (.cells rowZ 27)).alloc (.cells rowZ 27)).alloc (.cells rowZ 27)).setRow w.heap.size (rowQ x))) (w.heap.size + 1) (w.heap.size + 1 + 1) (rowQ y) (by omega)).trans (setRow_other (((w.alloc (.cells rowZ 27)).alloc (.cells rowZ 27)).alloc (.cells rowZ 27)) w.heap.size (w.heap.size + 1 + 1) (rowQ x) (by omega))).trans h2
  refine ⟨below_setRowO (below_setRowO (below_setRowO T.bel (Nat.le_refl _) _) (by omega) _) (by omega) _, ?_, ?_, setRow_heap _ _ _ _ _ _ h2'⟩
  · rw [setRow_other _ _ _ _ (by omega)]; exact h0'
  · rw [setRow_other _ _ _ _ (by omega)]; exact h1'

set_option maxHeartbeats 16000000 in
set_option maxRecDepth 100000 in
theorem field_main (a b c d e f : ByteArray) (w : World) (ht : Tab w) (ha : a.size ≤ 15) (hb : b.size ≤ 15) (hc : c.size ≤ 15) (hd : d.size ≤ 15) (he : e.size ≤ 15) (hf : f.size ≤ 15) :
    Calls Tryd.prog 3 #[.string a, .string b, .string c, .string d, .string e, .string f] w (RetB w true) := by
  have HT := Lib.hid ht
  clear ht
  have i1 : (a.size : Int) ≤ 15 := by omega
  have i2 : (b.size : Int) ≤ 15 := by omega
  have i3 : (c.size : Int) ≤ 15 := by omega
  have i4 : (d.size : Int) ≤ 15 := by omega
  have i5 : (e.size : Int) ≤ 15 := by omega
  have i6 : (f.size : Int) ≤ 15 := by omega
  have B1 : Bd 16 (quo (LA a) (LA b)) := bd_quo (by show a.size ≤ 16; omega) (by show b.size ≤ 16; omega) (by decide)
  have B2 : Bd 16 (quo (LA c) (LA d)) := bd_quo (by show c.size ≤ 16; omega) (by show d.size ≤ 16; omega) (by decide)
  have B3 : Bd 16 (quo (LA e) (LA f)) := bd_quo (by show e.size ≤ 16; omega) (by show f.size ≤ 16; omega) (by decide)
  go_enter Tryd.func3, Tryd.ntmps3
  go_wp2_with fail
  refine (first2_any _ HT.out).mono ?_
  rintro r w1 ⟨rfl, hb1⟩
  have H1 := Lib.hid hb1
  clear hb1
  go_wp2_with fail
  refine (ratN a b _ (by omega) (by omega)).mono ?_
  rintro r w2 ⟨rfl, hb2⟩
  have H2 := Lib.hid (chain2 H1.out hb2 (Nat.le_refl _))
  clear hb2
  go_wp2_with fail
  refine (ratN c d _ (by omega) (by omega)).mono ?_
  rintro r w3 ⟨rfl, hb3⟩
  have H3 := Lib.hid (chain2 H2.out hb3 (Nat.le_refl _))
  clear hb3
  go_wp2_with fail
  refine (ratN e f _ (by omega) (by omega)).mono ?_
  rintro r w4 ⟨rfl, hb4⟩
  have H4 := Lib.hid (chain2 H3.out hb4 (Nat.le_refl _))
  clear hb4 i1 i2 i3 i4 i5 i6 ha hb hc hd he hf H1 H2 H3
  generalize quo (LA a) (LA b) = x at B1 ⊢
  generalize quo (LA c) (LA d) = y at B2 ⊢
  generalize quo (LA e) (LA f) = z at B3 ⊢
  have T := Three.new w4 rowZ rowZ rowZ rfl
  obtain ⟨zz, hz, hT2⟩ := T.b2
  have hT0 := Lib.hid T.b0
  have hT1 := Lib.hid T.b1
  replace hT2 := Lib.hid hT2
  replace hz := Lib.hid hz
  clear T
  unfold rowZ at hT0 hT1 hT2
  go_wp2_with (first
    | (refine storeN rfl (.tmp 13) (.tmp 50) rfl w4.heap.size x rfl rfl _ _ hT0.out rfl ?_)
    | (refine storeN rfl (.tmp 14) (.tmp 53) rfl (w4.heap.size + 1) y rfl rfl _ _ ((setRow_other _ _ _ _ (by omega)).trans hT1.out) rfl ?_)
    | (refine storeN rfl (.tmp 15) (.tmp 56) rfl (w4.heap.size + 1 + 1) z rfl rfl _ _ ((setRow_other _ _ _ _ (by omega)).trans ((setRow_other _ _ _ _ (by omega)).trans hT2.out)) hz.out ?_))
  obtain ⟨hbb, r0, r1, r2⟩ := three_boxes w4 x y z
  unfold rowQ rowZ at hbb r0 r1 r2
  generalize (((((w4.alloc (.cells #[.int .i64 0, .string ⟨#[]⟩, .string ⟨#[]⟩, .string ⟨#[]⟩, .string ⟨#[]⟩, .string ⟨#[]⟩, .slice none 0 0] 27)).alloc (.cells #[.int .i64 0, .string ⟨#[]⟩, .string ⟨#[]⟩, .string ⟨#[]⟩, .string ⟨#[]⟩, .string ⟨#[]⟩, .slice none 0 0] 27)).alloc (.cells #[.int .i64 0, .string ⟨#[]⟩, .string ⟨#[]⟩, .string ⟨#[]⟩, .string ⟨#[]⟩, .string ⟨#[]⟩, .slice none 0 0] 27)).setRow w4.heap.size #[.int .i64 1, .string (nt x), .string (dt x), .string ⟨#[]⟩, .string ⟨#[]⟩, .string ⟨#[]⟩, .slice none 0 0]).setRow (w4.heap.size + 1) #[.int .i64 1, .string (nt y), .string (dt y), .string ⟨#[]⟩, .string ⟨#[]⟩, .string ⟨#[]⟩, .slice none 0 0]).setRow (w4.heap.size + 1 + 1) #[.int .i64 1, .string (nt z), .string (dt z), .string ⟨#[]⟩, .string ⟨#[]⟩, .string ⟨#[]⟩, .slice none 0 0] = W5 at hbb r0 r1 r2 ⊢
  have H5 := Lib.hid (H4.out.trans (hbb.mono H4.out.size))
  have R0 := Lib.hid r0
  have R1 := Lib.hid r1
  have R2 := Lib.hid r2
  clear hbb r0 r1 r2 hT0 hT1 hT2 hz H4
  generalize w4.heap.size = s at R0 R1 R2 ⊢
  refine (int0P _ (HT.out.below H5.out)).mono ?_
  rintro r w6 ⟨rfl, hb6⟩
  have H6 := Lib.hid hb6
  clear hb6
  go_wp2_with fail
  refine (int1P _ (HT.out.below (H5.out.trans (H6.out.mono H5.out.size)))).mono ?_
  rintro r w7 ⟨rfl, hb7⟩
  have H7 := Lib.hid (chain2 H6.out hb7 (Nat.le_refl _))
  clear hb7 H6
  have hU0 := Lib.hid (heap_alloc2_old w7 (.cells #[.int .i64 0, .string ⟨#[]⟩, .string ⟨#[]⟩, .string ⟨#[]⟩, .string ⟨#[]⟩, .string ⟨#[]⟩, .slice none 0 0] 27) (.cells #[.int .i64 0, .string ⟨#[]⟩, .string ⟨#[]⟩, .string ⟨#[]⟩, .string ⟨#[]⟩, .string ⟨#[]⟩, .slice none 0 0] 27))
  have hU1 := Lib.hid (heap_alloc2_new w7 (.cells #[.int .i64 0, .string ⟨#[]⟩, .string ⟨#[]⟩, .string ⟨#[]⟩, .string ⟨#[]⟩, .string ⟨#[]⟩, .slice none 0 0] 27) (.cells #[.int .i64 0, .string ⟨#[]⟩, .string ⟨#[]⟩, .string ⟨#[]⟩, .string ⟨#[]⟩, .string ⟨#[]⟩, .slice none 0 0] 27))
  go_upto_region 7 with (first
    | (refine storeN rfl (.tmp 16) (.tmp 57) rfl w7.heap.size 0 rfl rfl _ _ hU0.out rfl ?_)
    | (refine storeN rfl (.tmp 17) (.tmp 58) rfl (w7.heap.size + 1) 1 rfl rfl _ _ ((setRow_other _ _ _ _ (by omega)).trans hU1.out) rfl ?_))
  obtain ⟨hbb, q0, q1⟩ := two_boxes w7 0 1
  clear hU0 hU1
  generalize (((w7.alloc (.cells #[.int .i64 0, .string ⟨#[]⟩, .string ⟨#[]⟩, .string ⟨#[]⟩, .string ⟨#[]⟩, .string ⟨#[]⟩, .slice none 0 0] 27)).alloc (.cells #[.int .i64 0, .string ⟨#[]⟩, .string ⟨#[]⟩, .string ⟨#[]⟩, .string ⟨#[]⟩, .string ⟨#[]⟩, .slice none 0 0] 27)).setRow w7.heap.size #[.int .i64 1, .string (nt 0), .string (dt 0), .string ⟨#[]⟩, .string ⟨#[]⟩, .string ⟨#[]⟩, .slice none 0 0]).setRow (w7.heap.size + 1) #[.int .i64 1, .string (nt 1), .string (dt 1), .string ⟨#[]⟩, .string ⟨#[]⟩, .string ⟨#[]⟩, .slice none 0 0] = W8 at hbb q0 q1 ⊢
  have H8 := Lib.hid (H5.out.trans ((H7.out.trans (hbb.mono H7.out.size)).mono H5.out.size))
  have F : Hid (Five W8 s w7.heap.size x y z) := by
    have h58 := H7.out.trans (hbb.mono H7.out.size)
    exact ⟨(h58.block _ (lt_of_heap R0.out)).trans R0.out, (h58.block _ (lt_of_heap R1.out)).trans R1.out, (h58.block _ (lt_of_heap R2.out)).trans R2.out, q0, q1⟩
  clear hbb q0 q1 R0 R1 R2 H7
  generalize w7.heap.size = t at F ⊢
  have HTB : Hid (∀ W', Below W8.heap.size W8 W' → Tab W') := fun W' h => HT.out.below (H8.out.trans (h.mono H8.out.size))
  have FV : Hid (∀ W', Below W8.heap.size W8 W' → (W'.cell? ⟨s, 0, none⟩ = some (.int .i64 1) ∧ W'.cell? ⟨s, 1, none⟩ = some (.string (nt x)) ∧ W'.cell? ⟨s, 2, none⟩ = some (.string (dt x)) ∧ W'.cell? ⟨s, 3, none⟩ = some (.string ⟨#[]⟩) ∧ W'.cell? ⟨s, 4, none⟩ = some (.string ⟨#[]⟩) ∧ W'.cell? ⟨s, 5, none⟩ = some (.string ⟨#[]⟩) ∧ W'.cell? ⟨s, 6, none⟩ = some (.slice none 0 0)) ∧ (W'.cell? ⟨s + 1, 0, none⟩ = some (.int .i64 1) ∧ W'.cell? ⟨s + 1, 1, none⟩ = some (.string (nt y)) ∧ W'.cell? ⟨s + 1, 2, none⟩ = some (.string (dt y)) ∧ W'.cell? ⟨s + 1, 3, none⟩ = some (.string ⟨#[]⟩) ∧ W'.cell? ⟨s + 1, 4, none⟩ = some (.string ⟨#[]⟩) ∧ W'.cell? ⟨s + 1, 5, none⟩ = some (.string ⟨#[]⟩) ∧ W'.cell? ⟨s + 1, 6, none⟩ = some (.slice none 0 0)) ∧ (W'.cell? ⟨s + 1 + 1, 0, none⟩ = some (.int .i64 1) ∧ W'.cell? ⟨s + 1 + 1, 1, none⟩ = some (.string (nt z)) ∧ W'.cell? ⟨s + 1 + 1, 2, none⟩ = some (.string (dt z)) ∧ W'.cell? ⟨s + 1 + 1, 3, none⟩ = some (.string ⟨#[]⟩) ∧ W'.cell? ⟨s + 1 + 1, 4, none⟩ = some (.string ⟨#[]⟩) ∧ W'.cell? ⟨s + 1 + 1, 5, none⟩ = some (.string ⟨#[]⟩) ∧ W'.cell? ⟨s + 1 + 1, 6, none⟩ = some (.slice none 0 0)) ∧ (W'.cell? ⟨t, 0, none⟩ = some (.int .i64 1) ∧ W'.cell? ⟨t, 1, none⟩ = some (.string (nt 0)) ∧ W'.cell? ⟨t, 2, none⟩ = some (.string (dt 0)) ∧ W'.cell? ⟨t, 3, none⟩ = some (.string ⟨#[]⟩) ∧ W'.cell? ⟨t, 4, none⟩ = some (.string ⟨#[]⟩) ∧ W'.cell? ⟨t, 5, none⟩ = some (.string ⟨#[]⟩) ∧ W'.cell? ⟨t, 6, none⟩ = some (.slice none 0 0)) ∧ (W'.cell? ⟨t + 1, 0, none⟩ = some (.int .i64 1) ∧ W'.cell? ⟨t + 1, 1, none⟩ = some (.string (nt 1)) ∧ W'.cell? ⟨t + 1, 2, none⟩ = some (.string (dt 1)) ∧ W'.cell? ⟨t + 1, 3, none⟩ = some (.string ⟨#[]⟩) ∧ W'.cell? ⟨t + 1, 4, none⟩ = some (.string ⟨#[]⟩) ∧ W'.cell? ⟨t + 1, 5, none⟩ = some (.string ⟨#[]⟩) ∧ W'.cell? ⟨t + 1, 6, none⟩ = some (.slice none 0 0))) := fun W' h =>
    ⟨(row7 (F.out.below h).b0).1, (row7 (F.out.below h).b1).1, (row7 (F.out.below h).b2).1, (row7 (F.out.below h).b3).1, (row7 (F.out.below h).b4).1⟩
  clear F H5 HT
  have D0 : Bd 200 (x) := (B1.more (by decide))
  have D1 : Bd 200 (y) := (B2.more (by decide))
  have D2 : Bd 200 (z) := (B3.more (by decide))
  have D3 : Bd 200 ((0 : Rat)) := (bd_int (k := 200) (n := 0) (by decide) (by decide))
  have D4 : Bd 200 ((1 : Rat)) := (bd_int (k := 200) (n := 1) (by decide) (by decide))
  have D5 : Bd 200 (x⁻¹) := ((bd_inv B1 (by decide)).more (by decide))
  have D6 : Bd 200 (x * x⁻¹) := ((bd_mul B1 (bd_inv B1 (by decide)) (by decide)).more (by decide))
  have D7 : Bd 200 (-x) := ((bd_neg B1 (by decide)).more (by decide))
  have D8 : Bd 200 (x + -x) := ((bd_add B1 (bd_neg B1 (by decide))).more (by decide))
  have D9 : Bd 200 (y + z) := ((bd_add B2 B3).more (by decide))
  have D10 : Bd 200 (x * (y + z)) := ((bd_mul B1 (bd_add B2 B3) (by decide)).more (by decide))
  have D11 : Bd 200 (x * y) := ((bd_mul B1 B2 (by decide)).more (by decide))
  have D12 : Bd 200 (x * z) := ((bd_mul B1 B3 (by decide)).more (by decide))
  have D13 : Bd 200 (x * y + x * z) := ((bd_add (bd_mul B1 B2 (by decide)) (bd_mul B1 B3 (by decide))).more (by decide))
  have D14 : Bd 200 (x + y) := ((bd_add B1 B2).more (by decide))
  have D15 : Bd 200 (x + y + z) := ((bd_add (bd_add B1 B2) B3).more (by decide))
  have D16 : Bd 200 (x + (y + z)) := ((bd_add B1 (bd_add B2 B3)).more (by decide))
  have D17 : Bd 200 (x + z) := ((bd_add B1 B3).more (by decide))
  have E3 : Hid (decide (x + -x = 0) = true) := decide_eq_true (fld_neg x)
  have E4 : Hid (decide (x * (y + z) = x * y + x * z) = true) := decide_eq_true (fld_dist x y z)
  have E5 : Hid (decide (x + y + z = x + (y + z)) = true) := decide_eq_true (fld_assoc x y z)
  obtain ⟨rl, hrl⟩ : ∃ rl, decide (ordQ x y < 0) = rl := ⟨_, rfl⟩
  have L1 : Hid (decide (ordQ x y < 0) = rl) := hrl
  have L2 : Hid (decide (ordQ (x + z) (y + z) < 0) = rl) := by
    show _ = _
    rw [← hrl]
    exact decide_eq_decide.2 (fld_less x y z)
  clear hrl B1 B2 B3
  have hB0 : Below W8.heap.size W8 W8.drew := (Below.refl _ _).drew
  obtain ⟨⟨c0, c1, c2, c3, c4, c5, c6⟩, ⟨d0, d1, d2, d3, d4, d5, d6⟩, ⟨e0, e1, e2, e3, e4, e5, e6⟩, ⟨f0, f1, f2, f3, f4, f5, f6⟩, ⟨g0, g1, g2, g3, g4, g5, g6⟩⟩ := FV.out _ (Below.refl _ _)
  (try dsimp only [Act.put])
  go_cut [71] (fun s71 wx => s71 = .bool false ∧ Hid (Below W8.heap.size W8 wx))
  case first =>
    by_cases hx : x = 0
    · have E1 : Hid (decide (x = 0) = true) := decide_eq_true hx
      clear hx
      refine wp_region_held_drew (by kernel_rfl) (S := (fun W' => (W'.cell? ⟨s, 0, none⟩ = some (.int .i64 1) ∧ W'.cell? ⟨s, 1, none⟩ = some (.string (nt x)) ∧ W'.cell? ⟨s, 2, none⟩ = some (.string (dt x)) ∧ W'.cell? ⟨s, 3, none⟩ = some (.string ⟨#[]⟩) ∧ W'.cell? ⟨s, 4, none⟩ = some (.string ⟨#[]⟩) ∧ W'.cell? ⟨s, 5, none⟩ = some (.string ⟨#[]⟩) ∧ W'.cell? ⟨s, 6, none⟩ = some (.slice none 0 0)) ∧ (W'.cell? ⟨s + 1, 0, none⟩ = some (.int .i64 1) ∧ W'.cell? ⟨s + 1, 1, none⟩ = some (.string (nt y)) ∧ W'.cell? ⟨s + 1, 2, none⟩ = some (.string (dt y)) ∧ W'.cell? ⟨s + 1, 3, none⟩ = some (.string ⟨#[]⟩) ∧ W'.cell? ⟨s + 1, 4, none⟩ = some (.string ⟨#[]⟩) ∧ W'.cell? ⟨s + 1, 5, none⟩ = some (.string ⟨#[]⟩) ∧ W'.cell? ⟨s + 1, 6, none⟩ = some (.slice none 0 0)) ∧ (W'.cell? ⟨s + 1 + 1, 0, none⟩ = some (.int .i64 1) ∧ W'.cell? ⟨s + 1 + 1, 1, none⟩ = some (.string (nt z)) ∧ W'.cell? ⟨s + 1 + 1, 2, none⟩ = some (.string (dt z)) ∧ W'.cell? ⟨s + 1 + 1, 3, none⟩ = some (.string ⟨#[]⟩) ∧ W'.cell? ⟨s + 1 + 1, 4, none⟩ = some (.string ⟨#[]⟩) ∧ W'.cell? ⟨s + 1 + 1, 5, none⟩ = some (.string ⟨#[]⟩) ∧ W'.cell? ⟨s + 1 + 1, 6, none⟩ = some (.slice none 0 0)) ∧ (W'.cell? ⟨t, 0, none⟩ = some (.int .i64 1) ∧ W'.cell? ⟨t, 1, none⟩ = some (.string (nt 0)) ∧ W'.cell? ⟨t, 2, none⟩ = some (.string (dt 0)) ∧ W'.cell? ⟨t, 3, none⟩ = some (.string ⟨#[]⟩) ∧ W'.cell? ⟨t, 4, none⟩ = some (.string ⟨#[]⟩) ∧ W'.cell? ⟨t, 5, none⟩ = some (.string ⟨#[]⟩) ∧ W'.cell? ⟨t, 6, none⟩ = some (.slice none 0 0)) ∧ (W'.cell? ⟨t + 1, 0, none⟩ = some (.int .i64 1) ∧ W'.cell? ⟨t + 1, 1, none⟩ = some (.string (nt 1)) ∧ W'.cell? ⟨t + 1, 2, none⟩ = some (.string (dt 1)) ∧ W'.cell? ⟨t + 1, 3, none⟩ = some (.string ⟨#[]⟩) ∧ W'.cell? ⟨t + 1, 4, none⟩ = some (.string ⟨#[]⟩) ∧ W'.cell? ⟨t + 1, 5, none⟩ = some (.string ⟨#[]⟩) ∧ W'.cell? ⟨t + 1, 6, none⟩ = some (.slice none 0 0)))) (FV.out _ hB0) ?_
      intro hS0
      refine take_l (i := 0) (v := ?_) rfl (by kernel_rfl) (by kernel_rfl) (by kernel_rfl) (fun _ _ _ h => h) (Or.inl ⟨by rfl, ?_⟩) (by assumption) ?_
      rotate_left
      · intro w hSw
        (try dsimp only at hSw)
        go_simp
        (try with_reducible rfl)
      (try simp only [Act.put, List.setIfInBounds_toArray, List.set_cons_zero, List.set_cons_succ])
      refine take_l (i := 1) (v := ?_) rfl (by kernel_rfl) (by kernel_rfl) (by kernel_rfl) (fun _ _ _ h => h) (Or.inl ⟨by rfl, ?_⟩) (by assumption) ?_
      rotate_left
      · intro w hSw
        (try dsimp only at hSw)
        go_simp
        (try with_reducible rfl)
      (try simp only [Act.put, List.setIfInBounds_toArray, List.set_cons_zero, List.set_cons_succ])
      refine wpAnyH_ready (rs := [2]) (by kernel_rfl) (by simp) ?_
      refine cons_l rfl (fun K hK => ?_) AllReadyH.nil
      go_simp
      refine (equalH _ _ _ _ (by assumption) (by assumption) (by assumption)).mono ?_
      rintro r w9 ⟨rfl, hb9⟩
      have hB9 := chain2 hB0 hb9 (Nat.le_refl _)
      clear hb9
      refine hK.out _ _ (FV.out _ hB9) (fun hS1 => ?_)
      clear hK hS0
      (try simp only [Act.put, List.setIfInBounds_toArray, List.set_cons_zero, List.set_cons_succ])
      refine take_l (i := 3) (v := ?_) rfl (by kernel_rfl) (by kernel_rfl) (by kernel_rfl) (fun _ _ _ h => h) (Or.inl ⟨by rfl, ?_⟩) (by assumption) ?_
      rotate_left
      · intro w hSw
        (try dsimp only at hSw)
        go_simp
        (try with_reducible rfl)
      (try simp only [Act.put, List.setIfInBounds_toArray, List.set_cons_zero, List.set_cons_succ])
      refine take_l (i := 4) (v := ?_) rfl (by kernel_rfl) (by kernel_rfl) (by kernel_rfl) (fun _ _ _ h => h) (Or.inl ⟨by rfl, ?_⟩) (by assumption) ?_
      rotate_left
      · intro w hSw
        (try dsimp only at hSw)
        go_simp
        (try with_reducible rfl)
      (try simp only [Act.put, List.setIfInBounds_toArray, List.set_cons_zero, List.set_cons_succ])
      refine take_l (i := 5) (v := undef) rfl (by kernel_rfl) (by kernel_rfl) (by kernel_rfl) (fun _ _ _ h => h) (Or.inr ⟨by rfl, rfl⟩) (by assumption) ?_
      (try simp only [Act.put, List.setIfInBounds_toArray, List.set_cons_zero, List.set_cons_succ])
      refine take_l (i := 6) (v := undef) rfl (by kernel_rfl) (by kernel_rfl) (by kernel_rfl) (fun _ _ _ h => h) (Or.inr ⟨by rfl, rfl⟩) (by assumption) ?_
      (try simp only [Act.put, List.setIfInBounds_toArray, List.set_cons_zero, List.set_cons_succ])
      refine take_l (i := 7) (v := undef) rfl (by kernel_rfl) (by kernel_rfl) (by kernel_rfl) (fun _ _ _ h => h) (Or.inr ⟨by rfl, rfl⟩) (by assumption) ?_
      (try simp only [Act.put, List.setIfInBounds_toArray, List.set_cons_zero, List.set_cons_succ])
      refine take_l (i := 8) (v := undef) rfl (by kernel_rfl) (by kernel_rfl) (by kernel_rfl) (fun _ _ _ h => h) (Or.inr ⟨by rfl, rfl⟩) (by assumption) ?_
      (try simp only [Act.put, List.setIfInBounds_toArray, List.set_cons_zero, List.set_cons_succ])
      refine take_l (i := 9) (v := undef) rfl (by kernel_rfl) (by kernel_rfl) (by kernel_rfl) (fun _ _ _ h => h) (Or.inr ⟨by rfl, rfl⟩) (by assumption) ?_
      (try simp only [Act.put, List.setIfInBounds_toArray, List.set_cons_zero, List.set_cons_succ])
      refine take_l (i := 10) (v := undef) rfl (by kernel_rfl) (by kernel_rfl) (by kernel_rfl) (fun _ _ _ h => h) (Or.inr ⟨by rfl, rfl⟩) (by assumption) ?_
      (try simp only [Act.put, List.setIfInBounds_toArray, List.set_cons_zero, List.set_cons_succ])
      refine take_l (i := 11) (v := undef) rfl (by kernel_rfl) (by kernel_rfl) (by kernel_rfl) (fun _ _ _ h => h) (Or.inr ⟨by rfl, rfl⟩) (by assumption) ?_
      (try simp only [Act.put, List.setIfInBounds_toArray, List.set_cons_zero, List.set_cons_succ])
      refine take_l (i := 12) (v := ?_) rfl (by kernel_rfl) (by kernel_rfl) (by kernel_rfl) (fun _ _ _ h => h) (Or.inl ⟨by rfl, ?_⟩) (by assumption) ?_
      rotate_left
      · intro w hSw
        (try dsimp only at hSw)
        go_simp
        (try with_reducible rfl)
      (try simp only [Act.put, List.setIfInBounds_toArray, List.set_cons_zero, List.set_cons_succ])
      refine wpAnyH_done (by kernel_rfl) ?_ _
      go_wp2_with fail
      go_meet
      exact ⟨rfl, hB9⟩
    · have E1 : Hid (decide (x = 0) = false) := decide_eq_false hx
      have E2 : Hid (decide (x * x⁻¹ = 1) = true) := decide_eq_true (fld_inv hx)
      clear hx
      go_region_held3 (fun W' => (W'.cell? ⟨s, 0, none⟩ = some (.int .i64 1) ∧ W'.cell? ⟨s, 1, none⟩ = some (.string (nt x)) ∧ W'.cell? ⟨s, 2, none⟩ = some (.string (dt x)) ∧ W'.cell? ⟨s, 3, none⟩ = some (.string ⟨#[]⟩) ∧ W'.cell? ⟨s, 4, none⟩ = some (.string ⟨#[]⟩) ∧ W'.cell? ⟨s, 5, none⟩ = some (.string ⟨#[]⟩) ∧ W'.cell? ⟨s, 6, none⟩ = some (.slice none 0 0)) ∧ (W'.cell? ⟨s + 1, 0, none⟩ = some (.int .i64 1) ∧ W'.cell? ⟨s + 1, 1, none⟩ = some (.string (nt y)) ∧ W'.cell? ⟨s + 1, 2, none⟩ = some (.string (dt y)) ∧ W'.cell? ⟨s + 1, 3, none⟩ = some (.string ⟨#[]⟩) ∧ W'.cell? ⟨s + 1, 4, none⟩ = some (.string ⟨#[]⟩) ∧ W'.cell? ⟨s + 1, 5, none⟩ = some (.string ⟨#[]⟩) ∧ W'.cell? ⟨s + 1, 6, none⟩ = some (.slice none 0 0)) ∧ (W'.cell? ⟨s + 1 + 1, 0, none⟩ = some (.int .i64 1) ∧ W'.cell? ⟨s + 1 + 1, 1, none⟩ = some (.string (nt z)) ∧ W'.cell? ⟨s + 1 + 1, 2, none⟩ = some (.string (dt z)) ∧ W'.cell? ⟨s + 1 + 1, 3, none⟩ = some (.string ⟨#[]⟩) ∧ W'.cell? ⟨s + 1 + 1, 4, none⟩ = some (.string ⟨#[]⟩) ∧ W'.cell? ⟨s + 1 + 1, 5, none⟩ = some (.string ⟨#[]⟩) ∧ W'.cell? ⟨s + 1 + 1, 6, none⟩ = some (.slice none 0 0)) ∧ (W'.cell? ⟨t, 0, none⟩ = some (.int .i64 1) ∧ W'.cell? ⟨t, 1, none⟩ = some (.string (nt 0)) ∧ W'.cell? ⟨t, 2, none⟩ = some (.string (dt 0)) ∧ W'.cell? ⟨t, 3, none⟩ = some (.string ⟨#[]⟩) ∧ W'.cell? ⟨t, 4, none⟩ = some (.string ⟨#[]⟩) ∧ W'.cell? ⟨t, 5, none⟩ = some (.string ⟨#[]⟩) ∧ W'.cell? ⟨t, 6, none⟩ = some (.slice none 0 0)) ∧ (W'.cell? ⟨t + 1, 0, none⟩ = some (.int .i64 1) ∧ W'.cell? ⟨t + 1, 1, none⟩ = some (.string (nt 1)) ∧ W'.cell? ⟨t + 1, 2, none⟩ = some (.string (dt 1)) ∧ W'.cell? ⟨t + 1, 3, none⟩ = some (.string ⟨#[]⟩) ∧ W'.cell? ⟨t + 1, 4, none⟩ = some (.string ⟨#[]⟩) ∧ W'.cell? ⟨t + 1, 5, none⟩ = some (.string ⟨#[]⟩) ∧ W'.cell? ⟨t + 1, 6, none⟩ = some (.slice none 0 0))) (first | exact FV.out _ ‹Below W8.heap.size W8 _› | go_keep)
        (first
      | (go_at_call 7; refine (equalH _ _ _ _ (by assumption) (by assumption) (by assumption)).mono ?_; rintro r w9 ⟨rfl, hb9⟩; have hB9 := chain2 ‹Below W8.heap.size W8 _› hb9 (Nat.le_refl _); clear hb9)
      | (go_at_call 10; refine (sumG _ _ _ (by assumption) (by assumption) (HTB.out _ ‹Below W8.heap.size W8 _›)).mono ?_; rintro r w9 ⟨rfl, hb9⟩; have hB9 := chain2 ‹Below W8.heap.size W8 _› hb9 (Nat.le_refl _); clear hb9)
      | (go_at_call 8; refine (productG _ _ _ (by assumption) (by assumption) (HTB.out _ ‹Below W8.heap.size W8 _›)).mono ?_; rintro r w9 ⟨rfl, hb9⟩; have hB9 := chain2 ‹Below W8.heap.size W8 _› hb9 (Nat.le_refl _); clear hb9)
      | (go_at_call 11; refine (oppositeG _ _ (by assumption) (HTB.out _ ‹Below W8.heap.size W8 _›)).mono ?_; rintro r w9 ⟨rfl, hb9⟩; have hB9 := chain2 ‹Below W8.heap.size W8 _› hb9 (Nat.le_refl _); clear hb9)
      | (go_at_call 9; refine (reciprocalG _ _ (by assumption) (HTB.out _ ‹Below W8.heap.size W8 _›)).mono ?_; rintro r w9 ⟨rfl, hb9⟩; have hB9 := chain2 ‹Below W8.heap.size W8 _› hb9 (Nat.le_refl _); clear hb9)
      | (go_at_call 12; refine (lessH _ _ _ _ (by assumption) (by assumption) (HTB.out _ ‹Below W8.heap.size W8 _›) (by assumption)).mono ?_; rintro r w9 ⟨rfl, hb9⟩; have hB9 := chain2 ‹Below W8.heap.size W8 _› hb9 (Nat.le_refl _); clear hb9))
      all_goals (go_wp2_with fail; go_meet; exact ⟨rfl, ‹Below W8.heap.size W8 _›⟩)
  case rest =>
    obtain ⟨rfl, HB⟩ := hcut
    clear hB0 c0 c1 c2 c3 c4 c5 c6 d0 d1 d2 d3 d4 d5 d6 e0 e1 e2 e3 e4 e5 e6 f0 f1 f2 f3 f4 f5 f6 g0 g1 g2 g3 g4 g5 g6
    have hB0 : Below W8.heap.size W8 wc.drew := HB.out.drew
    obtain ⟨⟨c0, c1, c2, c3, c4, c5, c6⟩, ⟨d0, d1, d2, d3, d4, d5, d6⟩, ⟨e0, e1, e2, e3, e4, e5, e6⟩, ⟨f0, f1, f2, f3, f4, f5, f6⟩, ⟨g0, g1, g2, g3, g4, g5, g6⟩⟩ := FV.out _ HB.out
    go_wp2_with fail
    go_region_held3 (fun W' => (W'.cell? ⟨s, 0, none⟩ = some (.int .i64 1) ∧ W'.cell? ⟨s, 1, none⟩ = some (.string (nt x)) ∧ W'.cell? ⟨s, 2, none⟩ = some (.string (dt x)) ∧ W'.cell? ⟨s, 3, none⟩ = some (.string ⟨#[]⟩) ∧ W'.cell? ⟨s, 4, none⟩ = some (.string ⟨#[]⟩) ∧ W'.cell? ⟨s, 5, none⟩ = some (.string ⟨#[]⟩) ∧ W'.cell? ⟨s, 6, none⟩ = some (.slice none 0 0)) ∧ (W'.cell? ⟨s + 1, 0, none⟩ = some (.int .i64 1) ∧ W'.cell? ⟨s + 1, 1, none⟩ = some (.string (nt y)) ∧ W'.cell? ⟨s + 1, 2, none⟩ = some (.string (dt y)) ∧ W'.cell? ⟨s + 1, 3, none⟩ = some (.string ⟨#[]⟩) ∧ W'.cell? ⟨s + 1, 4, none⟩ = some (.string ⟨#[]⟩) ∧ W'.cell? ⟨s + 1, 5, none⟩ = some (.string ⟨#[]⟩) ∧ W'.cell? ⟨s + 1, 6, none⟩ = some (.slice none 0 0)) ∧ (W'.cell? ⟨s + 1 + 1, 0, none⟩ = some (.int .i64 1) ∧ W'.cell? ⟨s + 1 + 1, 1, none⟩ = some (.string (nt z)) ∧ W'.cell? ⟨s + 1 + 1, 2, none⟩ = some (.string (dt z)) ∧ W'.cell? ⟨s + 1 + 1, 3, none⟩ = some (.string ⟨#[]⟩) ∧ W'.cell? ⟨s + 1 + 1, 4, none⟩ = some (.string ⟨#[]⟩) ∧ W'.cell? ⟨s + 1 + 1, 5, none⟩ = some (.string ⟨#[]⟩) ∧ W'.cell? ⟨s + 1 + 1, 6, none⟩ = some (.slice none 0 0)) ∧ (W'.cell? ⟨t, 0, none⟩ = some (.int .i64 1) ∧ W'.cell? ⟨t, 1, none⟩ = some (.string (nt 0)) ∧ W'.cell? ⟨t, 2, none⟩ = some (.string (dt 0)) ∧ W'.cell? ⟨t, 3, none⟩ = some (.string ⟨#[]⟩) ∧ W'.cell? ⟨t, 4, none⟩ = some (.string ⟨#[]⟩) ∧ W'.cell? ⟨t, 5, none⟩ = some (.string ⟨#[]⟩) ∧ W'.cell? ⟨t, 6, none⟩ = some (.slice none 0 0)) ∧ (W'.cell? ⟨t + 1, 0, none⟩ = some (.int .i64 1) ∧ W'.cell? ⟨t + 1, 1, none⟩ = some (.string (nt 1)) ∧ W'.cell? ⟨t + 1, 2, none⟩ = some (.string (dt 1)) ∧ W'.cell? ⟨t + 1, 3, none⟩ = some (.string ⟨#[]⟩) ∧ W'.cell? ⟨t + 1, 4, none⟩ = some (.string ⟨#[]⟩) ∧ W'.cell? ⟨t + 1, 5, none⟩ = some (.string ⟨#[]⟩) ∧ W'.cell? ⟨t + 1, 6, none⟩ = some (.slice none 0 0))) (first | exact FV.out _ ‹Below W8.heap.size W8 _› | go_keep)
      (first
      | (go_at_call 7; refine (equalH _ _ _ _ (by assumption) (by assumption) (by assumption)).mono ?_; rintro r w9 ⟨rfl, hb9⟩; have hB9 := chain2 ‹Below W8.heap.size W8 _› hb9 (Nat.le_refl _); clear hb9)
      | (go_at_call 10; refine (sumG _ _ _ (by assumption) (by assumption) (HTB.out _ ‹Below W8.heap.size W8 _›)).mono ?_; rintro r w9 ⟨rfl, hb9⟩; have hB9 := chain2 ‹Below W8.heap.size W8 _› hb9 (Nat.le_refl _); clear hb9)
      | (go_at_call 8; refine (productG _ _ _ (by assumption) (by assumption) (HTB.out _ ‹Below W8.heap.size W8 _›)).mono ?_; rintro r w9 ⟨rfl, hb9⟩; have hB9 := chain2 ‹Below W8.heap.size W8 _› hb9 (Nat.le_refl _); clear hb9)
      | (go_at_call 11; refine (oppositeG _ _ (by assumption) (HTB.out _ ‹Below W8.heap.size W8 _›)).mono ?_; rintro r w9 ⟨rfl, hb9⟩; have hB9 := chain2 ‹Below W8.heap.size W8 _› hb9 (Nat.le_refl _); clear hb9)
      | (go_at_call 9; refine (reciprocalG _ _ (by assumption) (HTB.out _ ‹Below W8.heap.size W8 _›)).mono ?_; rintro r w9 ⟨rfl, hb9⟩; have hB9 := chain2 ‹Below W8.heap.size W8 _› hb9 (Nat.le_refl _); clear hb9)
      | (go_at_call 12; refine (lessH _ _ _ _ (by assumption) (by assumption) (HTB.out _ ‹Below W8.heap.size W8 _›) (by assumption)).mono ?_; rintro r w9 ⟨rfl, hb9⟩; have hB9 := chain2 ‹Below W8.heap.size W8 _› hb9 (Nat.le_refl _); clear hb9))
    all_goals go_wp2
    all_goals go_ret
    all_goals exact ⟨rfl, H8.out.trans ((‹Below W8.heap.size W8 _› : Below W8.heap.size W8 _).mono H8.out.size)⟩
end Go.Proofs.YtfnkmgipjemkdaaDoor

/- The walk of ObjectField, whatever the lengths. -/
namespace Go.Proofs.YtfnkmgipjemkdaaDoor
open Go Go.RowKit
set_option linter.unusedVariables false

set_option maxHeartbeats 2000000 in
set_option maxRecDepth 100000 in
theorem field_long0 (a b c d e f : ByteArray) (w : World) (ht : Tab w) (hk : (15 : Int) < a.size) :
    Calls Tryd.prog 3 #[.string a, .string b, .string c, .string d, .string e, .string f] w (RetB w true) := by
  have HT := Lib.hid ht
  clear ht
  go_enter Tryd.func3, Tryd.ntmps3
  go_wp2_with fail
  refine (first2_any _ HT.out).mono ?_
  rintro r w1 ⟨rfl, hb1⟩
  have H1 := Lib.hid hb1
  clear hb1
  go_wp2
  go_ret
  exact ⟨rfl, H1.out⟩
set_option maxHeartbeats 2000000 in
set_option maxRecDepth 100000 in
theorem field_long1 (a b c d e f : ByteArray) (w : World) (ht : Tab w) (h0 : (a.size : Int) ≤ 15) (hk : (15 : Int) < b.size) :
    Calls Tryd.prog 3 #[.string a, .string b, .string c, .string d, .string e, .string f] w (RetB w true) := by
  have HT := Lib.hid ht
  clear ht
  go_enter Tryd.func3, Tryd.ntmps3
  go_wp2_with fail
  refine (first2_any _ HT.out).mono ?_
  rintro r w1 ⟨rfl, hb1⟩
  have H1 := Lib.hid hb1
  clear hb1
  go_wp2
  go_ret
  exact ⟨rfl, H1.out⟩
set_option maxHeartbeats 2000000 in
set_option maxRecDepth 100000 in
theorem field_long2 (a b c d e f : ByteArray) (w : World) (ht : Tab w) (h0 : (a.size : Int) ≤ 15) (h1 : (b.size : Int) ≤ 15) (hk : (15 : Int) < c.size) :
    Calls Tryd.prog 3 #[.string a, .string b, .string c, .string d, .string e, .string f] w (RetB w true) := by
  have HT := Lib.hid ht
  clear ht
  go_enter Tryd.func3, Tryd.ntmps3
  go_wp2_with fail
  refine (first2_any _ HT.out).mono ?_
  rintro r w1 ⟨rfl, hb1⟩
  have H1 := Lib.hid hb1
  clear hb1
  go_wp2
  go_ret
  exact ⟨rfl, H1.out⟩
set_option maxHeartbeats 2000000 in
set_option maxRecDepth 100000 in
theorem field_long3 (a b c d e f : ByteArray) (w : World) (ht : Tab w) (h0 : (a.size : Int) ≤ 15) (h1 : (b.size : Int) ≤ 15) (h2 : (c.size : Int) ≤ 15) (hk : (15 : Int) < d.size) :
    Calls Tryd.prog 3 #[.string a, .string b, .string c, .string d, .string e, .string f] w (RetB w true) := by
  have HT := Lib.hid ht
  clear ht
  go_enter Tryd.func3, Tryd.ntmps3
  go_wp2_with fail
  refine (first2_any _ HT.out).mono ?_
  rintro r w1 ⟨rfl, hb1⟩
  have H1 := Lib.hid hb1
  clear hb1
  go_wp2
  go_ret
  exact ⟨rfl, H1.out⟩
set_option maxHeartbeats 2000000 in
set_option maxRecDepth 100000 in
theorem field_long4 (a b c d e f : ByteArray) (w : World) (ht : Tab w) (h0 : (a.size : Int) ≤ 15) (h1 : (b.size : Int) ≤ 15) (h2 : (c.size : Int) ≤ 15) (h3 : (d.size : Int) ≤ 15) (hk : (15 : Int) < e.size) :
    Calls Tryd.prog 3 #[.string a, .string b, .string c, .string d, .string e, .string f] w (RetB w true) := by
  have HT := Lib.hid ht
  clear ht
  go_enter Tryd.func3, Tryd.ntmps3
  go_wp2_with fail
  refine (first2_any _ HT.out).mono ?_
  rintro r w1 ⟨rfl, hb1⟩
  have H1 := Lib.hid hb1
  clear hb1
  go_wp2
  go_ret
  exact ⟨rfl, H1.out⟩
set_option maxHeartbeats 2000000 in
set_option maxRecDepth 100000 in
theorem field_long5 (a b c d e f : ByteArray) (w : World) (ht : Tab w) (h0 : (a.size : Int) ≤ 15) (h1 : (b.size : Int) ≤ 15) (h2 : (c.size : Int) ≤ 15) (h3 : (d.size : Int) ≤ 15) (h4 : (e.size : Int) ≤ 15) (hk : (15 : Int) < f.size) :
    Calls Tryd.prog 3 #[.string a, .string b, .string c, .string d, .string e, .string f] w (RetB w true) := by
  have HT := Lib.hid ht
  clear ht
  go_enter Tryd.func3, Tryd.ntmps3
  go_wp2_with fail
  refine (first2_any _ HT.out).mono ?_
  rintro r w1 ⟨rfl, hb1⟩
  have H1 := Lib.hid hb1
  clear hb1
  go_wp2
  go_ret
  exact ⟨rfl, H1.out⟩
theorem field_walk (a b c d e f : ByteArray) (w : World) (ha : a.size ≤ maxLen) (hb : b.size ≤ maxLen) (hc : c.size ≤ maxLen) (hd : d.size ≤ maxLen) (he : e.size ≤ maxLen) (hf : f.size ≤ maxLen) (ht : Tab w) :
    Calls Tryd.prog 3 #[.string a, .string b, .string c, .string d, .string e, .string f] w (RetB w true) := by
  by_cases k0 : a.size ≤ 15
  · by_cases k1 : b.size ≤ 15
    · by_cases k2 : c.size ≤ 15
      · by_cases k3 : d.size ≤ 15
        · by_cases k4 : e.size ≤ 15
          · by_cases k5 : f.size ≤ 15
            · exact field_main a b c d e f w ht k0 k1 k2 k3 k4 k5
            · exact field_long5 a b c d e f w ht (by omega) (by omega) (by omega) (by omega) (by omega) (by omega)
          · exact field_long4 a b c d e f w ht (by omega) (by omega) (by omega) (by omega) (by omega)
        · exact field_long3 a b c d e f w ht (by omega) (by omega) (by omega) (by omega)
      · exact field_long2 a b c d e f w ht (by omega) (by omega) (by omega)
    · exact field_long1 a b c d e f w ht (by omega) (by omega)
  · exact field_long0 a b c d e f w ht  (by omega)
end Go.Proofs.YtfnkmgipjemkdaaDoor
