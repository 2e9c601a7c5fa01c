/- The program's asNumber; two objects in boxes beside a result. -/
import Derived.Test.YtfnkmgipjemkdaaDoorM39
import Derived.Deep.RegionWith
import Derived.Deep.DeepCutAuto
namespace Go.Proofs.YtfnkmgipjemkdaaDoor
open Go Go.RowKit
set_option linter.unusedVariables false

/-- A number as a value. -/
def vQ (q : Rat) : Value := .agg #[.int .i64 1, .string (nt q), .string (dt q), .string ⟨#[]⟩, .string ⟨#[]⟩, .string ⟨#[]⟩, .slice none 0 0]
theorem vQ_eq (q : Rat) : vO (.num q) (.slice none 0 0) = vQ q := rfl
/-- The call returned a number. -/
def RetN (w : World) (q : Rat) (e : Ending) (w' : World) : Prop := e = .returned (vQ q) ∧ Below w.heap.size w w'
theorem RetO.num {w w' : World} {S : Nat → Prop} {q : Rat} {e : Ending} (h : RetO w S (.num q) e w') : RetN w q e w' := by
  obtain ⟨p, rfl, hp, hb⟩ := h
  have e : p = .slice none 0 0 := hp
  subst e
  exact ⟨rfl, hb⟩
theorem RetN.obj {w w' : World} {q : Rat} {e : Ending} (S : Nat → Prop) (h : RetN w q e w') : RetO w S (.num q) e w' := ⟨.slice none 0 0, h.1, rfl, h.2⟩
theorem ratN (s t : ByteArray) (w : World) (hs : s.size ≤ 400000000) (ht : t.size ≤ 400000000) : Calls Tryd.prog 5 #[.string s, .string t] w (RetN w (quo (LA s) (LA t))) :=
  (ratP s t w (fun _ => False) (fun _ h => h.elim) hs ht).mono fun _ _ h => h.num
theorem i64_small {n : Int} (h : -1000000 ≤ n ∧ n ≤ 1000000) : Hid (I64 n) := by show I64 n; unfold I64; omega
/-- A function returns the number that lies in its result's block. -/
theorem retN {fn : Func} {q : Tmp} {w0 w : World} {tmps : Array Value} {g : Nat} {x : Rat} {t : TypeId} {fr : Nat × Nat} {cs : Array Value}
    (h : fn.results = #[.cell q 27]) (hq : tmps.getD q undef = .pointer (some ⟨g, 0, none⟩)) (hg : w.heap[g]? = some (.cells cs t fr)) (hc : Value.agg cs = vQ x) (hb : Below w0.heap.size w0 w) :
    bodyPost Tryd.prog fn (RetN w0 x) Exit.ret ⟨tmps, []⟩ w := by
  have hs : cs.size = 7 := by unfold vQ at hc; injection hc with hc; rw [hc]; rfl
  exact retO h hq hg hs ⟨by rw [hc], hb⟩
/-- A store of a number into its block. -/
theorem storeN {ops : Array Oper} {rest : List Oper} {o : Oper} {a : Act} {w : World} {Q : Exit → Act → World → Prop} (hgd : o.guard = none) (x y : Operand) (ho : o.op = .store 27 x y)
    (g : Nat) (q : Rat) (hx : a.eval x = .pointer (some ⟨g, 0, none⟩)) (hy : a.eval y = vQ q)
    (t : TypeId) (old : Array Value) (hg : w.heap[g]? = some (.cells old t (0, 0))) (hold : old.size = 7)
    (h : wpList Tryd.prog ops Q rest (a.put o.dst undef) (w.setRow g #[.int .i64 1, .string (nt q), .string (dt q), .string ⟨#[]⟩, .string ⟨#[]⟩, .string ⟨#[]⟩, .slice none 0 0])) : wpList Tryd.prog ops Q (o :: rest) a w :=
  storeO hgd x y ho g _ hx hy t old hg hold (by simp) (by simp [Value.oneCell']) h
/-- Seven stores are one of a whole row. -/
theorem setRow7 {w : World} {g : Nat} {old : Array Value} {t : TypeId} (h : w.heap[g]? = some (.cells old t (0, 0))) (hs : old.size = 7) (a0 a1 a2 a3 a4 a5 a6 : Value) :
    ((((((w.setCell ⟨g, 0, none⟩ a0).setCell ⟨g, 1, none⟩ a1).setCell ⟨g, 2, none⟩ a2).setCell ⟨g, 3, none⟩ a3).setCell ⟨g, 4, none⟩ a4).setCell ⟨g, 5, none⟩ a5).setCell ⟨g, 6, none⟩ a6 = w.setRow g #[a0, a1, a2, a3, a4, a5, a6] := by
  obtain ⟨old⟩ := old
  match old, hs with
  | [o0, o1, o2, o3, o4, o5, o6], _ =>
    rw [setCell_eq_setRow _ g 0 _ t _ a0 h]
    have h1 := setRow_heap w g _ (#[o0, o1, o2, o3, o4, o5, o6].setIfInBounds 0 a0) _ _ h
    rw [setCell_eq_setRow _ g 1 _ t _ a1 h1, setRow_setRow]
    have h2 := setRow_heap w g _ ((#[o0, o1, o2, o3, o4, o5, o6].setIfInBounds 0 a0).setIfInBounds 1 a1) _ _ h
    rw [setCell_eq_setRow _ g 2 _ t _ a2 h2, setRow_setRow]
    have h3 := setRow_heap w g _ (((#[o0, o1, o2, o3, o4, o5, o6].setIfInBounds 0 a0).setIfInBounds 1 a1).setIfInBounds 2 a2) _ _ h
    rw [setCell_eq_setRow _ g 3 _ t _ a3 h3, setRow_setRow]
    have h4 := setRow_heap w g _ ((((#[o0, o1, o2, o3, o4, o5, o6].setIfInBounds 0 a0).setIfInBounds 1 a1).setIfInBounds 2 a2).setIfInBounds 3 a3) _ _ h
    rw [setCell_eq_setRow _ g 4 _ t _ a4 h4, setRow_setRow]
    have h5 := setRow_heap w g _ (((((#[o0, o1, o2, o3, o4, o5, o6].setIfInBounds 0 a0).setIfInBounds 1 a1).setIfInBounds 2 a2).setIfInBounds 3 a3).setIfInBounds 4 a4) _ _ h
    rw [setCell_eq_setRow _ g 5 _ t _ a5 h5, setRow_setRow]
    have h6 := setRow_heap w g _ ((((((#[o0, o1, o2, o3, o4, o5, o6].setIfInBounds 0 a0).setIfInBounds 1 a1).setIfInBounds 2 a2).setIfInBounds 3 a3).setIfInBounds 4 a4).setIfInBounds 5 a5) _ _ h
    rw [setCell_eq_setRow _ g 6 _ t _ a6 h6, setRow_setRow]
    rfl
/-- The cells and the marks of a row of seven. -/
theorem row7 {w : World} {g : Nat} {t : TypeId} {a0 a1 a2 a3 a4 a5 a6 : Value} (h : w.heap[g]? = some (.cells #[a0, a1, a2, a3, a4, a5, a6] t (0, 0))) :
    (w.cell? ⟨g, 0, none⟩ = some a0 ∧ w.cell? ⟨g, 1, none⟩ = some a1 ∧ w.cell? ⟨g, 2, none⟩ = some a2 ∧ w.cell? ⟨g, 3, none⟩ = some a3 ∧ w.cell? ⟨g, 4, none⟩ = some a4 ∧ w.cell? ⟨g, 5, none⟩ = some a5 ∧ w.cell? ⟨g, 6, none⟩ = some a6) ∧
      (∀ j, w.frozen? ⟨g, j, none⟩ = false) := by
  refine ⟨⟨?_, ?_, ?_, ?_, ?_, ?_, ?_⟩, fun j => by simp [World.frozen?, h]⟩
  all_goals (rw [cell_of_row _ _ _ _ _ _ h]; rfl)

set_option maxHeartbeats 1000000 in
set_option maxRecDepth 100000 in
theorem asNumP (a : Ob) (p : Value) (w : World) (hp : ∀ q, a = .num q → p = .slice none 0 0) (ht : Tab w) :
    Calls Tryd.prog 25 #[vO a p] w (RetN w a.fix) := by
  have HT := Lib.hid ht
  clear ht
  have hz : Hid (∀ w, Tab w → Calls Tryd.prog 6 #[.int .i64 0] w (RetN w 0)) := fun w ht =>
    (intP 0 w (fun _ => False) (i64_small (by omega)) ht).mono fun _ _ h => RetO.num h
  by_cases hk : (fO a).1 = 1
  · cases a with
    | num q =>
      obtain rfl := hp q rfl
      rw [vQ_eq]
      show Calls _ _ _ _ (RetN w q)
      unfold vQ
      clear hk hp hz
      go_enter Tryd.func25, Tryd.ntmps25
      go_wp2_with fail
      exact retN rfl rfl (heap_alloc2_new w _ _) rfl (Below.alloc (Below.alloc (Below.refl _ _) (Nat.le_refl _) _) (by simp) _)
    | _ => simp [fO] at hk
  · have hf : a.fix = 0 := by cases a <;> first | rfl | (exact absurd rfl hk)
    rw [hf]
    have e := cellsO_f a p
    unfold vO
    rw [e]
    have hn : ((fO a).1 != 1) = true := by rw [bne_iff_ne]; exact hk
    clear e hf hk hp
    generalize (fO a).1 = k at hn ⊢
    generalize (fO a).2 = y at ⊢
    obtain ⟨s1, s2, s3, s4, s5⟩ := y
    go_enter Tryd.func25, Tryd.ntmps25
    go_wp2_with fail
    have hb0 : Below w.heap.size w ((w.alloc (.cells #[.int .i64 k, .string s1, .string s2, .string s3, .string s4, .string s5, p] 27)).alloc (.cells #[.int .i64 0, .string ⟨#[]⟩, .string ⟨#[]⟩, .string ⟨#[]⟩, .string ⟨#[]⟩, .string ⟨#[]⟩, .slice none 0 0] 27)) := Below.alloc (Below.alloc (Below.refl _ _) (Nat.le_refl _) _) (by simp) _
    have hg0 := heap_alloc2_new w (.cells #[.int .i64 k, .string s1, .string s2, .string s3, .string s4, .string s5, p] 27) (.cells #[.int .i64 0, .string ⟨#[]⟩, .string ⟨#[]⟩, .string ⟨#[]⟩, .string ⟨#[]⟩, .string ⟨#[]⟩, .slice none 0 0] 27)
    refine (hz.out _ (HT.out.below hb0)).mono ?_
    rintro e w1 ⟨rfl, hb1⟩
    have hg1 := Lib.hid ((hb1.block (w.heap.size + 1) (by simp)).trans hg0)
    have hbw := Lib.hid (hb0.trans (hb1.mono hb0.size))
    clear hb0 hb1 hg0
    go_wp2_with (refine storeN rfl (.tmp 2) (.tmp 6) rfl (w.heap.size + 1) 0 rfl rfl _ _ hg1.out rfl ?_)
    exact retN (q := 2) (g := w.heap.size + 1) rfl rfl (setRow_heap _ _ _ _ _ _ hg1.out) rfl (below_setRowO hbw.out (by omega) _)
end Go.Proofs.YtfnkmgipjemkdaaDoor

/- The program's Product. -/
namespace Go.Proofs.YtfnkmgipjemkdaaDoor
open Go Go.RowKit
set_option linter.unusedVariables false

/-- Seven cells. -/
abbrev row (a0 a1 a2 a3 a4 a5 a6 : Value) : Array Value := #[a0, a1, a2, a3, a4, a5, a6]
/-- Two objects in their boxes, a result beside them. -/
structure Three (w W : World) (x y : Array Value) : Prop where
  b0 : W.heap[w.heap.size]? = some (.cells x 27 (0, 0))
  b1 : W.heap[w.heap.size + 1]? = some (.cells y 27 (0, 0))
  b2 : ∃ z : Array Value, z.size = 7 ∧ W.heap[w.heap.size + 1 + 1]? = some (.cells z 27 (0, 0))
  bel : Below w.heap.size w W
  size : w.heap.size + 3 ≤ W.heap.size
theorem Three.new (w : World) (x y z : Array Value) (hz : z.size = 7) : Three w (((w.alloc (.cells x 27)).alloc (.cells y 27)).alloc (.cells z 27)) x y := by
  refine ⟨?_, ?_, ⟨z, hz, heap_new_at (by simp)⟩, Below.alloc (Below.alloc (Below.alloc (Below.refl _ _) (Nat.le_refl _) _) (by simp) _) (by simp; omega) _, by simp⟩
  · rw [Below.heap_alloc _ _ _ (by simp; omega)]; exact heap_alloc2_old w _ _
  · rw [Below.heap_alloc _ _ _ (by simp)]; exact heap_alloc2_new w _ _
theorem Three.below {w W W' : World} {x y : Array Value} (h : Three w W x y) (hb : Below W.heap.size W W') : Three w W' x y := by
  have := h.size
  obtain ⟨z, hz, h2⟩ := h.b2
  exact ⟨(hb.block _ (by omega)).trans h.b0, (hb.block _ (by omega)).trans h.b1, ⟨z, hz, (hb.block _ (by omega)).trans h2⟩, h.bel.trans (hb.mono (by omega)), Nat.le_trans h.size hb.size⟩
/-- Both objects are numbers now. -/
theorem Three.set {w W : World} {x y : Array Value} (h : Three w W x y) (hx : x.size = 7) (hy : y.size = 7) (a0 a1 a2 a3 a4 a5 a6 b0 b1 b2 b3 b4 b5 b6 : Value) :
    Three w (((((((((((((((W.setCell ⟨w.heap.size, 0, none⟩ a0).setCell ⟨w.heap.size, 1, none⟩ a1).setCell ⟨w.heap.size, 2, none⟩ a2).setCell ⟨w.heap.size, 3, none⟩ a3).setCell ⟨w.heap.size, 4, none⟩ a4).setCell ⟨w.heap.size, 5, none⟩ a5).setCell ⟨w.heap.size, 6, none⟩ a6).setCell
      ⟨w.heap.size + 1, 0, none⟩ b0).setCell ⟨w.heap.size + 1, 1, none⟩ b1).setCell ⟨w.heap.size + 1, 2, none⟩ b2).setCell ⟨w.heap.size + 1, 3, none⟩ b3).setCell ⟨w.heap.size + 1, 4, none⟩ b4).setCell ⟨w.heap.size + 1, 5, none⟩ b5).setCell ⟨w.heap.size + 1, 6, none⟩ b6)) #[a0, a1, a2, a3, a4, a5, a6] #[b0, b1, b2, b3, b4, b5, b6] := by
  rw [setRow7 h.b0 hx]
  have h1 : (W.setRow w.heap.size #[a0, a1, a2, a3, a4, a5, a6]).heap[w.heap.size + 1]? = _ := (setRow_other _ _ _ _ (by omega)).trans h.b1
  rw [setRow7 h1 hy]
  obtain ⟨z, hz, h2⟩ := h.b2
  refine ⟨?_, setRow_heap _ _ _ _ _ _ h1, ⟨z, hz, ?_⟩, below_setRowO (below_setRowO h.bel (Nat.le_refl _) _) (by omega) _, by rw [size_setRow, size_setRow]; exact h.size⟩
  · rw [setRow_other _ _ _ _ (by omega)]; exact setRow_heap _ _ _ _ _ _ h.b0
  · rw [setRow_other _ _ _ _ (by omega), setRow_other _ _ _ _ (by omega)]; exact h2
theorem row7z {w : World} {g : Nat} {t : TypeId} {z : Array Value} (hz : z.size = 7) (h : w.heap[g]? = some (.cells z t (0, 0))) :
    ∃ a0 a1 a2 a3 a4 a5 a6, (w.cell? ⟨g, 0, none⟩ = some a0 ∧ w.cell? ⟨g, 1, none⟩ = some a1 ∧ w.cell? ⟨g, 2, none⟩ = some a2 ∧ w.cell? ⟨g, 3, none⟩ = some a3 ∧ w.cell? ⟨g, 4, none⟩ = some a4 ∧ w.cell? ⟨g, 5, none⟩ = some a5 ∧ w.cell? ⟨g, 6, none⟩ = some a6) ∧
      (∀ j, w.frozen? ⟨g, j, none⟩ = false) := by
  obtain ⟨z⟩ := z
  match z, hz with
  | [a0, a1, a2, a3, a4, a5, a6], _ => exact ⟨a0, a1, a2, a3, a4, a5, a6, row7 h⟩
/-- The result is stored and returned. -/
theorem Three.ret {w W : World} {x y : Array Value} (T : Three w W x y) (q : Rat) {fn : Func} {r : Tmp} {tmps : Array Value} (h : fn.results = #[.cell r 27]) (hr : tmps.getD r undef = .pointer (some ⟨w.heap.size + 1 + 1, 0, none⟩)) :
    bodyPost Tryd.prog fn (RetN w q) Exit.ret ⟨tmps, []⟩ (((((((W.setCell ⟨w.heap.size + 1 + 1, 0, none⟩ (.int .i64 1)).setCell ⟨w.heap.size + 1 + 1, 1, none⟩ (.string (nt q))).setCell ⟨w.heap.size + 1 + 1, 2, none⟩ (.string (dt q))).setCell ⟨w.heap.size + 1 + 1, 3, none⟩ (.string ⟨#[]⟩)).setCell ⟨w.heap.size + 1 + 1, 4, none⟩ (.string ⟨#[]⟩)).setCell ⟨w.heap.size + 1 + 1, 5, none⟩ (.string ⟨#[]⟩)).setCell ⟨w.heap.size + 1 + 1, 6, none⟩ (.slice none 0 0)) := by
  obtain ⟨z, hz, h2⟩ := T.b2
  rw [setRow7 h2 hz]
  exact retN h hr (setRow_heap _ _ _ _ _ _ h2) rfl (below_setRowO T.bel (by omega) _)

set_option maxHeartbeats 8000000 in
set_option maxRecDepth 100000 in
theorem productP (d : Nat) (hd : d ≤ 1000) (a a' : Ob) (p p' : Value) (w : World) (S : Nat → Prop) (hp : Pair w S a p) (hp' : Pair w S a' p') (hb : Bd d a.fix) (hb' : Bd d a'.fix) (ht : Tab w) :
    Calls Tryd.prog 8 #[vO a p, vO a' p'] w (RetN w (a.fix * a'.fix)) := by
  have HT := Lib.hid ht
  have A1 : Hid (∀ wd, Tab wd → Calls Tryd.prog 25 #[vO a p] wd (RetN wd a.fix)) := fun wd h => asNumP a p wd (fun q e => by subst e; exact hp) h
  have A2 : Hid (∀ wd, Tab wd → Calls Tryd.prog 25 #[vO a' p'] wd (RetN wd a'.fix)) := fun wd h => asNumP a' p' wd (fun q e => by subst e; exact hp') h
  clear ht hp hp'
  generalize a.fix = x at A1 hb ⊢
  generalize a'.fix = y at A2 hb' ⊢
  obtain ⟨x0, x1, x2, x3, x4, x5, e⟩ := cells7 a p
  obtain ⟨y0, y1, y2, y3, y4, y5, e'⟩ := cells7 a' p'
  unfold vO at A1 A2
  rw [e] at A1
  rw [e'] at A2
  unfold vO
  rw [e, e']
  clear e e'
  go_enter Tryd.func8, Tryd.ntmps8
  go_wp2_with fail
  have T0 := Three.new w #[x0, x1, x2, x3, x4, x5, p] #[y0, y1, y2, y3, y4, y5, p'] #[.int .i64 0, .string ⟨#[]⟩, .string ⟨#[]⟩, .string ⟨#[]⟩, .string ⟨#[]⟩, .string ⟨#[]⟩, .slice none 0 0] rfl
  generalize ((w.alloc (.cells #[x0, x1, x2, x3, x4, x5, p] 27)).alloc (.cells #[y0, y1, y2, y3, y4, y5, p'] 27)).alloc (.cells #[.int .i64 0, .string ⟨#[]⟩, .string ⟨#[]⟩, .string ⟨#[]⟩, .string ⟨#[]⟩, .string ⟨#[]⟩, .slice none 0 0] 27) = W at T0 ⊢
  go_upto_region 1 with fail
  go_cut [4] (fun s4 wx => s4 = .pointer (some ⟨w.heap.size + 1 + 1, 0, none⟩) ∧ Hid (Three w wx #[.int .i64 1, .string (nt x), .string (dt x), .string ⟨#[]⟩, .string ⟨#[]⟩, .string ⟨#[]⟩, .slice none 0 0] #[.int .i64 1, .string (nt y), .string (dt y), .string ⟨#[]⟩, .string ⟨#[]⟩, .string ⟨#[]⟩, .slice none 0 0]))
  case first =>
    have hB0 : Below W.heap.size W W.drew := (Below.refl _ _).drew
    obtain ⟨⟨c0, c1, c2, c3, c4, c5, c6⟩, f0⟩ := row7 T0.b0
    obtain ⟨⟨d0, d1, d2, d3, d4, d5, d6⟩, f1⟩ := row7 T0.b1
    have HB : Hid (∀ W', Below W.heap.size W W' → Tab W') := fun W' h => HT.out.below (T0.below h).bel
    go_region_with (first
      | (go_at_call_of 25 (Value.agg #[x0, x1, x2, x3, x4, x5, p]); refine (A1.out _ (HB.out _ ‹Below W.heap.size W _›)).mono ?_; rintro e w3 ⟨rfl, hb3⟩; have hB3 := chain2 ‹Below W.heap.size W _› hb3 (Nat.le_refl _); obtain ⟨⟨c0, c1, c2, c3, c4, c5, c6⟩, f0⟩ := row7 (T0.below hB3).b0; obtain ⟨⟨d0, d1, d2, d3, d4, d5, d6⟩, f1⟩ := row7 (T0.below hB3).b1; unfold vQ)
      | (go_at_call_of 25 (Value.agg #[y0, y1, y2, y3, y4, y5, p']); refine (A2.out _ (HB.out _ ‹Below W.heap.size W _›)).mono ?_; rintro e w4 ⟨rfl, hb4⟩; have hB4 := chain2 ‹Below W.heap.size W _› hb4 (Nat.le_refl _); obtain ⟨⟨c0, c1, c2, c3, c4, c5, c6⟩, f0⟩ := row7 (T0.below hB4).b0; obtain ⟨⟨d0, d1, d2, d3, d4, d5, d6⟩, f1⟩ := row7 (T0.below hB4).b1; unfold vQ))
    all_goals (go_wp2_with fail; go_meet; exact ⟨rfl, Three.set (T0.below ‹Below W.heap.size W _›) rfl rfl _ _ _ _ _ _ _ _ _ _ _ _ _ _⟩)
  case rest =>
    obtain ⟨rfl, T⟩ := hcut
    have b1 := bd_nt hb
    have b2 := bd_dt hb
    have b3 := bd_nt hb'
    have b4 := bd_dt hb'
    have hv : Hid (quo (LA (BA (text (val (LA (nt x)) * val (LA (nt y)))))) (LA (BA (text (val (LA (dt x)) * val (LA (dt y)))))) = x * y) := by
      show _ = _
      rw [val_nt, val_dt, val_nt, val_dt, quo_text, q_mul]
    have s1 : (BA (text (val (LA (nt x)) * val (LA (nt y))))).size ≤ 3000 := by
      rw [val_nt, val_nt, BA_size]
      refine Nat.le_trans (text_length (k := d + d) ?_) (by omega)
      rw [Int.natAbs_mul]
      exact lt_pow_mul hb.1 hb'.1
    have s2 : (BA (text (val (LA (dt x)) * val (LA (dt y))))).size ≤ 3000 := by
      rw [val_dt, val_dt, BA_size]
      refine Nat.le_trans (text_length (k := d + d) ?_) (by omega)
      rw [Int.natAbs_mul]
      exact lt_pow_mul hb.2 hb'.2
    have RN : Hid (∀ W, Calls Tryd.prog 5 #[.string (BA (text (val (LA (nt x)) * val (LA (nt y))))), .string (BA (text (val (LA (dt x)) * val (LA (dt y)))))] W (RetN W (x * y))) := fun W => by
      rw [← hv.out]; exact ratN _ _ _ (by omega) (by omega)
    clear hb hb' A1 A2 T0 hv s1 s2
    generalize nt x = nx at b1 T RN
    generalize dt x = dx at b2 T RN
    generalize nt y = ny at b3 T RN
    generalize dt y = dy at b4 T RN
    obtain ⟨⟨_, c1, c2, _, _, _, _⟩, _⟩ := row7 T.out.b0
    obtain ⟨⟨_, d1, d2, _, _, _, _⟩, _⟩ := row7 T.out.b1
    have hB0 : Below wc.heap.size wc wc.drew := (Below.refl _ _).drew
    have n1 : ¬ w.heap.size + 1 + 1 = w.heap.size := by omega
    have n2 : ¬ w.heap.size + 1 + 1 = w.heap.size + 1 := by omega
    go_wp2_with fail
    go_region_held3 (fun W' => W'.cell? ⟨w.heap.size, 1, none⟩ = some (.string nx) ∧ W'.cell? ⟨w.heap.size, 2, none⟩ = some (.string dx) ∧ W'.cell? ⟨w.heap.size + 1, 1, none⟩ = some (.string ny) ∧ W'.cell? ⟨w.heap.size + 1, 2, none⟩ = some (.string dy)) (go_keep)
      (first
        | (go_at_call 26; refine (multiply_any _ _ _ (by omega) (by omega)).mono ?_; rintro e w3 ⟨rfl, hb3⟩; have hB3 := chain2 ‹Below wc.heap.size wc _› hb3 (Nat.le_refl _); obtain ⟨⟨_, c1, c2, _, _, _, _⟩, _⟩ := row7 (T.out.below hB3).b0; obtain ⟨⟨_, d1, d2, _, _, _, _⟩, _⟩ := row7 (T.out.below hB3).b1)
        | (go_at_call 5; refine (RN.out _).mono ?_; rintro e w4 ⟨rfl, hb4⟩; have hB4 := chain2 ‹Below wc.heap.size wc _› hb4 (Nat.le_refl _); obtain ⟨⟨_, c1, c2, _, _, _, _⟩, _⟩ := row7 (T.out.below hB4).b0; obtain ⟨⟨_, d1, d2, _, _, _, _⟩, _⟩ := row7 (T.out.below hB4).b1; obtain ⟨z, hz, hz2⟩ := (T.out.below hB4).b2; obtain ⟨z0, z1, z2, z3, z4, z5, z6, ⟨q0, q1, q2, q3, q4, q5, q6⟩, f2⟩ := row7z hz hz2; clear hz hz2; unfold vQ))
    all_goals go_wp2
    all_goals exact Three.ret (T.out.below ‹Below wc.heap.size wc _›) _ rfl rfl
end Go.Proofs.YtfnkmgipjemkdaaDoor

/- The program's Sum. -/
namespace Go.Proofs.YtfnkmgipjemkdaaDoor
open Go Go.RowKit
set_option linter.unusedVariables false

theorem q_add_same {x y : Rat} (h : x.den = y.den) : Rat.divInt (x.num + y.num) (x.den : Int) = x + y := by
  rw [← q_add, ← h, ← Int.add_mul]
  rw [Rat.divInt_mul_right (by exact_mod_cast x.den_nz)]
set_option maxHeartbeats 8000000 in
set_option maxRecDepth 100000 in
theorem sumP (d : Nat) (hd : d ≤ 1000) (a a' : Ob) (p p' : Value) (w : World) (S : Nat → Prop) (hp : Pair w S a p) (hp' : Pair w S a' p') (hb : Bd d a.fix) (hb' : Bd d a'.fix) (ht : Tab w) :
    Calls Tryd.prog 10 #[vO a p, vO a' p'] w (RetN w (a.fix + a'.fix)) := by
  have HT := Lib.hid ht
  have A1 : Hid (∀ wd, Tab wd → Calls Tryd.prog 25 #[vO a p] wd (RetN wd a.fix)) := fun wd h => asNumP a p wd (fun q e => by subst e; exact hp) h
  have A2 : Hid (∀ wd, Tab wd → Calls Tryd.prog 25 #[vO a' p'] wd (RetN wd a'.fix)) := fun wd h => asNumP a' p' wd (fun q e => by subst e; exact hp') h
  clear ht hp hp'
  generalize a.fix = x at A1 hb ⊢
  generalize a'.fix = y at A2 hb' ⊢
  obtain ⟨x0, x1, x2, x3, x4, x5, e⟩ := cells7 a p
  obtain ⟨y0, y1, y2, y3, y4, y5, e'⟩ := cells7 a' p'
  unfold vO at A1 A2
  rw [e] at A1
  rw [e'] at A2
  unfold vO
  rw [e, e']
  clear e e'
  go_enter Tryd.func10, Tryd.ntmps10
  go_wp2_with fail
  have T0 := Three.new w #[x0, x1, x2, x3, x4, x5, p] #[y0, y1, y2, y3, y4, y5, p'] #[.int .i64 0, .string ⟨#[]⟩, .string ⟨#[]⟩, .string ⟨#[]⟩, .string ⟨#[]⟩, .string ⟨#[]⟩, .slice none 0 0] rfl
  generalize ((w.alloc (.cells #[x0, x1, x2, x3, x4, x5, p] 27)).alloc (.cells #[y0, y1, y2, y3, y4, y5, p'] 27)).alloc (.cells #[.int .i64 0, .string ⟨#[]⟩, .string ⟨#[]⟩, .string ⟨#[]⟩, .string ⟨#[]⟩, .string ⟨#[]⟩, .slice none 0 0] 27) = W at T0 ⊢
  go_upto_region 1 with fail
  go_cut [4] (fun s4 wx => s4 = .pointer (some ⟨w.heap.size + 1 + 1, 0, none⟩) ∧ Hid (Three w wx #[.int .i64 1, .string (nt x), .string (dt x), .string ⟨#[]⟩, .string ⟨#[]⟩, .string ⟨#[]⟩, .slice none 0 0] #[.int .i64 1, .string (nt y), .string (dt y), .string ⟨#[]⟩, .string ⟨#[]⟩, .string ⟨#[]⟩, .slice none 0 0]))
  case first =>
    have hB0 : Below W.heap.size W W.drew := (Below.refl _ _).drew
    obtain ⟨⟨c0, c1, c2, c3, c4, c5, c6⟩, f0⟩ := row7 T0.b0
    obtain ⟨⟨d0, d1, d2, d3, d4, d5, d6⟩, f1⟩ := row7 T0.b1
    have HB : Hid (∀ W', Below W.heap.size W W' → Tab W') := fun W' h => HT.out.below (T0.below h).bel
    go_region_with (first
      | (go_at_call_of 25 (Value.agg #[x0, x1, x2, x3, x4, x5, p]); refine (A1.out _ (HB.out _ ‹Below W.heap.size W _›)).mono ?_; rintro e w3 ⟨rfl, hb3⟩; have hB3 := chain2 ‹Below W.heap.size W _› hb3 (Nat.le_refl _); obtain ⟨⟨c0, c1, c2, c3, c4, c5, c6⟩, f0⟩ := row7 (T0.below hB3).b0; obtain ⟨⟨d0, d1, d2, d3, d4, d5, d6⟩, f1⟩ := row7 (T0.below hB3).b1; unfold vQ)
      | (go_at_call_of 25 (Value.agg #[y0, y1, y2, y3, y4, y5, p']); refine (A2.out _ (HB.out _ ‹Below W.heap.size W _›)).mono ?_; rintro e w4 ⟨rfl, hb4⟩; have hB4 := chain2 ‹Below W.heap.size W _› hb4 (Nat.le_refl _); obtain ⟨⟨c0, c1, c2, c3, c4, c5, c6⟩, f0⟩ := row7 (T0.below hB4).b0; obtain ⟨⟨d0, d1, d2, d3, d4, d5, d6⟩, f1⟩ := row7 (T0.below hB4).b1; unfold vQ))
    all_goals (go_wp2_with fail; go_meet; exact ⟨rfl, Three.set (T0.below ‹Below W.heap.size W _›) rfl rfl _ _ _ _ _ _ _ _ _ _ _ _ _ _⟩)
  case rest =>
    obtain ⟨rfl, T⟩ := hcut
    have b1 := bd_nt hb
    have b2 := bd_dt hb
    have b3 := bd_nt hb'
    have b4 := bd_dt hb'
    have hB0 : Below wc.heap.size wc wc.drew := (Below.refl _ _).drew
    have n1 : ¬ w.heap.size + 1 + 1 = w.heap.size := by omega
    have n2 : ¬ w.heap.size + 1 + 1 = w.heap.size + 1 := by omega
    obtain ⟨⟨_, c1, c2, _, _, _, _⟩, _⟩ := row7 T.out.b0
    obtain ⟨⟨_, d1, d2, _, _, _, _⟩, _⟩ := row7 T.out.b1
    have m1 := lt_pow_mul hb.1 hb'.2
    have m2 := lt_pow_mul hb'.1 hb.2
    have m3 := lt_pow_mul hb.2 hb'.2
    have hp2 : 10 ^ (d + d + 1) = 10 ^ (d + d) * 10 := Nat.pow_succ ..
    cases hd2 : ((dt x).toList == (dt y).toList) with
    | true =>
      have hden := of_decide_eq_true (dt_beq (x := x) (y := y) ▸ hd2)
      have hv : Hid (quo (LA (BA (text (val (LA (nt x)) + val (LA (nt y)))))) (LA (dt x)) = x + y) := by
        show quo _ (LA (BA (text (x.den : Int)))) = _
        rw [val_nt, val_nt, quo_text, q_add_same hden]
      have s1 : (BA (text (val (LA (nt x)) + val (LA (nt y))))).size ≤ 3000 := by
        rw [val_nt, val_nt, BA_size]
        refine Nat.le_trans (text_length (k := d + 1) ?_) (by omega)
        have hp : 10 ^ (d + 1) = 10 ^ d * 10 := Nat.pow_succ ..
        have h1 := hb.1
        have h2 := hb'.1
        have h3 := Int.natAbs_add_le x.num y.num
        omega
      have RN : Hid (∀ W, Calls Tryd.prog 5 #[.string (BA (text (val (LA (nt x)) + val (LA (nt y))))), .string (dt x)] W (RetN W (x + y))) := fun W => by
        rw [← hv.out]; exact ratN _ _ _ (by omega) (by omega)
      clear hb hb' A1 A2 T0 hv s1 m1 m2 m3 hp2 hden
      generalize nt x = nx at *
      generalize dt x = dx at *
      generalize nt y = ny at *
      generalize dt y = dy at *
      go_wp2_with fail
      go_region_held3 (fun W' => W'.cell? ⟨w.heap.size, 1, none⟩ = some (.string nx) ∧ W'.cell? ⟨w.heap.size, 2, none⟩ = some (.string dx) ∧ W'.cell? ⟨w.heap.size + 1, 1, none⟩ = some (.string ny)) (go_keep)
        (first
          | (go_at_call 27; refine (add_any _ _ _ (by omega) (by omega)).mono ?_; rintro e w3 ⟨rfl, hb3⟩; have hB3 := chain2 ‹Below wc.heap.size wc _› hb3 (Nat.le_refl _); obtain ⟨⟨_, c1, c2, _, _, _, _⟩, _⟩ := row7 (T.out.below hB3).b0; obtain ⟨⟨_, d1, d2, _, _, _, _⟩, _⟩ := row7 (T.out.below hB3).b1)
          | (go_at_call 5; refine (RN.out _).mono ?_; rintro e w4 ⟨rfl, hb4⟩; have hB4 := chain2 ‹Below wc.heap.size wc _› hb4 (Nat.le_refl _); obtain ⟨⟨_, c1, c2, _, _, _, _⟩, _⟩ := row7 (T.out.below hB4).b0; obtain ⟨⟨_, d1, d2, _, _, _, _⟩, _⟩ := row7 (T.out.below hB4).b1; obtain ⟨z, hz, hz2⟩ := (T.out.below hB4).b2; obtain ⟨z0, z1, z2, z3, z4, z5, z6, ⟨q0, q1, q2, q3, q4, q5, q6⟩, f2⟩ := row7z hz hz2; clear hz hz2; unfold vQ))
      all_goals go_wp2
      all_goals exact Three.ret (T.out.below ‹Below wc.heap.size wc _›) _ rfl rfl
    | false =>
      have s1 : (BA (text (val (LA (nt x)) * val (LA (dt y))))).size ≤ 3000 := by
        rw [val_nt, val_dt, BA_size]
        refine Nat.le_trans (text_length (k := d + d) ?_) (by omega)
        rw [Int.natAbs_mul]
        exact m1
      have s2 : (BA (text (val (LA (nt y)) * val (LA (dt x))))).size ≤ 3000 := by
        rw [val_nt, val_dt, BA_size]
        refine Nat.le_trans (text_length (k := d + d) ?_) (by omega)
        rw [Int.natAbs_mul]
        exact m2
      have s3 : (BA (text (val (LA (dt x)) * val (LA (dt y))))).size ≤ 3000 := by
        rw [val_dt, val_dt, BA_size]
        refine Nat.le_trans (text_length (k := d + d) ?_) (by omega)
        rw [Int.natAbs_mul]
        exact m3
      have hA : Hid (∀ W, Calls Tryd.prog 27 #[.string (BA (text (val (LA (nt x)) * val (LA (dt y))))), .string (BA (text (val (LA (nt y)) * val (LA (dt x)))))] W (RetS W (x.num * (y.den : Int) + y.num * (x.den : Int)))) := fun W => by
        have h := add_any (BA (text (val (LA (nt x)) * val (LA (dt y))))) (BA (text (val (LA (nt y)) * val (LA (dt x))))) W (by omega) (by omega)
        rw [LA_BA, LA_BA, val_text, val_text, val_nt, val_dt, val_nt, val_dt] at h
        rw [val_nt, val_dt, val_nt, val_dt]
        exact h
      have s4 : (BA (text (x.num * (y.den : Int) + y.num * (x.den : Int)))).size ≤ 3000 := by
        rw [BA_size]
        refine Nat.le_trans (text_length (k := d + d + 1) ?_) (by omega)
        have h3 := Int.natAbs_add_le (x.num * (y.den : Int)) (y.num * (x.den : Int))
        rw [Int.natAbs_mul, Int.natAbs_mul, Int.natAbs_natCast, Int.natAbs_natCast] at h3
        omega
      have RN : Hid (∀ W, Calls Tryd.prog 5 #[.string (BA (text (x.num * (y.den : Int) + y.num * (x.den : Int)))), .string (BA (text (val (LA (dt x)) * val (LA (dt y)))))] W (RetN W (x + y))) := fun W => by
        have h := ratN (BA (text (x.num * (y.den : Int) + y.num * (x.den : Int)))) (BA (text (val (LA (dt x)) * val (LA (dt y))))) W (by omega) (by omega)
        rw [val_dt, val_dt, quo_text, q_add] at h
        rw [val_dt, val_dt]
        exact h
      clear hb hb' A1 A2 T0 m1 m2 m3 hp2 s1 s2 s3 s4
      generalize x.num * (y.den : Int) + y.num * (x.den : Int) = nn at hA RN
      generalize nt x = nx at *
      generalize dt x = dx at *
      generalize nt y = ny at *
      generalize dt y = dy at *
      go_wp2_with fail
      go_region_held3 (fun W' => W'.cell? ⟨w.heap.size, 1, none⟩ = some (.string nx) ∧ W'.cell? ⟨w.heap.size, 2, none⟩ = some (.string dx) ∧ W'.cell? ⟨w.heap.size + 1, 1, none⟩ = some (.string ny) ∧ W'.cell? ⟨w.heap.size + 1, 2, none⟩ = some (.string dy)) (go_keep)
        (first
          | (go_at_call 26; refine (multiply_any _ _ _ (by omega) (by omega)).mono ?_; rintro e w3 ⟨rfl, hb3⟩; have hB3 := chain2 ‹Below wc.heap.size wc _› hb3 (Nat.le_refl _); obtain ⟨⟨_, c1, c2, _, _, _, _⟩, _⟩ := row7 (T.out.below hB3).b0; obtain ⟨⟨_, d1, d2, _, _, _, _⟩, _⟩ := row7 (T.out.below hB3).b1)
          | (go_at_call 27; refine (hA.out _).mono ?_; rintro e w3 ⟨rfl, hb3⟩; have hB3 := chain2 ‹Below wc.heap.size wc _› hb3 (Nat.le_refl _); obtain ⟨⟨_, c1, c2, _, _, _, _⟩, _⟩ := row7 (T.out.below hB3).b0; obtain ⟨⟨_, d1, d2, _, _, _, _⟩, _⟩ := row7 (T.out.below hB3).b1))
      go_wp2_with fail
      refine (multiply_any _ _ _ (by omega) (by omega)).mono ?_
      rintro e w5 ⟨rfl, hb5⟩
      have hB5 := chain2 ‹Below wc.heap.size wc _› hb5 (Nat.le_refl _)
      go_wp2_with fail
      refine (RN.out _).mono ?_
      rintro e w6 ⟨rfl, hb6⟩
      have T6 := Lib.hid (T.out.below (chain2 hB5 hb6 (Nat.le_refl _)))
      obtain ⟨z, hz, hz2⟩ := T6.out.b2
      have HZ := Lib.hid hz2
      have HZ1 := Lib.hid hz
      clear hz hz2
      go_wp2_with (refine storeN rfl (.tmp 4) (.tmp 40) rfl (w.heap.size + 1 + 1) (x + y) rfl rfl _ _ HZ.out HZ1.out ?_)
      exact retN (q := 4) (g := w.heap.size + 1 + 1) rfl rfl (setRow_heap _ _ _ _ _ _ HZ.out) rfl (below_setRowO T6.out.bel (by omega) _)
end Go.Proofs.YtfnkmgipjemkdaaDoor

/- The program's Opposite, Reciprocal, Less. -/
namespace Go.Proofs.YtfnkmgipjemkdaaDoor
open Go Go.RowKit
set_option linter.unusedVariables false

/-- An object in its box, a result beside it. -/
structure TwoB (w W : World) (x : Array Value) : Prop where
  b0 : W.heap[w.heap.size]? = some (.cells x 27 (0, 0))
  b1 : ∃ z : Array Value, z.size = 7 ∧ W.heap[w.heap.size + 1]? = some (.cells z 27 (0, 0))
  bel : Below w.heap.size w W
  size : w.heap.size + 2 ≤ W.heap.size
theorem TwoB.new (w : World) (x z : Array Value) (hz : z.size = 7) : TwoB w ((w.alloc (.cells x 27)).alloc (.cells z 27)) x :=
  ⟨heap_alloc2_old w _ _, ⟨z, hz, heap_alloc2_new w _ _⟩, Below.alloc (Below.alloc (Below.refl _ _) (Nat.le_refl _) _) (by simp) _, by simp⟩
theorem TwoB.below {w W W' : World} {x : Array Value} (h : TwoB w W x) (hb : Below W.heap.size W W') : TwoB w W' x := by
  have := h.size
  obtain ⟨z, hz, h2⟩ := h.b1
  exact ⟨(hb.block _ (by omega)).trans h.b0, ⟨z, hz, (hb.block _ (by omega)).trans h2⟩, h.bel.trans (hb.mono (by omega)), Nat.le_trans h.size hb.size⟩
theorem TwoB.set {w W : World} {x : Array Value} (h : TwoB w W x) (y : Array Value) : TwoB w (W.setRow w.heap.size y) y := by
  obtain ⟨z, hz, h2⟩ := h.b1
  exact ⟨setRow_heap _ _ _ _ _ _ h.b0, ⟨z, hz, (setRow_other _ _ _ _ (by omega)).trans h2⟩, below_setRowO h.bel (Nat.le_refl _) _, by rw [size_setRow]; exact h.size⟩
theorem TwoB.ret {w W : World} {x : Array Value} (T : TwoB w W x) (q : Rat) {fn : Func} {r : Tmp} {tmps : Array Value} (h : fn.results = #[.cell r 27]) (hr : tmps.getD r undef = .pointer (some ⟨w.heap.size + 1, 0, none⟩)) :
    bodyPost Tryd.prog fn (RetN w q) Exit.ret ⟨tmps, []⟩ (((((((W.setCell ⟨w.heap.size + 1, 0, none⟩ (.int .i64 1)).setCell ⟨w.heap.size + 1, 1, none⟩ (.string (nt q))).setCell ⟨w.heap.size + 1, 2, none⟩ (.string (dt q))).setCell ⟨w.heap.size + 1, 3, none⟩ (.string ⟨#[]⟩)).setCell ⟨w.heap.size + 1, 4, none⟩ (.string ⟨#[]⟩)).setCell ⟨w.heap.size + 1, 5, none⟩ (.string ⟨#[]⟩)).setCell ⟨w.heap.size + 1, 6, none⟩ (.slice none 0 0)) := by
  obtain ⟨z, hz, h2⟩ := T.b1
  rw [setRow7 h2 hz]
  exact retN h hr (setRow_heap _ _ _ _ _ _ h2) rfl (below_setRowO T.bel (by omega) _)

set_option maxHeartbeats 8000000 in
set_option maxRecDepth 100000 in
theorem reciprocalP (d : Nat) (hd : d ≤ 1000) (a : Ob) (p : Value) (w : World) (S : Nat → Prop) (hp : Pair w S a p) (hb : Bd d a.fix) (ht : Tab w) :
    Calls Tryd.prog 9 #[vO a p] w (RetN w (a.fix⁻¹)) := by
  have HT := Lib.hid ht
  have A1 : Hid (∀ wd, Tab wd → Calls Tryd.prog 25 #[vO a p] wd (RetN wd a.fix)) := fun wd h => asNumP a p wd (fun q e => by subst e; exact hp) h
  clear ht hp
  generalize a.fix = x at A1 hb ⊢
  obtain ⟨x0, x1, x2, x3, x4, x5, e⟩ := cells7 a p
  unfold vO at A1
  rw [e] at A1
  unfold vO
  rw [e]
  clear e
  go_enter Tryd.func9, Tryd.ntmps9
  go_wp2_with fail
  have T0 := TwoB.new w #[x0, x1, x2, x3, x4, x5, p] #[.int .i64 0, .string ⟨#[]⟩, .string ⟨#[]⟩, .string ⟨#[]⟩, .string ⟨#[]⟩, .string ⟨#[]⟩, .slice none 0 0] rfl
  generalize (w.alloc (.cells #[x0, x1, x2, x3, x4, x5, p] 27)).alloc (.cells #[.int .i64 0, .string ⟨#[]⟩, .string ⟨#[]⟩, .string ⟨#[]⟩, .string ⟨#[]⟩, .string ⟨#[]⟩, .slice none 0 0] 27) = W at T0 ⊢
  refine (A1.out _ (HT.out.below T0.bel)).mono ?_
  rintro e w1 ⟨rfl, hb1⟩
  have T1 := Lib.hid (T0.below hb1)
  have HZ := Lib.hid T1.out.b0
  have b1 := bd_nt hb
  have b2 := bd_dt hb
  have RN : Hid (∀ W, Calls Tryd.prog 5 #[.string (dt x), .string (nt x)] W (RetN W x⁻¹)) := fun W => by
    have h := ratN (dt x) (nt x) W (by omega) (by omega)
    have e : quo (LA (dt x)) (LA (nt x)) = x⁻¹ := by unfold quo; rw [val_nt, val_dt, q_inv]
    rw [e] at h
    exact h
  have k1 : (w1.setRow w.heap.size #[.int .i64 1, .string (nt x), .string (dt x), .string ⟨#[]⟩, .string ⟨#[]⟩, .string ⟨#[]⟩, .slice none 0 0]).cell? ⟨w.heap.size, 1, none⟩ = some (.string (nt x)) := by
    rw [cell_setRow_same _ _ _ _ _ _ _ HZ.out]; rfl
  have k2 : (w1.setRow w.heap.size #[.int .i64 1, .string (nt x), .string (dt x), .string ⟨#[]⟩, .string ⟨#[]⟩, .string ⟨#[]⟩, .slice none 0 0]).cell? ⟨w.heap.size, 2, none⟩ = some (.string (dt x)) := by
    rw [cell_setRow_same _ _ _ _ _ _ _ HZ.out]; rfl
  clear T0 hb1 A1 HT hb b1 b2
  go_wp2_with (refine storeN rfl (.tmp 1) (.tmp 4) rfl w.heap.size x rfl rfl _ _ HZ.out rfl ?_)
  have T2 := Lib.hid (T1.out.set #[.int .i64 1, .string (nt x), .string (dt x), .string ⟨#[]⟩, .string ⟨#[]⟩, .string ⟨#[]⟩, .slice none 0 0])
  clear HZ T1 k1 k2
  generalize w1.setRow w.heap.size #[.int .i64 1, .string (nt x), .string (dt x), .string ⟨#[]⟩, .string ⟨#[]⟩, .string ⟨#[]⟩, .slice none 0 0] = wc at T2 ⊢
  refine (RN.out _).mono ?_
  rintro e w6 ⟨rfl, hb6⟩
  have T6 := Lib.hid (T2.out.below hb6)
  obtain ⟨z, hz, hz2⟩ := T6.out.b1
  have HZ := Lib.hid hz2
  have HZ1 := Lib.hid hz
  clear hz hz2 hb6
  go_wp2_with (refine storeN rfl (.tmp 2) (.tmp 9) rfl (w.heap.size + 1) x⁻¹ rfl rfl _ _ HZ.out HZ1.out ?_)
  exact retN (q := 2) (g := w.heap.size + 1) rfl rfl (setRow_heap _ _ _ _ _ _ HZ.out) rfl (below_setRowO T6.out.bel (by omega) _)

set_option maxHeartbeats 8000000 in
set_option maxRecDepth 100000 in
theorem oppositeP (d : Nat) (hd : d ≤ 1000) (a : Ob) (p : Value) (w : World) (S : Nat → Prop) (hp : Pair w S a p) (hb : Bd d a.fix) (ht : Tab w) :
    Calls Tryd.prog 11 #[vO a p] w (RetN w (-a.fix)) := by
  have HT := Lib.hid ht
  have A1 : Hid (∀ wd, Tab wd → Calls Tryd.prog 25 #[vO a p] wd (RetN wd a.fix)) := fun wd h => asNumP a p wd (fun q e => by subst e; exact hp) h
  clear ht hp
  generalize a.fix = x at A1 hb ⊢
  obtain ⟨x0, x1, x2, x3, x4, x5, e⟩ := cells7 a p
  unfold vO at A1
  rw [e] at A1
  unfold vO
  rw [e]
  clear e
  go_enter Tryd.func11, Tryd.ntmps11
  go_wp2_with fail
  have T0 := TwoB.new w #[x0, x1, x2, x3, x4, x5, p] #[.int .i64 0, .string ⟨#[]⟩, .string ⟨#[]⟩, .string ⟨#[]⟩, .string ⟨#[]⟩, .string ⟨#[]⟩, .slice none 0 0] rfl
  generalize (w.alloc (.cells #[x0, x1, x2, x3, x4, x5, p] 27)).alloc (.cells #[.int .i64 0, .string ⟨#[]⟩, .string ⟨#[]⟩, .string ⟨#[]⟩, .string ⟨#[]⟩, .string ⟨#[]⟩, .slice none 0 0] 27) = W at T0 ⊢
  refine (A1.out _ (HT.out.below T0.bel)).mono ?_
  rintro e w1 ⟨rfl, hb1⟩
  have T1 := Lib.hid (T0.below hb1)
  have HZ := Lib.hid T1.out.b0
  clear T0 hb1 A1 HT
  go_wp2_with (refine storeN rfl (.tmp 1) (.tmp 4) rfl w.heap.size x rfl rfl _ _ HZ.out rfl ?_)
  have T2 := Lib.hid (T1.out.set #[.int .i64 1, .string (nt x), .string (dt x), .string ⟨#[]⟩, .string ⟨#[]⟩, .string ⟨#[]⟩, .slice none 0 0])
  clear HZ T1
  generalize w1.setRow w.heap.size #[.int .i64 1, .string (nt x), .string (dt x), .string ⟨#[]⟩, .string ⟨#[]⟩, .string ⟨#[]⟩, .slice none 0 0] = wc at T2 ⊢
  obtain ⟨⟨_, c1, c2, _, _, _, _⟩, _⟩ := row7 T2.out.b0
  have b1 := bd_nt hb
  have b2 := bd_dt hb
  have s1 : (BA (text (- val (LA (nt x))))).size ≤ 3000 := by
    rw [val_nt, BA_size]
    refine Nat.le_trans (text_length (k := d) ?_) (by omega)
    rw [Int.natAbs_neg]
    exact hb.1
  have RN : Hid (∀ W, Calls Tryd.prog 5 #[.string (BA (text (- val (LA (nt x))))), .string (dt x)] W (RetN W (-x))) := fun W => by
    have h := ratN (BA (text (- val (LA (nt x))))) (dt x) W (by omega) (by omega)
    have e : quo (LA (BA (text (- val (LA (nt x)))))) (LA (dt x)) = -x := by
      show quo _ (LA (BA (text (x.den : Int)))) = _
      rw [val_nt, quo_text, q_neg]
    rw [e] at h
    exact h
  clear hb s1
  have hB0 : Below wc.heap.size wc wc.drew := (Below.refl _ _).drew
  have n1 : ¬ w.heap.size + 1 = w.heap.size := by omega
  generalize nt x = nx at *
  generalize dt x = dx at *
  go_wp2_with fail
  go_region_held3 (fun W' => W'.cell? ⟨w.heap.size, 1, none⟩ = some (.string nx) ∧ W'.cell? ⟨w.heap.size, 2, none⟩ = some (.string dx)) (go_keep)
    (first
      | (go_at_call 28; refine (negate_any _ _ (by omega)).mono ?_; rintro e w3 ⟨rfl, hb3⟩; have hB3 := chain2 ‹Below wc.heap.size wc _› hb3 (Nat.le_refl _); obtain ⟨⟨_, c1, c2, _, _, _, _⟩, _⟩ := row7 (T2.out.below hB3).b0)
      | (go_at_call 5; refine (RN.out _).mono ?_; rintro e w4 ⟨rfl, hb4⟩; have hB4 := chain2 ‹Below wc.heap.size wc _› hb4 (Nat.le_refl _); obtain ⟨⟨_, c1, c2, _, _, _, _⟩, _⟩ := row7 (T2.out.below hB4).b0; obtain ⟨z, hz, hz2⟩ := (T2.out.below hB4).b1; obtain ⟨z0, z1, z2, z3, z4, z5, z6, ⟨q0, q1, q2, q3, q4, q5, q6⟩, f2⟩ := row7z hz hz2; clear hz hz2; unfold vQ))
  all_goals go_wp2
  all_goals exact TwoB.ret (T2.out.below ‹Below wc.heap.size wc _›) _ rfl rfl

/-- Two objects in their boxes. -/
structure BoxB (w W : World) (x y : Array Value) : Prop where
  b0 : W.heap[w.heap.size]? = some (.cells x 27 (0, 0))
  b1 : W.heap[w.heap.size + 1]? = some (.cells y 27 (0, 0))
  bel : Below w.heap.size w W
  size : w.heap.size + 2 ≤ W.heap.size
theorem BoxB.new (w : World) (x y : Array Value) : BoxB w ((w.alloc (.cells x 27)).alloc (.cells y 27)) x y :=
  ⟨heap_alloc2_old w _ _, heap_alloc2_new w _ _, Below.alloc (Below.alloc (Below.refl _ _) (Nat.le_refl _) _) (by simp) _, by simp⟩
theorem BoxB.below {w W W' : World} {x y : Array Value} (h : BoxB w W x y) (hb : Below W.heap.size W W') : BoxB w W' x y := by
  have := h.size
  exact ⟨(hb.block _ (by omega)).trans h.b0, (hb.block _ (by omega)).trans h.b1, h.bel.trans (hb.mono (by omega)), Nat.le_trans h.size hb.size⟩

set_option maxHeartbeats 8000000 in
set_option maxRecDepth 100000 in
theorem lessP (d : Nat) (hd : d ≤ 1000) (a a' : Ob) (p p' : Value) (w : World) (S : Nat → Prop) (hp : Pair w S a p) (hp' : Pair w S a' p') (hb : Bd d a.fix) (hb' : Bd d a'.fix) (ht : Tab w) :
    Calls Tryd.prog 12 #[vO a p, vO a' p'] w (RetB w (decide (ordQ a.fix a'.fix < 0))) := by
  have HT := Lib.hid ht
  have A1 : Hid (∀ wd, Tab wd → Calls Tryd.prog 25 #[vO a p] wd (RetN wd a.fix)) := fun wd h => asNumP a p wd (fun q e => by subst e; exact hp) h
  have A2 : Hid (∀ wd, Tab wd → Calls Tryd.prog 25 #[vO a' p'] wd (RetN wd a'.fix)) := fun wd h => asNumP a' p' wd (fun q e => by subst e; exact hp') h
  have CN : Hid (∀ wd, Calls Tryd.prog 29 #[vQ a.fix, vQ a'.fix] wd (RetI wd (ordQ a.fix a'.fix))) := fun wd => cmpNumP d hd _ _ wd hb hb'
  clear ht hp hp' hb hb'
  generalize a.fix = x at A1 CN ⊢
  generalize a'.fix = y at A2 CN ⊢
  generalize ordQ x y = r at CN ⊢
  obtain ⟨x0, x1, x2, x3, x4, x5, e⟩ := cells7 a p
  obtain ⟨y0, y1, y2, y3, y4, y5, e'⟩ := cells7 a' p'
  unfold vO at A1 A2
  rw [e] at A1
  rw [e'] at A2
  unfold vO
  rw [e, e']
  clear e e'
  go_enter Tryd.func12, Tryd.ntmps12
  go_wp2_with fail
  have T0 := BoxB.new w #[x0, x1, x2, x3, x4, x5, p] #[y0, y1, y2, y3, y4, y5, p']
  generalize (w.alloc (.cells #[x0, x1, x2, x3, x4, x5, p] 27)).alloc (.cells #[y0, y1, y2, y3, y4, y5, p'] 27) = W at T0 ⊢
  have hB0 : Below W.heap.size W W.drew := (Below.refl _ _).drew
  obtain ⟨⟨c0, c1, c2, c3, c4, c5, c6⟩, _⟩ := row7 T0.b0
  obtain ⟨⟨d0, d1, d2, d3, d4, d5, d6⟩, _⟩ := row7 T0.b1
  have HB : Hid (∀ W', Below W.heap.size W W' → Tab W') := fun W' h => HT.out.below (T0.below h).bel
  have HT0 := Lib.hid T0
  clear T0 HT
  go_region_held3 (fun W' => (W'.cell? ⟨w.heap.size, 0, none⟩ = some x0 ∧ W'.cell? ⟨w.heap.size, 1, none⟩ = some x1 ∧ W'.cell? ⟨w.heap.size, 2, none⟩ = some x2 ∧ W'.cell? ⟨w.heap.size, 3, none⟩ = some x3 ∧ W'.cell? ⟨w.heap.size, 4, none⟩ = some x4 ∧ W'.cell? ⟨w.heap.size, 5, none⟩ = some x5 ∧ W'.cell? ⟨w.heap.size, 6, none⟩ = some p) ∧
      (W'.cell? ⟨w.heap.size + 1, 0, none⟩ = some y0 ∧ W'.cell? ⟨w.heap.size + 1, 1, none⟩ = some y1 ∧ W'.cell? ⟨w.heap.size + 1, 2, none⟩ = some y2 ∧ W'.cell? ⟨w.heap.size + 1, 3, none⟩ = some y3 ∧ W'.cell? ⟨w.heap.size + 1, 4, none⟩ = some y4 ∧ W'.cell? ⟨w.heap.size + 1, 5, none⟩ = some y5 ∧ W'.cell? ⟨w.heap.size + 1, 6, none⟩ = some p')) (first | exact ⟨(row7 (HT0.out.below ‹Below W.heap.size W _›).b0).1, (row7 (HT0.out.below ‹Below W.heap.size W _›).b1).1⟩ | go_keep)
    (first
      | (go_at_call_of 25 (Value.agg #[x0, x1, x2, x3, x4, x5, p]); refine (A1.out _ (HB.out _ ‹Below W.heap.size W _›)).mono ?_; rintro e w3 ⟨rfl, hb3⟩; have hB3 := chain2 ‹Below W.heap.size W _› hb3 (Nat.le_refl _); clear hb3)
      | (go_at_call_of 25 (Value.agg #[y0, y1, y2, y3, y4, y5, p']); refine (A2.out _ (HB.out _ ‹Below W.heap.size W _›)).mono ?_; rintro e w4 ⟨rfl, hb4⟩; have hB4 := chain2 ‹Below W.heap.size W _› hb4 (Nat.le_refl _); clear hb4)
      | (go_at_call 29; refine (CN.out _).mono ?_; rintro e w5 ⟨rfl, hb5⟩; have hB5 := chain2 ‹Below W.heap.size W _› hb5 (Nat.le_refl _); clear hb5))
  all_goals go_wp2
  all_goals go_ret
  all_goals exact ⟨rfl, (HT0.out.below ‹Below W.heap.size W _›).bel⟩
end Go.Proofs.YtfnkmgipjemkdaaDoor

/- The program's isWellFormed, Valid, where the object is plainly valid. -/
namespace Go.Proofs.YtfnkmgipjemkdaaDoor
open Go Go.RowKit
set_option linter.unusedVariables false

set_option maxHeartbeats 1000000 in
theorem isLetterP (c : Int) (h1 : 97 ≤ c) (h2 : c ≤ 122) (w : World) : Calls Tryd.prog 67 #[.int .u8 c] w fun e w' => e = .returned (.bool true) ∧ w = w' := by
  go_enter Tryd.func67, Tryd.ntmps67
  go_wp2
  go_ret
  exact ⟨rfl, rfl⟩
set_option maxHeartbeats 1000000 in
theorem isNameP (s : ByteArray) (h1 : 1 ≤ s.size) (h2 : s.size ≤ 40) (w : World) : Calls Tryd.prog 52 #[.string s] w fun e w' => e = .returned (.bool true) ∧ w = w' := by
  have h3 : (1 : Int) ≤ (s.size : Int) := by omega
  have h4 : (s.size : Int) ≤ 40 := by omega
  go_enter Tryd.func52, Tryd.ntmps52
  go_wp2
  go_ret
  exact ⟨rfl, rfl⟩
set_option maxHeartbeats 4000000 in
set_option maxRecDepth 100000 in
theorem isPackageP (w : World) : Calls Tryd.prog 51 #[.string (BA lispB)] w fun e w' => e = .returned (.bool true) ∧ w = w' := by
  show Calls _ _ #[.string ⟨#[108, 105, 115, 112]⟩] _ _
  go_enter Tryd.func51, Tryd.ntmps51
  go_wp2_with fail
  refine (isNameP ⟨#[108, 105, 115, 112]⟩ (by decide) (by decide) _).mono ?_
  rintro e w' ⟨rfl, rfl⟩
  go_wp2_with fail
  refine (isLetterP 108 (by decide) (by decide) _).mono ?_
  rintro e w' ⟨rfl, rfl⟩
  go_wp2_with fail
  go_loop [15] (fun v => ∃ i : Nat, i ≤ 4 ∧ v = .int .i64 i) (fun v => 4 - (intOf v).toNat)
  case atStart => exact ⟨0, by omega, rfl⟩
  case round =>
    obtain ⟨i, hi, rfl⟩ := hrel
    have h5 : i = 0 ∨ i = 1 ∨ i = 2 ∨ i = 3 ∨ i = 4 := by omega
    rcases h5 with rfl | rfl | rfl | rfl | rfl
    · go_wp2_with fail
      refine (isLetterP 108 (by decide) (by decide) _).mono ?_
      rintro e w' ⟨rfl, rfl⟩
      go_wp2
      go_round
      case rel => exact ⟨1, by omega, rfl⟩
      case measure => simp [intOf]
    · go_wp2_with fail
      refine (isLetterP 105 (by decide) (by decide) _).mono ?_
      rintro e w' ⟨rfl, rfl⟩
      go_wp2
      go_round
      case rel => exact ⟨2, by omega, rfl⟩
      case measure => simp [intOf]
    · go_wp2_with fail
      refine (isLetterP 115 (by decide) (by decide) _).mono ?_
      rintro e w' ⟨rfl, rfl⟩
      go_wp2
      go_round
      case rel => exact ⟨3, by omega, rfl⟩
      case measure => simp [intOf]
    · go_wp2_with fail
      refine (isLetterP 112 (by decide) (by decide) _).mono ?_
      rintro e w' ⟨rfl, rfl⟩
      go_wp2
      go_round
      case rel => exact ⟨4, by omega, rfl⟩
      case measure => simp [intOf]
    · go_wp2
      go_ret
      exact ⟨rfl, rfl⟩
set_option maxHeartbeats 1000000 in
theorem isShortP (x : Int) (h : x.natAbs < 10 ^ 90) (w : World) : Calls Tryd.prog 65 #[.string (BA (text x))] w fun e w' => e = .returned (.bool true) ∧ w = w' := by
  have hl := text_length (x := x) (k := 90) h
  have hs : (BA (text x)).size ≤ 92 := by rw [BA_size]; exact hl
  have hv : valid (LA (BA (text x))) = true := by rw [LA_BA]; exact valid_text x
  have hd : ((body (LA (BA (text x)))).length : Int) ≤ 100 := by
    unfold body
    rw [hv, LA_BA]
    have := strip_length (text x)
    simp only [if_true]
    omega
  have V : Hid (∀ w, Calls Tryd.prog 69 #[.string (BA (text x))] w fun e w' => e = .returned (.bool true) ∧ w = w') := fun w => by
    have := valid_any (BA (text x)) w (by unfold maxLen; omega)
    rw [hv] at this
    exact this
  have D : Hid (∀ w, Calls Tryd.prog 75 #[.string (BA (text x))] w fun e w' => e = .returned (.int .i64 ((body (LA (BA (text x)))).length : Nat)) ∧ w = w') := fun w => digits_any _ w (by omega)
  clear h hl hv
  generalize BA (text x) = s at hs hd V D ⊢
  generalize (body (LA s)).length = n at hd D
  go_enter Tryd.func65, Tryd.ntmps65
  go_wp2_with fail
  refine (V.out _).mono ?_
  rintro e w' ⟨rfl, rfl⟩
  go_wp2_with fail
  refine (D.out _).mono ?_
  rintro e w' ⟨rfl, rfl⟩
  go_wp2
  go_ret
  exact ⟨rfl, rfl⟩
set_option maxHeartbeats 1000000 in
theorem isFractionP (x : Int) (h : x.natAbs < 10 ^ 90) (w : World) : Calls Tryd.prog 50 #[.string (BA (text x)), .string ⟨#[49]⟩] w fun e w' => e = .returned (.bool true) ∧ w = w' := by
  have C1 := fun w => isShortP x h w
  have C2 : ∀ w, Calls Tryd.prog 65 #[.string ⟨#[49]⟩] w fun e w' => e = .returned (.bool true) ∧ w = w' := fun w => isShortP 1 (by decide) w
  replace C1 := Lib.hid C1
  replace C2 := Lib.hid C2
  clear h
  generalize BA (text x) = s at C1 ⊢
  go_enter Tryd.func50, Tryd.ntmps50
  go_wp2_with fail
  refine (C1.out _).mono ?_
  rintro e w' ⟨rfl, rfl⟩
  go_wp2_with fail
  refine (C2.out _).mono ?_
  rintro e w' ⟨rfl, rfl⟩
  go_wp2
  go_ret
  exact ⟨rfl, rfl⟩
end Go.Proofs.YtfnkmgipjemkdaaDoor

/- The program's hasOnly, isWellFormed, Valid, where the object is plainly valid. -/
namespace Go.Proofs.YtfnkmgipjemkdaaDoor
open Go Go.RowKit
set_option linter.unusedVariables false

theorem eqS_self (s1 s2 s3 s4 s5 : ByteArray) : eqS s1 s2 s3 s4 s5 s1 s2 s3 s4 s5 = true := by unfold eqS; simp
set_option maxHeartbeats 4000000 in
set_option maxRecDepth 100000 in
theorem hasOnlyP (b k : Nat) (w : World) (x : Int) (s1 s2 s3 s4 s5 : ByteArray) (A : Option Addr) (n c : Nat)
    (l0 : w.cell? ⟨b, k, none⟩ = some (.int .i64 x)) (l1 : w.cell? ⟨b, k + 1, none⟩ = some (.string s1)) (l2 : w.cell? ⟨b, k + 2, none⟩ = some (.string s2)) (l3 : w.cell? ⟨b, k + 3, none⟩ = some (.string s3)) (l4 : w.cell? ⟨b, k + 4, none⟩ = some (.string s4)) (l5 : w.cell? ⟨b, k + 5, none⟩ = some (.string s5)) (l6 : w.cell? ⟨b, k + 6, none⟩ = some (.slice A n c)) :
    Calls Tryd.prog 49 #[.pointer (some ⟨b, k, none⟩), .agg #[.int .i64 0, .string s1, .string s2, .string s3, .string s4, .string s5, .slice A n c]] w (RetB w true) := by
  have hlt := World.block_lt_of_cell? w _ l0
  have hne : ¬ b = w.heap.size := by have : b < w.heap.size := hlt; omega
  have hb0 := Below.alloc (Below.refl w.heap.size w) (Nat.le_refl _) (.cells #[.int .i64 x, .string s1, .string s2, .string s3, .string s4, .string s5, .slice A n c] 27)
  have hg0 := heap_alloc_new w (.cells #[.int .i64 x, .string s1, .string s2, .string s3, .string s4, .string s5, .slice A n c] 27)
  go_enter Tryd.func49, Tryd.ntmps49
  go_wp2_with fail
  have k0 := (hb0.cell (p := ⟨b, k, none⟩) hlt).trans l0
  have k1 := (hb0.cell (p := ⟨b, k + 1, none⟩) hlt).trans l1
  have k2 := (hb0.cell (p := ⟨b, k + 2, none⟩) hlt).trans l2
  have k3 := (hb0.cell (p := ⟨b, k + 3, none⟩) hlt).trans l3
  have k4 := (hb0.cell (p := ⟨b, k + 4, none⟩) hlt).trans l4
  have k5 := (hb0.cell (p := ⟨b, k + 5, none⟩) hlt).trans l5
  have k6 := (hb0.cell (p := ⟨b, k + 6, none⟩) hlt).trans l6
  generalize w.alloc (.cells #[.int .i64 x, .string s1, .string s2, .string s3, .string s4, .string s5, .slice A n c] 27) = W at hb0 hg0 k0 k1 k2 k3 k4 k5 k6 ⊢
  obtain ⟨⟨g0, g1, g2, g3, g4, g5, g6⟩, _⟩ := row7 hg0
  have C : Hid (∀ m, Calls Tryd.prog 60 #[.pointer (some ⟨b, k, none⟩), .pointer (some ⟨w.heap.size, 0, none⟩)] (W.drewN m) (QuietV (W.drewN m) (.bool true))) := fun m => by
    have h := sameRaw b k w.heap.size 0 (W.drewN m) x x s1 s2 s3 s4 s5 s1 s2 s3 s4 s5 k0 k1 k2 k3 k4 k5 g0 g1 g2 g3 g4 g5
    rw [eqS_self] at h
    simpa using h
  have HB := Lib.hid hb0
  clear l0 l1 l2 l3 l4 l5 l6 k0 k1 k2 k3 k4 k5 g0 g1 g2 g3 g4 g5 hg0 hb0
  go_quiet ((go_at_call 60; exact Calls.quiet_of (C.out _)))
  go_wp2
  go_ret
  exact ⟨rfl, HB.out.trans (⟨rfl, rfl, rfl, Nat.le_refl _, fun _ _ => rfl⟩ : Below w.heap.size W (W.drewN nq))⟩

def Ob.wf : Ob → Prop
  | .num q => q.den = 1 ∧ q.num.natAbs < 10 ^ 90
  | .str s => s.length ≤ 200
  | .sym p n => p = lispB ∧ 1 ≤ n.length ∧ n.length ≤ 40
  | .cons a d => a.wf ∧ d.wf

set_option maxHeartbeats 4000000 in
set_option maxRecDepth 100000 in
theorem wellP : ∀ (a : Ob) (b k : Nat) (p : Value) (w : World) (S : Nat → Prop), a.wf → In S w → At w S a b k p →
    Calls Tryd.prog 33 #[.pointer (some ⟨b, k, none⟩)] w (RetB w true) := by
  intro a
  induction a with
  | num q =>
    intro b k p w S hwf hS h
    obtain ⟨x0, x1, x2, x3, x4, x5, e, l0, l1, l2, l3, l4, l5, l6⟩ := h.cells
    obtain rfl := h.2.2.flat rfl
    have hlt : b < w.heap.size := hS b h.1.1
    rw [cellsO_f] at e
    simp only [List.cons.injEq, and_true] at e
    obtain ⟨rfl, rfl, rfl, rfl, rfl, rfl⟩ := e
    have hF : Hid (∀ w, Calls Tryd.prog 50 #[.string (nt q), .string (dt q)] w fun e w' => e = .returned (.bool true) ∧ w = w') := fun w => by
      have h := isFractionP q.num hwf.2 w
      have e : dt q = ⟨#[49]⟩ := by unfold dt; rw [hwf.1]; decide
      rw [e]; exact h
    have HO : Hid (∀ wd, Below w.heap.size w wd → Calls Tryd.prog 49 #[.pointer (some ⟨b, k, none⟩), .agg #[.int .i64 0, .string (nt q), .string (dt q), .string ⟨#[]⟩, .string ⟨#[]⟩, .string ⟨#[]⟩, .slice none 0 0]] wd (RetB wd true)) := fun wd hb =>
      hasOnlyP b k wd 1 (nt q) (dt q) ⟨#[]⟩ ⟨#[]⟩ ⟨#[]⟩ none 0 0 ((hb.cell (p := ⟨b, k, none⟩) hlt).trans l0) ((hb.cell (p := ⟨b, k + 1, none⟩) hlt).trans l1) ((hb.cell (p := ⟨b, k + 2, none⟩) hlt).trans l2) ((hb.cell (p := ⟨b, k + 3, none⟩) hlt).trans l3) ((hb.cell (p := ⟨b, k + 4, none⟩) hlt).trans l4) ((hb.cell (p := ⟨b, k + 5, none⟩) hlt).trans l5) ((hb.cell (p := ⟨b, k + 6, none⟩) hlt).trans l6)
    have HC : Hid (∀ wd, Below w.heap.size w wd → wd.cell? ⟨b, k + 1, none⟩ = some (.string (nt q)) ∧ wd.cell? ⟨b, k + 2, none⟩ = some (.string (dt q))) := fun wd hb => ⟨(hb.cell (p := ⟨b, k + 1, none⟩) hlt).trans l1, (hb.cell (p := ⟨b, k + 2, none⟩) hlt).trans l2⟩
    have hB0 : Below w.heap.size w w.drew := (Below.refl _ _).drew
    change w.cell? ⟨b, k, none⟩ = some (.int .i64 1) at l0
    change w.cell? ⟨b, k + 1, none⟩ = some (.string (nt q)) at l1
    change w.cell? ⟨b, k + 2, none⟩ = some (.string (dt q)) at l2
    clear l3 l4 l5 l6 h hwf
    generalize nt q = nq at *
    generalize dt q = dq at *
    go_enter Tryd.func33, Tryd.ntmps33
    go_wp2_with fail
    go_region_held3 (fun W' => W'.cell? ⟨b, k + 1, none⟩ = some (.string nq) ∧ W'.cell? ⟨b, k + 2, none⟩ = some (.string dq)) (go_keep)
      (first
        | (go_at_call 49; refine (HO.out _ ‹Below w.heap.size w _›).mono ?_; rintro e w3 ⟨rfl, hb3⟩; have hB3 := chain2 ‹Below w.heap.size w _› hb3 (Nat.le_refl _); obtain ⟨l1, l2⟩ := HC.out _ hB3; clear hb3)
        | (go_at_call 50; refine (hF.out _).mono ?_; rintro e w4 ⟨rfl, rfl⟩))
    all_goals go_wp2
    all_goals go_ret
    all_goals exact ⟨rfl, ‹Below w.heap.size w _›⟩
  | str s =>
    intro b k p w S hwf hS h
    obtain ⟨x0, x1, x2, x3, x4, x5, e, l0, l1, l2, l3, l4, l5, l6⟩ := h.cells
    obtain rfl := h.2.2.flat rfl
    have hlt : b < w.heap.size := hS b h.1.1
    rw [cellsO_f] at e
    simp only [List.cons.injEq, and_true] at e
    obtain ⟨rfl, rfl, rfl, rfl, rfl, rfl⟩ := e
    have hsz : ((BA s).size : Int) ≤ 200 := by rw [BA_size]; have : s.length ≤ 200 := hwf; omega
    change w.cell? ⟨b, k, none⟩ = some (.int .i64 3) at l0
    change w.cell? ⟨b, k + 5, none⟩ = some (.string (BA s)) at l5
    have HO := Lib.hid (hasOnlyP b k w 3 ⟨#[]⟩ ⟨#[]⟩ ⟨#[]⟩ ⟨#[]⟩ (BA s) none 0 0 l0 l1 l2 l3 l4 l5 l6)
    have HC : Hid (∀ wd, Below w.heap.size w wd → wd.cell? ⟨b, k + 5, none⟩ = some (.string (BA s))) := fun wd hb => (hb.cell (p := ⟨b, k + 5, none⟩) hlt).trans l5
    clear l1 l2 l3 l4 l6 h hwf
    generalize BA s = t at *
    go_enter Tryd.func33, Tryd.ntmps33
    go_wp2_with fail
    refine HO.out.mono ?_
    rintro e w1 ⟨rfl, hb1⟩
    have j5 := HC.out _ hb1
    have HB := Lib.hid hb1
    clear hb1 l5 l0
    go_wp2
    go_ret
    exact ⟨rfl, HB.out⟩
  | sym s n =>
    intro b k p w S hwf hS h
    obtain ⟨x0, x1, x2, x3, x4, x5, e, l0, l1, l2, l3, l4, l5, l6⟩ := h.cells
    obtain rfl := h.2.2.flat rfl
    have hlt : b < w.heap.size := hS b h.1.1
    rw [cellsO_f] at e
    simp only [List.cons.injEq, and_true] at e
    obtain ⟨rfl, rfl, rfl, rfl, rfl, rfl⟩ := e
    obtain ⟨rfl, hn1, hn2⟩ := hwf
    have hN := fun w => isNameP (BA n) (by rw [BA_size]; exact hn1) (by rw [BA_size]; exact hn2) w
    replace hN := Lib.hid hN
    have hP := Lib.hid isPackageP
    change w.cell? ⟨b, k, none⟩ = some (.int .i64 2) at l0
    change w.cell? ⟨b, k + 3, none⟩ = some (.string (BA lispB)) at l3
    change w.cell? ⟨b, k + 4, none⟩ = some (.string (BA n)) at l4
    have HO := Lib.hid (hasOnlyP b k w 2 ⟨#[]⟩ ⟨#[]⟩ (BA lispB) (BA n) ⟨#[]⟩ none 0 0 l0 l1 l2 l3 l4 l5 l6)
    have HC : Hid (∀ wd, Below w.heap.size w wd → wd.cell? ⟨b, k + 3, none⟩ = some (.string (BA lispB)) ∧ wd.cell? ⟨b, k + 4, none⟩ = some (.string (BA n))) := fun wd hb => ⟨(hb.cell (p := ⟨b, k + 3, none⟩) hlt).trans l3, (hb.cell (p := ⟨b, k + 4, none⟩) hlt).trans l4⟩
    clear l1 l2 l5 l6 h hn1 hn2
    generalize BA lispB = t at *
    generalize BA n = t' at *
    go_enter Tryd.func33, Tryd.ntmps33
    go_wp2_with fail
    refine HO.out.mono ?_
    rintro e w1 ⟨rfl, hb1⟩
    obtain ⟨j3, j4⟩ := HC.out _ hb1
    have HB := Lib.hid hb1
    clear hb1 l0 l3 l4
    go_wp2_with fail
    refine (hP.out _).mono ?_
    rintro e w2 ⟨rfl, rfl⟩
    go_wp2_with fail
    refine (hN.out _).mono ?_
    rintro e w2 ⟨rfl, rfl⟩
    go_wp2
    go_ret
    exact ⟨rfl, HB.out⟩
  | cons a d iha ihd =>
    intro b k p w S hwf hS h
    obtain ⟨x0, x1, x2, x3, x4, x5, e, l0, l1, l2, l3, l4, l5, l6⟩ := h.cells
    obtain ⟨b', o', c', pa, pd, rfl, hc, hA, hD⟩ := h.2.2.parts
    have hlt : b < w.heap.size := hS b h.1.1
    rw [cellsO_f] at e
    simp only [List.cons.injEq, and_true] at e
    obtain ⟨rfl, rfl, rfl, rfl, rfl, rfl⟩ := e
    have CA : Hid (∀ wd, Below w.heap.size w wd → Calls Tryd.prog 33 #[.pointer (some ⟨b', o', none⟩)] wd (RetB wd true)) := fun wd hb => iha b' o' pa wd S hwf.1 (hS.later hb.size) (hA.below hS hb)
    have CD : Hid (∀ wd, Below w.heap.size w wd → Calls Tryd.prog 33 #[.pointer (some ⟨b', o' + 7, none⟩)] wd (RetB wd true)) := fun wd hb => ihd b' (o' + 7) pd wd S hwf.2 (hS.later hb.size) (hD.below hS hb)
    change w.cell? ⟨b, k, none⟩ = some (.int .i64 4) at l0
    have HO := Lib.hid (hasOnlyP b k w 4 ⟨#[]⟩ ⟨#[]⟩ ⟨#[]⟩ ⟨#[]⟩ ⟨#[]⟩ (some ⟨b', o', none⟩) 2 c' l0 l1 l2 l3 l4 l5 l6)
    have HC : Hid (∀ wd, Below w.heap.size w wd → wd.cell? ⟨b, k + 6, none⟩ = some (.slice (some ⟨b', o', none⟩) 2 c')) := fun wd hb => (hb.cell (p := ⟨b, k + 6, none⟩) hlt).trans l6
    clear l1 l2 l3 l4 l5 h hwf iha ihd hA hD
    go_enter Tryd.func33, Tryd.ntmps33
    go_wp2_with fail
    refine HO.out.mono ?_
    rintro e w1 ⟨rfl, hb1⟩
    have j6 := HC.out _ hb1
    have HB := Lib.hid hb1
    clear hb1 l0 l6
    go_wp2_with fail
    refine (CA.out _ HB.out).mono ?_
    rintro e w2 ⟨rfl, hb2⟩
    have HB2 := Lib.hid (chain2 HB.out hb2 (Nat.le_refl _))
    have j7 := HC.out _ HB2.out
    clear hb2 j6
    go_wp2_with fail
    refine (CD.out _ HB2.out).mono ?_
    rintro e w3 ⟨rfl, hb3⟩
    have HB3 := Lib.hid (chain2 HB2.out hb3 (Nat.le_refl _))
    clear hb3 j7
    go_wp2
    go_ret
    exact ⟨rfl, HB3.out⟩

set_option maxHeartbeats 1000000 in
set_option maxRecDepth 100000 in
theorem validP (a : Ob) (p : Value) (w : World) (S : Nat → Prop) (hwf : a.wf) (hn : a.nodes ≤ 3000) (hS : In S w) (h : Pair w S a p) :
    Calls Tryd.prog 17 #[vO a p] w (RetB w true) := by
  obtain ⟨x0, x1, x2, x3, x4, x5, e⟩ := cells7 a p
  have hb : Below w.heap.size w (w.alloc (.cells #[x0, x1, x2, x3, x4, x5, p] 27)) := Below.alloc (Below.refl _ _) (Nat.le_refl _) _
  have hg := heap_alloc_new w (.cells #[x0, x1, x2, x3, x4, x5, p] 27)
  have hA : At (w.alloc (.cells #[x0, x1, x2, x3, x4, x5, p] 27)) (fun b => S b ∨ b = w.heap.size) a w.heap.size 0 p := by
    refine ⟨⟨.inr rfl, _, _, hg⟩, fun j u hj => ?_, (h.below hS hb).more fun _ h => .inl h⟩
    rw [Nat.zero_add, cell_of_row _ _ _ _ _ _ hg, ← hj, e]
    simp
  have hS' : In (fun b => S b ∨ b = w.heap.size) (w.alloc (.cells #[x0, x1, x2, x3, x4, x5, p] 27)) := fun b hb => by
    rcases hb with hb | rfl
    · have := hS b hb; simp; omega
    · simp
  have N := nodesP a p _ S (hS.later hb.size) (h.below hS hb) hn
  unfold vO at N
  rw [e] at N
  replace N := Lib.hid N
  have V : Hid (∀ wd, Below (w.heap.size + 1) (w.alloc (.cells #[x0, x1, x2, x3, x4, x5, p] 27)) wd → Calls Tryd.prog 33 #[.pointer (some ⟨w.heap.size, 0, none⟩)] wd (RetB wd true)) := fun wd hb' =>
    wellP a w.heap.size 0 p wd _ hwf (hS'.later hb'.size) (hA.below (B := w.heap.size + 1) (fun b hb => by have := hS' b hb; simpa using this) hb')
  unfold vO
  rw [e]
  have hz : (w.alloc (.cells #[x0, x1, x2, x3, x4, x5, p] 27)).heap.size = w.heap.size + 1 := by simp
  have hnn : (a.nodes : Int) ≤ 3000 := by omega
  clear e hA hS' h hS hg hwf
  go_enter Tryd.func17, Tryd.ntmps17
  go_wp2_with fail
  refine N.out.mono ?_
  rintro e w1 ⟨rfl, hb1⟩
  rw [hz] at hb1
  have V1 := Lib.hid (V.out _ hb1)
  have HB := Lib.hid (hb.trans (hb1.mono (by omega)))
  clear hb1 hb V N hz
  go_wp2_with fail
  refine V1.out.mono ?_
  rintro e w2 ⟨rfl, hb2⟩
  have HB2 := Lib.hid (HB.out.trans (hb2.mono HB.out.size))
  clear hb2
  go_wp2
  go_ret
  exact ⟨rfl, HB2.out⟩
end Go.Proofs.YtfnkmgipjemkdaaDoor

/- The sanity check of the statements of layer 2. -/
namespace Go.Proofs.YtfnkmgipjemkdaaDoor
open Go Go.RowKit
set_option linter.unusedVariables false

def oneA : Ob := Ob.list [.num 1, .str [97]]
theorem divInt_q (a b : UInt8) (m n : Int) (ha : val [a] = m) (hb : val [b] = n) : quo (LA ⟨#[a]⟩) (LA ⟨#[b]⟩) = Rat.divInt m n := by
  unfold quo
  rw [show LA ⟨#[a]⟩ = [a] from rfl, show LA ⟨#[b]⟩ = [b] from rfl, ha, hb]
theorem half_third : quo (LA ⟨#[49]⟩) (LA ⟨#[50]⟩) + quo (LA ⟨#[49]⟩) (LA ⟨#[51]⟩) = quo (LA ⟨#[53]⟩) (LA ⟨#[54]⟩) := by
  rw [divInt_q 49 50 1 2 (by decide) (by decide), divInt_q 49 51 1 3 (by decide) (by decide), divInt_q 53 54 5 6 (by decide) (by decide), Rat.divInt_add_divInt _ _ (by decide) (by decide)]
  rfl
theorem bd_lit (a b : UInt8) : Bd 10 (quo (LA ⟨#[a]⟩) (LA ⟨#[b]⟩)) := (bd_quo (k := 1) (Nat.le_refl _) (Nat.le_refl _) (by decide)).more (by decide)
theorem flat_pair {w w' : World} {S S' : Nat → Prop} {o : Ob} {p : Value} (h : Pair w S o p) (ho : o.isCons = false) : Pair w' S' o p := by
  cases o with
  | cons a d => simp [Ob.isCons] at ho
  | _ => exact h

theorem int1P (w : World) (ht : Tab w) : Calls Tryd.prog 6 #[.int .i64 1] w (RetN w 1) :=
  (intP 1 w (fun _ => False) (i64_small (by omega)) ht).mono fun _ _ h => by
    have := h.num
    simpa using this
/-- A text as a value. -/
def vT (s : ByteArray) : Value := .agg #[.int .i64 3, .string ⟨#[]⟩, .string ⟨#[]⟩, .string ⟨#[]⟩, .string ⟨#[]⟩, .string s, .slice none 0 0]
theorem textPN (s : ByteArray) (w : World) : Calls Tryd.prog 14 #[.string s] w fun e w' => e = .returned (vT s) ∧ Below w.heap.size w w' :=
  (textP s w (fun _ => False)).mono fun e w' ⟨p, he, hp, hb⟩ => by
    have hpe : p = .slice none 0 0 := hp
    subst hpe
    refine ⟨he.trans ?_, hb⟩
    show Ending.returned (.agg #[.int .i64 3, .string ⟨#[]⟩, .string ⟨#[]⟩, .string ⟨#[]⟩, .string ⟨#[]⟩, .string (BA (LA s)), .slice none 0 0]) = _
    rw [BA_LA]; rfl

set_option maxHeartbeats 8000000 in
set_option maxRecDepth 100000 in
theorem first2_any (w : World) (ht : Tab w) : Calls Tryd.prog 4 #[] w (RetB w true) := by
  have HT := Lib.hid ht
  clear ht
  go_enter Tryd.func4, Tryd.ntmps4
  go_wp2_with fail
  refine (int1P _ HT.out).mono ?_
  rintro e w1 ⟨rfl, hb1⟩
  go_wp2_with fail
  refine (textPN ⟨#[97]⟩ _).mono ?_
  rintro e w2 ⟨rfl, hb2⟩
  have HB2 := Lib.hid (chain2 hb1 hb2 (Nat.le_refl _))
  clear hb1 hb2
  have hrow := Lib.hid (heap_alloc_new w2 (.cells #[.int .i64 1, .string (nt 1), .string (dt 1), .string ⟨#[]⟩, .string ⟨#[]⟩, .string ⟨#[]⟩, .slice none 0 0, .int .i64 3, .string ⟨#[]⟩, .string ⟨#[]⟩, .string ⟨#[]⟩, .string ⟨#[]⟩, .string ⟨#[97]⟩, .slice none 0 0] 27))
  have hbr := Lib.hid (Below.alloc HB2.out HB2.out.size (.cells #[.int .i64 1, .string (nt 1), .string (dt 1), .string ⟨#[]⟩, .string ⟨#[]⟩, .string ⟨#[]⟩, .slice none 0 0, .int .i64 3, .string ⟨#[]⟩, .string ⟨#[]⟩, .string ⟨#[]⟩, .string ⟨#[]⟩, .string ⟨#[97]⟩, .slice none 0 0] 27))
  have hsz := Lib.hid (show (w2.alloc (.cells #[.int .i64 1, .string (nt 1), .string (dt 1), .string ⟨#[]⟩, .string ⟨#[]⟩, .string ⟨#[]⟩, .slice none 0 0, .int .i64 3, .string ⟨#[]⟩, .string ⟨#[]⟩, .string ⟨#[]⟩, .string ⟨#[]⟩, .string ⟨#[97]⟩, .slice none 0 0] 27)).heap.size = w2.heap.size + 1 by simp)
  unfold vQ vT
  go_wp2_with fail
  generalize w2.alloc (.cells #[.int .i64 1, .string (nt 1), .string (dt 1), .string ⟨#[]⟩, .string ⟨#[]⟩, .string ⟨#[]⟩, .slice none 0 0, .int .i64 3, .string ⟨#[]⟩, .string ⟨#[]⟩, .string ⟨#[]⟩, .string ⟨#[]⟩, .string ⟨#[97]⟩, .slice none 0 0] 27) = W at hrow hbr hsz ⊢
  have hobs : ObsAt W (fun b => b = w2.heap.size) w2.heap.size 0 [.num 1, .str [97]] := by
    unfold ObsAt
    refine ⟨⟨.slice none 0 0, rfl, fun j u hj => ?_⟩, ?_⟩
    · rw [Nat.zero_add, cell_of_row _ _ _ _ _ _ hrow.out]
      have : j < 7 := by
        rcases Nat.lt_or_ge j 7 with h | h
        · exact h
        · rw [List.getElem?_eq_none (by rw [cellsO_length]; exact h)] at hj; cases hj
      match j, this with
      | 0, _ => exact hj
      | 1, _ => exact hj
      | 2, _ => exact hj
      | 3, _ => exact hj
      | 4, _ => exact hj
      | 5, _ => exact hj
      | 6, _ => exact hj
    · unfold ObsAt
      refine ⟨⟨.slice none 0 0, rfl, fun j u hj => ?_⟩, by unfold ObsAt; trivial⟩
      rw [cell_of_row _ _ _ _ _ _ hrow.out]
      have : j < 7 := by
        rcases Nat.lt_or_ge j 7 with h | h
        · exact h
        · rw [List.getElem?_eq_none (by rw [cellsO_length]; exact h)] at hj; cases hj
      match j, this with
      | 0, _ => exact hj
      | 1, _ => exact hj
      | 2, _ => exact hj
      | 3, _ => exact hj
      | 4, _ => exact hj
      | 5, _ => exact hj
      | 6, _ => exact hj
  refine (listP [.num 1, .str [97]] (some ⟨w2.heap.size, 0, none⟩) 2 W (fun b => b = w2.heap.size) (fun b hb => by have := hsz.out; subst hb; omega) (Nat.le_refl _) (by decide) (fun _ => ⟨_, 0, rfl, rfl, hobs⟩)).mono ?_
  rintro e w3 ⟨p, rfl, hp, hb3⟩
  have HB3 := Lib.hid (chain2 hbr.out hb3 (Nat.le_refl _))
  have hIn : In (Upto W w3 (fun b => b = w2.heap.size)) w3 := In.upto (fun b hb => by have := hsz.out; subst hb; omega) hb3.size
  have HP := Lib.hid hp
  have HI := Lib.hid hIn
  clear hobs hb3 hp hIn hrow hbr HB2 hsz
  generalize Upto W w3 (fun b => b = w2.heap.size) = S at HP HI
  have hnew := heap_alloc_new w3 (Obj.cells #[Value.int IntKind.i64 0, Value.string { data := #[] }, Value.string { data := #[] }, Value.string { data := #[] }, Value.string { data := #[] }, Value.string { data := #[] }, Value.slice none 0 0] 27)
  have hg4 := setRow_heap (w3.alloc (Obj.cells #[Value.int IntKind.i64 0, Value.string { data := #[] }, Value.string { data := #[] }, Value.string { data := #[] }, Value.string { data := #[] }, Value.string { data := #[] }, Value.slice none 0 0] 27)) w3.heap.size _ (cellsO (Ob.list [.num 1, .str [97]]) p).toArray _ _ hnew
  have hb4 := Lib.hid (below_setRowO (Below.alloc (Below.refl w3.heap.size w3) (Nat.le_refl _) (Obj.cells #[Value.int IntKind.i64 0, Value.string { data := #[] }, Value.string { data := #[] }, Value.string { data := #[] }, Value.string { data := #[] }, Value.string { data := #[] }, Value.slice none 0 0] 27)) (g := w3.heap.size) (Nat.le_refl _) (cellsO (Ob.list [.num 1, .str [97]]) p).toArray)
  have hs4 := Lib.hid (show ((w3.alloc (Obj.cells #[Value.int IntKind.i64 0, Value.string { data := #[] }, Value.string { data := #[] }, Value.string { data := #[] }, Value.string { data := #[] }, Value.string { data := #[] }, Value.slice none 0 0] 27)).setRow w3.heap.size (cellsO (Ob.list [.num 1, .str [97]]) p).toArray).heap.size = w3.heap.size + 1 by rw [size_setRow]; simp)
  obtain ⟨⟨k0, k1, k2, k3, k4, k5, k6⟩, _⟩ := row7 (a0 := .int .i64 4) (a1 := .string ⟨#[]⟩) (a2 := .string ⟨#[]⟩) (a3 := .string ⟨#[]⟩) (a4 := .string ⟨#[]⟩) (a5 := .string ⟨#[]⟩) (a6 := p) hg4
  have HG4 := Lib.hid hg4
  clear hg4
  go_wp2_with (refine storeV (w1 := w3) rfl (.tmp 1) (.tmp 7) rfl w3.heap.size (Ob.list [.num 1, .str [97]]) p rfl rfl HP.out _ _ hnew rfl ?_)
  clear hnew k0 k1 k2 k3 k4 k5 k6
  generalize (w3.alloc (Obj.cells #[Value.int IntKind.i64 0, Value.string { data := #[] }, Value.string { data := #[] }, Value.string { data := #[] }, Value.string { data := #[] }, Value.string { data := #[] }, Value.slice none 0 0] 27)).setRow w3.heap.size (cellsO (Ob.list [.num 1, .str [97]]) p).toArray = W4 at hb4 hs4 HG4 ⊢
  have HC : Hid (∀ wd, Below W4.heap.size W4 wd → wd.cell? ⟨w3.heap.size, 0, none⟩ = some (.int .i64 4) ∧ wd.cell? ⟨w3.heap.size, 1, none⟩ = some (.string ⟨#[]⟩) ∧ wd.cell? ⟨w3.heap.size, 2, none⟩ = some (.string ⟨#[]⟩) ∧ wd.cell? ⟨w3.heap.size, 3, none⟩ = some (.string ⟨#[]⟩) ∧ wd.cell? ⟨w3.heap.size, 4, none⟩ = some (.string ⟨#[]⟩) ∧ wd.cell? ⟨w3.heap.size, 5, none⟩ = some (.string ⟨#[]⟩) ∧ wd.cell? ⟨w3.heap.size, 6, none⟩ = some p) := fun wd hb =>
    (row7 (a0 := .int .i64 4) (a1 := .string ⟨#[]⟩) (a2 := .string ⟨#[]⟩) (a3 := .string ⟨#[]⟩) (a4 := .string ⟨#[]⟩) (a5 := .string ⟨#[]⟩) (a6 := p) ((hb.block w3.heap.size (by have := hs4.out; omega)).trans HG4.out)).1
  have HBW : Hid (Below w.heap.size w W4) := chain2 HB3.out hb4.out (Nat.le_refl _)
  have HPW : Hid (∀ wd, Below W4.heap.size W4 wd → In S wd ∧ Pair wd S oneA p) := fun wd hb =>
    have hb' : Below w3.heap.size w3 wd := hb4.out.trans (hb.mono (by have := hs4.out; omega))
    ⟨HI.out.later hb'.size, HP.out.below HI.out hb'⟩
  have HTW : Hid (∀ wd, Below W4.heap.size W4 wd → Tab wd) := fun wd hb => HT.out.below (HBW.out.trans (hb.mono HBW.out.size))
  clear HB3 HP HI HG4 hb4 hs4 HT
  have IT : Hid (Calls Tryd.prog 15 #[.agg #[.int .i64 4, .string ⟨#[]⟩, .string ⟨#[]⟩, .string ⟨#[]⟩, .string ⟨#[]⟩, .string ⟨#[]⟩, p]] W4 (fun e w' => ∃ g, e = .returned (.tuple #[.slice (some ⟨g, 0, none⟩) 2 2, .bool true]) ∧ Below W4.heap.size W4 w')) :=
    (itemsP oneA p W4 S (HPW.out _ (Below.refl _ _)).1 (HPW.out _ (Below.refl _ _)).2 (by decide)).mono fun e w' ⟨hb, g, he, _⟩ => ⟨g, he, hb⟩
  have ND : Hid (∀ wd, Below W4.heap.size W4 wd → Calls Tryd.prog 16 #[.agg #[.int .i64 4, .string ⟨#[]⟩, .string ⟨#[]⟩, .string ⟨#[]⟩, .string ⟨#[]⟩, .string ⟨#[]⟩, p]] wd (fun e w' => e = .returned (.int .i64 5) ∧ Below wd.heap.size wd w')) := fun wd hb =>
    nodesP oneA p wd S (HPW.out _ hb).1 (HPW.out _ hb).2 (by decide)
  have VA : Hid (∀ wd, Below W4.heap.size W4 wd → Calls Tryd.prog 17 #[.agg #[.int .i64 4, .string ⟨#[]⟩, .string ⟨#[]⟩, .string ⟨#[]⟩, .string ⟨#[]⟩, .string ⟨#[]⟩, p]] wd (RetB wd true)) := fun wd hb =>
    validP oneA p wd S ⟨⟨rfl, by decide⟩, (show [97].length ≤ 200 by decide), rfl, by decide, by decide⟩ (by decide) (HPW.out _ hb).1 (HPW.out _ hb).2
  have hB0 : Hid (Below W4.heap.size W4 W4) := Below.refl _ _
  refine IT.out.mono ?_
  rintro e w5 ⟨g, rfl, hb5⟩
  obtain ⟨k0, k1, k2, k3, k4, k5, k6⟩ := HC.out _ hb5
  have H5 := Lib.hid hb5
  clear hb5
  go_wp2_with fail
  refine (ND.out _ H5.out).mono ?_
  rintro e w6 ⟨rfl, hb6⟩
  have H6 := Lib.hid (chain2 H5.out hb6 (Nat.le_refl _))
  clear hb6 k0 k1 k2 k3 k4 k5 k6
  obtain ⟨k0, k1, k2, k3, k4, k5, k6⟩ := HC.out _ H6.out
  go_wp2_with fail
  refine (VA.out _ H6.out).mono ?_
  rintro e w7 ⟨rfl, hb7⟩
  have H7 := Lib.hid (chain2 H6.out hb7 (Nat.le_refl _))
  clear hb7 k0 k1 k2 k3 k4 k5 k6
  go_wp2_with fail
  refine (ratN _ _ _ (by decide) (by decide)).mono ?_
  rintro e w8 ⟨rfl, hb8⟩
  have H8 := Lib.hid (chain2 H7.out hb8 (Nat.le_refl _))
  clear hb8
  go_wp2_with fail
  refine (ratN _ _ _ (by decide) (by decide)).mono ?_
  rintro e w9 ⟨rfl, hb9⟩
  have H9 := Lib.hid (chain2 H8.out hb9 (Nat.le_refl _))
  clear hb9
  go_wp2_with fail
  refine (sumP 10 (by decide) (.num (quo (LA ⟨#[49]⟩) (LA ⟨#[50]⟩))) (.num (quo (LA ⟨#[49]⟩) (LA ⟨#[51]⟩))) (.slice none 0 0) (.slice none 0 0) w9 (fun _ => False) rfl rfl (bd_lit 49 50) (bd_lit 49 51) (HTW.out _ H9.out)).mono ?_
  rintro e w10 ⟨rfl, hb10⟩
  have H10 := Lib.hid (chain2 H9.out hb10 (Nat.le_refl _))
  clear hb10
  go_wp2_with fail
  refine (ratN _ _ _ (by decide) (by decide)).mono ?_
  rintro e w11 ⟨rfl, hb11⟩
  have H11 := Lib.hid (chain2 H10.out hb11 (Nat.le_refl _))
  clear hb11
  have EQ : Hid (Calls Tryd.prog 7 #[vQ (quo (LA ⟨#[49]⟩) (LA ⟨#[50]⟩) + quo (LA ⟨#[49]⟩) (LA ⟨#[51]⟩)), vQ (quo (LA ⟨#[53]⟩) (LA ⟨#[54]⟩))] w11 (RetB w11 true)) := by
    have h := equalP 30 (by decide) (.num (quo (LA ⟨#[49]⟩) (LA ⟨#[50]⟩) + quo (LA ⟨#[49]⟩) (LA ⟨#[51]⟩))) (.num (quo (LA ⟨#[53]⟩) (LA ⟨#[54]⟩))) (.slice none 0 0) (.slice none 0 0) w11 (fun _ => False) (fun _ h => h.elim) rfl rfl ((bd_add (bd_lit 49 50) (bd_lit 49 51)).more (by decide)) ((bd_lit 53 54).more (by decide)) (by decide)
    rw [decide_eq_true (by rw [half_third])] at h
    exact h
  go_wp2_with fail
  refine EQ.out.mono ?_
  rintro e w12 ⟨rfl, hb12⟩
  have H12 := Lib.hid (chain2 H11.out hb12 (Nat.le_refl _))
  clear hb12 EQ
  go_wp2_with fail
  refine (textPN ⟨#[98]⟩ _).mono ?_
  rintro e w13 ⟨rfl, hb13⟩
  have H13 := Lib.hid (chain2 H12.out hb13 (Nat.le_refl _))
  clear hb13
  go_wp2_with fail
  refine (tP _ (fun _ => False)).mono ?_
  rintro e w14 ⟨q, rfl, hq, hb14⟩
  have hqe : q = .slice none 0 0 := hq
  subst hqe
  have H14 := Lib.hid (chain2 H13.out hb14 (Nat.le_refl _))
  clear hb14 hq
  go_wp2_with fail
  refine (compareP 10 (by decide) (.str [98]) .t (.slice none 0 0) (.slice none 0 0) w14 (fun _ => False) (fun _ h => h.elim) rfl rfl trivial trivial (by decide)).mono ?_
  rintro e w15 ⟨rfl, hb15⟩
  have H15 := Lib.hid (chain2 H14.out hb15 (Nat.le_refl _))
  clear hb15
  have hcm : ordO (.str [98]) .t = -1 := rfl
  rw [hcm]
  clear hcm
  go_wp2_with fail
  refine (nilP _ (fun _ => False)).mono ?_
  rintro e w16 ⟨q, rfl, hq, hb16⟩
  have H16 := Lib.hid (chain2 H15.out hb16 (Nat.le_refl _))
  clear hb16 hq
  go_wp2_with fail
  refine (isNilP .nil q _).mono ?_
  rintro e w17 ⟨rfl, hb17⟩
  have H17 := Lib.hid (chain2 H16.out hb17 (Nat.le_refl _))
  clear hb17
  have hnl : decide (Ob.nil = Ob.nil) = true := by simp
  rw [hnl]
  clear hnl
  go_wp2
  go_ret
  exact ⟨rfl, HBW.out.trans (H17.out.mono HBW.out.size)⟩
end Go.Proofs.YtfnkmgipjemkdaaDoor
