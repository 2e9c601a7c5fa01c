/- A symbol as an argument. -/
import Derived.Test.YtfnkmgipjemkdaaGreatDoorG18
import Derived.Lib.SmallJoins
namespace Go.Proofs.YtfnkmgipjemkdaaGreatDoor
open Go Go.RowKit Go.ChangeShapes Go.WideShapes Go.Deep
set_option linter.unusedVariables false
section
variable {H : Type} {enc : TypeId × Value → H} {w : World} {spare : Nat → Bool} {held : Bool}
set_option maxRecDepth 100000 in
/-- A symbol that came in as an argument. -/
theorem open_sym {rc : Reach} {b0 : Nat} {v : Value} {d : DataW H} {p : List MemPlace} (hv : Value.okWide Tryz.prog w rc b0 23 v) (h : DataW.Trod enc Tryz.prog w 0 spare held 23 v d p) :
    ∃ x y : ByteArray, v = .agg #[.string x, .string y] := by
  obtain ⟨v0, v1, y0, y1, n, rfl, _, _, h0, h1⟩ := Go.Joins.open_agg2 Tryz.underlying23 (by kernel_rfl) (by kernel_rfl) hv h
  obtain ⟨x, e0, _, _⟩ := DataW.trod_string Tryz.underlying9 (show DataW.trod enc Tryz.prog w 0 spare held n 9 [v0] = some y0 from h0)
  obtain ⟨y, e1, _, _⟩ := DataW.trod_string Tryz.underlying9 (show DataW.trod enc Tryz.prog w 0 spare held n 9 [v1] = some y1 from h1)
  injection e0 with e0
  injection e1 with e1
  subst e0 e1
  exact ⟨x, y, rfl⟩
end
end Go.Proofs.YtfnkmgipjemkdaaGreatDoor

/- The walk of ObjectMade. -/
namespace Go.Proofs.YtfnkmgipjemkdaaGreatDoor
open Go Go.RowKit
set_option linter.unusedVariables false

theorem tO (w : World) (S : Nat → Prop) : Calls Tryz.prog 25 #[] w (RetO w S .t) := by
  go_enter Tryz.func25, Tryz.ntmps25
  go_wp2_with fail
  refine (lispO _ _).mono ?_
  rintro e w1 ⟨rfl, hb1⟩
  have hg := (hb1.block w.heap.size (by simp)).trans (heap_alloc_new w _)
  go_wp2_with fail
  refine (symO _ _ _ (fun _ => False)).mono ?_
  rintro e w2 ⟨p, rfl, hp, hb2⟩
  have h12 := hb1.size
  simp only [World.size_alloc] at h12
  have h23 := hb2.size
  replace hg := Lib.hid ((hb2.block w.heap.size (by omega)).trans hg)
  go_wp2_with (refine storeV (w1 := w2) rfl (.tmp 0) (.tmp 2) rfl w.heap.size _ _ rfl rfl hp _ _ hg.out rfl ?_)
  exact retV (o := .t) rfl rfl hg.out hp (fun h => by
    rcases h with h | ⟨h, _⟩
    · exact h
    · omega) (fun b hb => by
    rcases hb with hb | ⟨h1, h2⟩
    · exact hb.elim
    · exact .inr ⟨by omega, h2⟩) (Nat.le_refl _) (((Below.alloc (Below.refl _ _) (Nat.le_refl _) _).trans (hb1.mono (by simp))).trans (hb2.mono (by omega)))

/-- The call returned just this value. -/
def RetVv (w : World) (v : Value) (e : Ending) (w' : World) : Prop := e = .returned v ∧ Below w.heap.size w w'
theorem litO {w w' : World} {S : Nat → Prop} {o : Ob} {e : Ending} {v : Value} (h : RetO w S o e w') (hf : o.isCons = false) (hv : vO o (.slice none 0 0) = v) : RetVv w v e w' := by
  obtain ⟨p, rfl, hp, hb⟩ := h
  have e : p = .slice none 0 0 := by cases o <;> first | exact hp | cases hf
  subst e
  exact ⟨by rw [hv], hb⟩
theorem litN {w w' : World} {q : Rat} {e : Ending} (h : RetN w q e w') : RetVv w (.agg #[.int .i64 1, .string (nt q), .string (dt q), .string ⟨#[]⟩, .string ⟨#[]⟩, .string ⟨#[]⟩, .slice none 0 0]) e w' := h
theorem eqSelf (k : Int) (s1 s2 s3 s4 s5 : ByteArray) (w : World) :
    Calls Tryz.prog 12 #[.agg #[.int .i64 k, .string s1, .string s2, .string s3, .string s4, .string s5, .slice none 0 0], .agg #[.int .i64 k, .string s1, .string s2, .string s3, .string s4, .string s5, .slice none 0 0]] w (RetB w true) := by
  have h := eqFlat k s1 s2 s3 s4 s5 s1 s2 s3 s4 s5 w
  have e : eqS s1 s2 s3 s4 s5 s1 s2 s3 s4 s5 = true := by unfold eqS; simp
  rw [e] at h
  exact h

/-- What the two variables, the symbol's box hold. -/
structure MadeB (w X : World) (sb rb : Array Value) : Prop where
  bel : Below w.heap.size w X
  b0 : X.heap[w.heap.size]? = some (.cells sb 23 (0, 0))
  b1 : X.heap[w.heap.size + 1]? = some (.cells rb 26 (0, 0))
  sz : w.heap.size + 2 ≤ X.heap.size
theorem MadeB.new (w : World) (sb rb : Array Value) : MadeB w ((w.alloc (.cells sb 23)).alloc (.cells rb 26)) sb rb :=
  ⟨Below.alloc (Below.alloc (Below.refl _ _) (Nat.le_refl _) _) (by simp) _, heap_alloc2_old w _ _, heap_alloc2_new w _ _, by simp⟩
theorem MadeB.below {w X X' : World} {sb rb : Array Value} (h : MadeB w X sb rb) (hb : Below X.heap.size X X') : MadeB w X' sb rb := by
  have := h.sz
  exact ⟨h.bel.trans (hb.mono (by omega)), (hb.block _ (by omega)).trans h.b0, (hb.block _ (by omega)).trans h.b1, Nat.le_trans h.sz hb.size⟩

set_option maxHeartbeats 16000000 in
set_option maxRecDepth 100000 in
theorem made_main (n : Int) (num den s sp sn : ByteArray) (r : Rw) (r0 r1 r2 r3 : Value) (w : World) (hn : I64 n) (h1 : num.size ≤ 25) (h2 : den.size ≤ 25) (h3 : s.size ≤ 300) (hrr : RawAt w (Has w) r [r0, r1, r2, r3]) (ht : Tab w) :
    Calls Tryz.prog 3 #[.int .i64 n, .string num, .string den, .string s, .agg #[.string sp, .string sn], .agg #[r0, r1, r2, r3]] w (RetB w true) := by
  have HT := Lib.hid ht
  clear ht
  have Rr := Lib.hid hrr
  clear hrr
  have CFr : Hid (∀ W', Below w.heap.size w W' → Calls Tryz.prog 9 #[.agg #[r0, r1, r2, r3], .int .i64 30] W' (fun e w' => e = .returned (.bool (few r 30)) ∧ Below W'.heap.size W' w')) := fun W' h => fewO r [r0, r1, r2, r3] 30 W' (Has w) (In.has w |>.later h.size) (Rr.out.below (In.has w) h) (by decide) (by decide)
  have KOr : Hid (few r 30 = true → ∀ W', Below w.heap.size w W' → Calls Tryz.prog 10 #[.agg #[r0, r1, r2, r3]] W' (RetX W' 200)) := fun hf W' h => by
    obtain ⟨hok, hcn⟩ := few_ok hf
    exact (objectO r [r0, r1, r2, r3] W' (Has w) (In.has w |>.later h.size) (Rr.out.below (In.has w) h) hok (HT.out.below h)).mono fun _ _ hr => hr.le (by omega)
  generalize few r 30 = fr at CFr KOr
  have i1 : (num.size : Int) ≤ 25 := by omega
  have i2 : (den.size : Int) ≤ 25 := by omega
  have i3 : (s.size : Int) ≤ 300 := by omega
  have HN : Hid (I64 n) := hn
  clear hn
  go_enter Tryz.func3, Tryz.ntmps3
  go_wp2_with fail
  have hBX := MadeB.new w #[.string sp, .string sn] #[r0, r1, r2, r3]
  generalize (w.alloc (.cells #[.string sp, .string sn] 23)).alloc (.cells #[r0, r1, r2, r3] 26) = W at hBX ⊢
  have BX := Lib.hid hBX
  clear hBX
  have FB : Hid (∀ W', Below W.heap.size W W' → MadeB w W' #[.string sp, .string sn] #[r0, r1, r2, r3]) := fun W' h => BX.out.below h
  have FR : Hid (∀ W', Below W.heap.size W W' → W'.cell? ⟨w.heap.size + 1, 0, none⟩ = some r0 ∧ W'.cell? ⟨w.heap.size + 1, 1, none⟩ = some r1 ∧ W'.cell? ⟨w.heap.size + 1, 2, none⟩ = some r2 ∧ W'.cell? ⟨w.heap.size + 1, 3, none⟩ = some r3) := fun W' h => by
    have := (BX.out.below h).b1
    refine ⟨?_, ?_, ?_, ?_⟩ <;> (rw [cell_of_row _ _ _ _ _ _ this]; rfl)
  refine (first2_any _ (HT.out.below BX.out.bel)).mono ?_
  rintro e w1 ⟨rfl, hb1⟩
  have H1 := Lib.hid hb1
  clear hb1
  obtain ⟨z0, z1, z2, z3⟩ := FR.out w1 H1.out
  go_wp2_with fail
  clear z0 z1 z2 z3
  refine (CFr.out w1 (FB.out w1 H1.out).bel).mono ?_
  rintro e w2 ⟨rfl, hb⟩
  have H2 := Lib.hid (chain2 H1.out hb (Nat.le_refl _))
  clear hb H1
  cases fr with
  | false =>
    have HE := Lib.hid (FB.out w2 H2.out).bel
    go_wp2
    all_goals go_ret
    all_goals exact ⟨rfl, HE.out⟩
  | true =>
    obtain ⟨z0, z1, z2, z3⟩ := FR.out w2 H2.out
    go_wp2_with fail
    clear z0 z1 z2 z3
    refine (KOr.out (by simp) w2 (FB.out w2 H2.out).bel).mono ?_
    rintro e w4 ⟨o0, p0, rfl, hp0, hb4, ok0⟩
    have H4 := Lib.hid (chain2 H2.out hb4 (Nat.le_refl _))
    have hg4 := Lib.hid (heap_alloc_new w4 (.cells #[.int .i64 0, .string ⟨#[]⟩, .string ⟨#[]⟩, .string ⟨#[]⟩, .string ⟨#[]⟩, .string ⟨#[]⟩, .slice none 0 0] 31))
    have HP0 : Hid (Pair w4 (Has w4) o0 p0) := hp0.more (fun b h => by rcases h with h | h; exact h.elim; exact h.2)
    have hw4 := H4.out.size
    clear hb4 H2
    go_wp2_with (refine storeV (w1 := w4) rfl (.tmp 13) (.tmp 36) rfl w4.heap.size o0 p0 rfl rfl hp0 _ _ hg4.out rfl ?_)
    have h5 : Below W.heap.size W ((w4.alloc (.cells #[.int .i64 0, .string ⟨#[]⟩, .string ⟨#[]⟩, .string ⟨#[]⟩, .string ⟨#[]⟩, .string ⟨#[]⟩, .slice none 0 0] 31)).setRow w4.heap.size (cellsO o0 p0).toArray) := below_setRowO (Below.alloc H4.out (by omega) _) (by omega) _
    have h5h := setRow_heap _ _ _ (cellsO o0 p0).toArray _ _ hg4.out
    have h5p : Pair ((w4.alloc (.cells #[.int .i64 0, .string ⟨#[]⟩, .string ⟨#[]⟩, .string ⟨#[]⟩, .string ⟨#[]⟩, .string ⟨#[]⟩, .slice none 0 0] 31)).setRow w4.heap.size (cellsO o0 p0).toArray) (Has w4) o0 p0 := (HP0.out.below (fun _ h => h) (Below.alloc (Below.refl _ _) (Nat.le_refl _) _)).setRow w4.heap.size (fun h => Nat.lt_irrefl _ h) _
    have h5z : ((w4.alloc (.cells #[.int .i64 0, .string ⟨#[]⟩, .string ⟨#[]⟩, .string ⟨#[]⟩, .string ⟨#[]⟩, .string ⟨#[]⟩, .slice none 0 0] 31)).setRow w4.heap.size (cellsO o0 p0).toArray).heap.size = w4.heap.size + 1 := by rw [size_setRow]; simp
    generalize (w4.alloc (.cells #[.int .i64 0, .string ⟨#[]⟩, .string ⟨#[]⟩, .string ⟨#[]⟩, .string ⟨#[]⟩, .string ⟨#[]⟩, .slice none 0 0] 31)).setRow w4.heap.size (cellsO o0 p0).toArray = W5 at h5 h5h h5p h5z ⊢
    have H5 := Lib.hid h5
    have H5h := Lib.hid h5h
    have H5p := Lib.hid h5p
    have H5z := Lib.hid h5z
    clear h5 h5h h5p h5z hg4 HP0 hp0
    refine (ratN num den _ (by omega) (by omega)).mono ?_
    rintro e w6 ⟨rfl, hb6⟩
    have H6 := Lib.hid hb6
    have hw6 := hb6.size
    have hg6 := Lib.hid (heap_alloc_new w6 (.cells #[.int .i64 0, .string ⟨#[]⟩, .string ⟨#[]⟩, .string ⟨#[]⟩, .string ⟨#[]⟩, .string ⟨#[]⟩, .slice none 0 0] 31))
    clear hb6
    obtain ⟨qq, hqq⟩ : ∃ q, quo (LA num) (LA den) = q := ⟨_, rfl⟩
    have HQ := Lib.hid hqq
    rw [hqq]
    clear hqq
    go_upto_region 7 with (refine storeN rfl (.tmp 14) (.tmp 39) rfl w6.heap.size qq rfl rfl _ _ hg6.out rfl ?_)
    have hX : Stored2 w.heap.size w ((w6.alloc (.cells #[.int .i64 0, .string ⟨#[]⟩, .string ⟨#[]⟩, .string ⟨#[]⟩, .string ⟨#[]⟩, .string ⟨#[]⟩, .slice none 0 0] 31)).setRow w6.heap.size (cellsO (.num qq) (.slice none 0 0)).toArray) w4.heap.size w6.heap.size o0 (.num qq) p0 (.slice none 0 0) := by
      have z5 := H5z.out
      have b6 := (FB.out w6 (chain2 H5.out H6.out (Nat.le_refl _)))
      have s6 := b6.bel.size
      refine ⟨below_setRowO (Below.alloc b6.bel (by omega) _) (by omega) _, ?_, setRow_heap _ _ _ _ _ _ hg6.out, ?_, rfl⟩
      · rw [setRow_other _ _ _ _ (by omega), Below.heap_alloc _ _ _ (by omega)]
        exact (H6.out.block _ (by omega)).trans H5h.out
      · have h1 := H5p.out.below (fun b h => (by have : b < w4.heap.size := h; omega : b < W5.heap.size)) H6.out
        have h2 := (h1.below (fun b h => (by have : b < w4.heap.size := h; omega : b < w6.heap.size)) (Below.alloc (Below.refl _ _) (Nat.le_refl _) (.cells #[.int .i64 0, .string ⟨#[]⟩, .string ⟨#[]⟩, .string ⟨#[]⟩, .string ⟨#[]⟩, .string ⟨#[]⟩, .slice none 0 0] 31))).setRow w6.heap.size (fun h => by have : w6.heap.size < w4.heap.size := h; omega) (cellsO (.num qq) (.slice none 0 0)).toArray
        exact h2.more (fun b h => by have : b < w4.heap.size := h; show b < _; rw [size_setRow]; simp; omega)
    have hM : MadeB w ((w6.alloc (.cells #[.int .i64 0, .string ⟨#[]⟩, .string ⟨#[]⟩, .string ⟨#[]⟩, .string ⟨#[]⟩, .string ⟨#[]⟩, .slice none 0 0] 31)).setRow w6.heap.size (cellsO (.num qq) (.slice none 0 0)).toArray) #[.string sp, .string sn] #[r0, r1, r2, r3] := by
      have b6 := (FB.out w6 (chain2 H5.out H6.out (Nat.le_refl _)))
      have s6 := b6.sz
      exact ⟨hX.bel, (setRow_other _ _ _ _ (by omega)).trans ((Below.heap_alloc _ _ _ (by omega)).trans b6.b0), (setRow_other _ _ _ _ (by omega)).trans ((Below.heap_alloc _ _ _ (by omega)).trans b6.b1), by rw [size_setRow]; simp; omega⟩
    change Code.wp _ _ _ _ ((w6.alloc (.cells #[.int .i64 0, .string ⟨#[]⟩, .string ⟨#[]⟩, .string ⟨#[]⟩, .string ⟨#[]⟩, .string ⟨#[]⟩, .slice none 0 0] 31)).setRow w6.heap.size (cellsO (.num qq) (.slice none 0 0)).toArray)
    generalize (w6.alloc (.cells #[.int .i64 0, .string ⟨#[]⟩, .string ⟨#[]⟩, .string ⟨#[]⟩, .string ⟨#[]⟩, .string ⟨#[]⟩, .slice none 0 0] 31)).setRow w6.heap.size (cellsO (.num qq) (.slice none 0 0)).toArray = X at hX hM ⊢
    have HX := Lib.hid hX
    have HM := Lib.hid hM
    have OK := Lib.hid ok0
    clear hX hM ok0 hg6 H6 H5 H5h H5p H5z H4 FB FR
    generalize w4.heap.size = g0 at *
    generalize w6.heap.size = g1 at *
    have FS : Hid (∀ X', Below X.heap.size X X' → Stored2 w.heap.size w X' g0 g1 o0 (.num qq) p0 (.slice none 0 0)) := fun X' h => HX.out.below h
    obtain ⟨x0, x1, x2, x3, x4, x5, ex0⟩ := cells7 o0 p0
    have ev0 : vO o0 p0 = .agg #[x0, x1, x2, x3, x4, x5, p0] := by unfold vO; rw [ex0]
    have FC : Hid (∀ X', Below X.heap.size X X' → (X'.cell? ⟨g0, 0, none⟩ = some x0 ∧ X'.cell? ⟨g0, 1, none⟩ = some x1 ∧ X'.cell? ⟨g0, 2, none⟩ = some x2 ∧ X'.cell? ⟨g0, 3, none⟩ = some x3 ∧ X'.cell? ⟨g0, 4, none⟩ = some x4 ∧ X'.cell? ⟨g0, 5, none⟩ = some x5 ∧ X'.cell? ⟨g0, 6, none⟩ = some p0) ∧ (X'.cell? ⟨g1, 0, none⟩ = some (.int .i64 1) ∧ X'.cell? ⟨g1, 1, none⟩ = some (.string (nt qq)) ∧ X'.cell? ⟨g1, 2, none⟩ = some (.string (dt qq)) ∧ X'.cell? ⟨g1, 3, none⟩ = some (.string ⟨#[]⟩) ∧ X'.cell? ⟨g1, 4, none⟩ = some (.string ⟨#[]⟩) ∧ X'.cell? ⟨g1, 5, none⟩ = some (.string ⟨#[]⟩) ∧ X'.cell? ⟨g1, 6, none⟩ = some (.slice none 0 0))) := fun X' h => by
      have F := FS.out X' h
      have f0 := F.h0
      rw [ex0] at f0
      have f1 := F.h1
      exact ⟨(row7 f0).1, (row7 f1).1⟩
    have IP : Hid (∀ X', Below X.heap.size X X' → Calls Tryz.prog 13 #[.int .i64 n] X' (RetVv X' (.agg #[.int .i64 1, .string (nt (n : Rat)), .string (dt (n : Rat)), .string ⟨#[]⟩, .string ⟨#[]⟩, .string ⟨#[]⟩, .slice none 0 0]))) := fun X' h => (intP n X' NoB HN (HT.out.below (FS.out X' h).bel)).mono fun _ _ hr => litN (RetO.num hr)
    have IR : Hid (∀ X', Below X.heap.size X X' → Calls Tryz.prog 14 #[.int .i64 n] X' (RetVv X' (.agg #[.int .i64 1, .string (nt (n : Rat)), .string (dt (n : Rat)), .string ⟨#[]⟩, .string ⟨#[]⟩, .string ⟨#[]⟩, .slice none 0 0]))) := fun X' h => (intO n X' NoB (NoB.in X') HN (HT.out.below (FS.out X' h).bel)).mono fun _ _ hr => litN (RetO.num hr)
    have QR : Hid (∀ X', Below X.heap.size X X' → Calls Tryz.prog 15 #[.string num, .string den] X' (RetVv X' (.agg #[.int .i64 1, .string (nt qq), .string (dt qq), .string ⟨#[]⟩, .string ⟨#[]⟩, .string ⟨#[]⟩, .slice none 0 0]))) := fun X' h => ((HQ.out ▸ ratRN num den X' (by omega) (by omega) : Calls _ _ _ X' (RetN X' qq))).mono fun _ _ hr => litN hr
    have TP : Hid (∀ X', Below X.heap.size X X' → Calls Tryz.prog 16 #[.string s] X' (RetVv X' (.agg #[.int .i64 3, .string ⟨#[]⟩, .string ⟨#[]⟩, .string ⟨#[]⟩, .string ⟨#[]⟩, .string s, .slice none 0 0]))) := fun X' h => (textP s X' NoB).mono fun _ _ hr => litO hr rfl (by show Value.agg _ = _; simp only [cellsO, e0, BA_LA])
    have TR : Hid (∀ X', Below X.heap.size X X' → Calls Tryz.prog 17 #[.string s] X' (RetVv X' (.agg #[.int .i64 3, .string ⟨#[]⟩, .string ⟨#[]⟩, .string ⟨#[]⟩, .string ⟨#[]⟩, .string s, .slice none 0 0]))) := fun X' h => (textO s X' NoB).mono fun _ _ hr => litO hr rfl (by show Value.agg _ = _; simp only [cellsO, e0, BA_LA])
    have YP : Hid (∀ X', Below X.heap.size X X' → Calls Tryz.prog 18 #[.agg #[.string sp, .string sn]] X' (RetVv X' (.agg #[.int .i64 2, .string ⟨#[]⟩, .string ⟨#[]⟩, .string sp, .string sn, .string ⟨#[]⟩, .slice none 0 0]))) := fun X' h => (symP sp sn X' NoB).mono fun _ _ hr => litO hr rfl (by show Value.agg _ = _; simp only [cellsO, e0, BA_LA])
    have YR : Hid (∀ X', Below X.heap.size X X' → Calls Tryz.prog 19 #[.agg #[.string sp, .string sn]] X' (RetVv X' (.agg #[.int .i64 2, .string ⟨#[]⟩, .string ⟨#[]⟩, .string sp, .string sn, .string ⟨#[]⟩, .slice none 0 0]))) := fun X' h => (symO sp sn X' NoB).mono fun _ _ hr => litO hr rfl (by show Value.agg _ = _; simp only [cellsO, e0, BA_LA])
    have NP : Hid (∀ X', Below X.heap.size X X' → Calls Tryz.prog 22 #[] X' (RetVv X' (.agg #[.int .i64 2, .string ⟨#[]⟩, .string ⟨#[]⟩, .string (BA lispB), .string (BA [110, 105, 108]), .string ⟨#[]⟩, .slice none 0 0]))) := fun X' h => (nilP X' NoB).mono fun _ _ hr => litO hr rfl rfl
    have NR : Hid (∀ X', Below X.heap.size X X' → Calls Tryz.prog 23 #[] X' (RetVv X' (.agg #[.int .i64 2, .string ⟨#[]⟩, .string ⟨#[]⟩, .string (BA lispB), .string (BA [110, 105, 108]), .string ⟨#[]⟩, .slice none 0 0]))) := fun X' h => (nilO X' NoB).mono fun _ _ hr => litO hr rfl rfl
    have MP : Hid (∀ X', Below X.heap.size X X' → Calls Tryz.prog 24 #[] X' (RetVv X' (.agg #[.int .i64 2, .string ⟨#[]⟩, .string ⟨#[]⟩, .string (BA lispB), .string (BA [116]), .string ⟨#[]⟩, .slice none 0 0]))) := fun X' h => (tP X' NoB).mono fun _ _ hr => litO hr rfl rfl
    have MR : Hid (∀ X', Below X.heap.size X X' → Calls Tryz.prog 25 #[] X' (RetVv X' (.agg #[.int .i64 2, .string ⟨#[]⟩, .string ⟨#[]⟩, .string (BA lispB), .string (BA [116]), .string ⟨#[]⟩, .slice none 0 0]))) := fun X' h => (tO X' NoB).mono fun _ _ hr => litO hr rfl rfl
    have KP : Hid (∀ X', Below X.heap.size X X' → Calls Tryz.prog 20 #[.agg #[x0, x1, x2, x3, x4, x5, p0], .agg #[.int .i64 1, .string (nt qq), .string (dt qq), .string ⟨#[]⟩, .string ⟨#[]⟩, .string ⟨#[]⟩, .slice none 0 0]] X' (RetO X' (Has X') (.cons o0 (.num qq)))) := fun X' h => by
      have F := FS.out X' h
      rw [← ev0]
      exact consP o0 (.num qq) p0 (.slice none 0 0) X' (Has X') (In.has X') F.q0 F.q1
    have KR : Hid (∀ X', Below X.heap.size X X' → Calls Tryz.prog 21 #[.agg #[x0, x1, x2, x3, x4, x5, p0], .agg #[.int .i64 1, .string (nt qq), .string (dt qq), .string ⟨#[]⟩, .string ⟨#[]⟩, .string ⟨#[]⟩, .slice none 0 0]] X' (RetO X' (Has X') (.cons o0 (.num qq)))) := fun X' h => by
      have F := FS.out X' h
      rw [← ev0]
      exact consO o0 (.num qq) p0 (.slice none 0 0) X' (Has X') (In.has X') F.q0 F.q1
    have CC : Hid (∀ X' pc pd, Pair X' (Has X') (.cons o0 (.num qq)) pc → Pair X' (Has X') (.cons o0 (.num qq)) pd → Calls Tryz.prog 12 #[vO (.cons o0 (.num qq)) pc, vO (.cons o0 (.num qq)) pd] X' (RetB X' true)) := fun X' pc pd h1 h2 => by
      have h := equalO _ _ pc pd X' (Has X') (In.has X') h1 h2
      rw [decide_eq_true rfl] at h
      exact h
    have CF : Hid (∀ k s1 s2 s3 s4 s5 X', Calls Tryz.prog 12 #[.agg #[.int .i64 k, .string s1, .string s2, .string s3, .string s4, .string s5, .slice none 0 0], .agg #[.int .i64 k, .string s1, .string s2, .string s3, .string s4, .string s5, .slice none 0 0]] X' (RetB X' true)) := fun k s1 s2 s3 s4 s5 X' => eqSelf k s1 s2 s3 s4 s5 X'
    have FY : Hid (∀ X', Below X.heap.size X X' → (X'.cell? ⟨w.heap.size, 0, none⟩ = some (.string sp) ∧ X'.cell? ⟨w.heap.size, 1, none⟩ = some (.string sn))) := fun X' h => by
      have := (HM.out.below h).b0
      refine ⟨?_, ?_⟩ <;> (rw [cell_of_row _ _ _ _ _ _ this]; rfl)
    have HF : Hid (∀ X', Below X.heap.size X X' → Below w.heap.size w X') := fun X' h => (FS.out X' h).bel
    generalize nt (n : Rat) = n1 at IP IR
    generalize dt (n : Rat) = n2 at IP IR
    generalize nt qq = q1 at FC QR KP KR
    generalize dt qq = q2 at FC QR KP KR
    clear FS HX HM ev0 ex0 OK
    obtain ⟨⟨m00, m01, m02, m03, m04, m05, m06⟩, ⟨m10, m11, m12, m13, m14, m15, m16⟩⟩ := FC.out X (Below.refl _ _)
    obtain ⟨sy0, sy1⟩ := FY.out X (Below.refl _ _)
    have hB0 : Below X.heap.size X X.drew := (Below.refl _ _).drew
    go_region_held3 (fun W' => ((W'.cell? ⟨g0, 0, none⟩ = some (x0) ∧ W'.cell? ⟨g0, 1, none⟩ = some (x1) ∧ W'.cell? ⟨g0, 2, none⟩ = some (x2) ∧ W'.cell? ⟨g0, 3, none⟩ = some (x3) ∧ W'.cell? ⟨g0, 4, none⟩ = some (x4) ∧ W'.cell? ⟨g0, 5, none⟩ = some (x5) ∧ W'.cell? ⟨g0, 6, none⟩ = some (p0)) ∧ (W'.cell? ⟨g1, 0, none⟩ = some (.int .i64 1) ∧ W'.cell? ⟨g1, 1, none⟩ = some (.string q1) ∧ W'.cell? ⟨g1, 2, none⟩ = some (.string q2) ∧ W'.cell? ⟨g1, 3, none⟩ = some (.string ⟨#[]⟩) ∧ W'.cell? ⟨g1, 4, none⟩ = some (.string ⟨#[]⟩) ∧ W'.cell? ⟨g1, 5, none⟩ = some (.string ⟨#[]⟩) ∧ W'.cell? ⟨g1, 6, none⟩ = some (.slice none 0 0))) ∧ (W'.cell? ⟨w.heap.size, 0, none⟩ = some (.string sp) ∧ W'.cell? ⟨w.heap.size, 1, none⟩ = some (.string sn))) (first | exact ⟨FC.out _ ‹Below X.heap.size X _›, FY.out _ ‹Below X.heap.size X _›⟩ | go_keep)
      (first
        | (go_at_call 13; refine (IP.out _ ‹Below X.heap.size X _›).mono ?_; rintro e u1 ⟨rfl, hb1⟩; have hB1 := chain2 ‹Below X.heap.size X _› hb1 (Nat.le_refl _); clear hb1)
        | (go_at_call 14; refine (IR.out _ ‹Below X.heap.size X _›).mono ?_; rintro e u2 ⟨rfl, hb2⟩; have hB2 := chain2 ‹Below X.heap.size X _› hb2 (Nat.le_refl _); clear hb2)
        | (go_at_call 15; refine (QR.out _ ‹Below X.heap.size X _›).mono ?_; rintro e u3 ⟨rfl, hb3⟩; have hB3 := chain2 ‹Below X.heap.size X _› hb3 (Nat.le_refl _); clear hb3)
        | (go_at_call 16; refine (TP.out _ ‹Below X.heap.size X _›).mono ?_; rintro e u4 ⟨rfl, hb4⟩; have hB4 := chain2 ‹Below X.heap.size X _› hb4 (Nat.le_refl _); clear hb4)
        | (go_at_call 17; refine (TR.out _ ‹Below X.heap.size X _›).mono ?_; rintro e u5 ⟨rfl, hb5⟩; have hB5 := chain2 ‹Below X.heap.size X _› hb5 (Nat.le_refl _); clear hb5)
        | (go_at_call 18; refine (YP.out _ ‹Below X.heap.size X _›).mono ?_; rintro e u6 ⟨rfl, hb6⟩; have hB6 := chain2 ‹Below X.heap.size X _› hb6 (Nat.le_refl _); clear hb6)
        | (go_at_call 19; refine (YR.out _ ‹Below X.heap.size X _›).mono ?_; rintro e u7 ⟨rfl, hb7⟩; have hB7 := chain2 ‹Below X.heap.size X _› hb7 (Nat.le_refl _); clear hb7)
        | (go_at_call 20; refine (KP.out _ ‹Below X.heap.size X _›).mono ?_; rintro e v1 ⟨pc, rfl, hpc, hb8⟩; have hB8 := chain2 ‹Below X.heap.size X _› hb8 (Nat.le_refl _); have HPC : Hid (Pair v1 (Has v1) (.cons o0 (.num qq)) pc) := hpc.more (fun b h => by rcases h with h | h; exact Nat.lt_of_lt_of_le h hb8.size; exact h.2); clear hb8 hpc)
        | (go_at_call 21; refine (KR.out _ ‹Below X.heap.size X _›).mono ?_; rintro e v2 ⟨pd, rfl, hpd, hb9⟩; have hB9 := chain2 ‹Below X.heap.size X _› hb9 (Nat.le_refl _); have HPD : Hid (Pair v2 (Has v2) (.cons o0 (.num qq)) pd) := hpd.more (fun b h => by rcases h with h | h; exact Nat.lt_of_lt_of_le h hb9.size; exact h.2); have HPE : Hid (Pair v2 (Has v2) (.cons o0 (.num qq)) pc) := (HPC.out.below (fun _ h => h) hb9).more (fun b h => Nat.lt_of_lt_of_le h hb9.size); clear hb9 hpd)
        | (go_at_call 22; refine (NP.out _ ‹Below X.heap.size X _›).mono ?_; rintro e u10 ⟨rfl, hb10⟩; have hB10 := chain2 ‹Below X.heap.size X _› hb10 (Nat.le_refl _); clear hb10)
        | (go_at_call 23; refine (NR.out _ ‹Below X.heap.size X _›).mono ?_; rintro e u11 ⟨rfl, hb11⟩; have hB11 := chain2 ‹Below X.heap.size X _› hb11 (Nat.le_refl _); clear hb11)
        | (go_at_call 24; refine (MP.out _ ‹Below X.heap.size X _›).mono ?_; rintro e u12 ⟨rfl, hb12⟩; have hB12 := chain2 ‹Below X.heap.size X _› hb12 (Nat.le_refl _); clear hb12)
        | (go_at_call 25; refine (MR.out _ ‹Below X.heap.size X _›).mono ?_; rintro e u13 ⟨rfl, hb13⟩; have hB13 := chain2 ‹Below X.heap.size X _› hb13 (Nat.le_refl _); clear hb13)
        | (go_at_call 12; (with_reducible refine (CF.out _ _ _ _ _ _ _).mono ?_); rintro e u14 ⟨rfl, hb14⟩; have hB14 := chain2 ‹Below X.heap.size X _› hb14 (Nat.le_refl _); clear hb14)
        | (go_at_call 12; (with_reducible refine (CC.out _ pc pd HPE.out HPD.out).mono ?_); rintro e u15 ⟨rfl, hb15⟩; have hB15 := chain2 ‹Below X.heap.size X _› hb15 (Nat.le_refl _); clear hb15))
    all_goals go_wp2
    all_goals go_ret
    all_goals exact ⟨rfl, HF.out _ ‹Below X.heap.size X _›⟩

set_option maxHeartbeats 4000000 in
set_option maxRecDepth 100000 in
theorem made_early (n : Int) (num den s sp sn : ByteArray) (r0 r1 r2 r3 : Value) (w : World) (g1 : num.size ≤ maxLen) (g2 : den.size ≤ maxLen) (g3 : s.size ≤ maxLen) (h : 25 < num.size ∨ 25 < den.size ∨ 300 < s.size) (ht : Tab w) :
    Calls Tryz.prog 3 #[.int .i64 n, .string num, .string den, .string s, .agg #[.string sp, .string sn], .agg #[r0, r1, r2, r3]] w (RetB w true) := by
  have HT := Lib.hid ht
  clear ht
  unfold maxLen at g1 g2 g3
  have hB := Lib.hid (MadeB.new w #[.string sp, .string sn] #[r0, r1, r2, r3])
  by_cases h1 : 25 < num.size
  · clear h
    go_enter Tryz.func3, Tryz.ntmps3
    go_wp2_with fail
    refine (first2_any _ (HT.out.below hB.out.bel)).mono ?_
    rintro e w1 ⟨rfl, hb1⟩
    have HE := Lib.hid (hB.out.below hb1).bel
    clear hb1
    go_wp2
    all_goals go_ret
    all_goals exact ⟨rfl, HE.out⟩
  · by_cases h2 : 25 < den.size
    · clear h
      go_enter Tryz.func3, Tryz.ntmps3
      go_wp2_with fail
      refine (first2_any _ (HT.out.below hB.out.bel)).mono ?_
      rintro e w1 ⟨rfl, hb1⟩
      have HE := Lib.hid (hB.out.below hb1).bel
      clear hb1
      go_wp2
      all_goals go_ret
      all_goals exact ⟨rfl, HE.out⟩
    · have h3 : 300 < s.size := by omega
      clear h
      go_enter Tryz.func3, Tryz.ntmps3
      go_wp2_with fail
      refine (first2_any _ (HT.out.below hB.out.bel)).mono ?_
      rintro e w1 ⟨rfl, hb1⟩
      have HE := Lib.hid (hB.out.below hb1).bel
      clear hb1
      go_wp2
      all_goals go_ret
      all_goals exact ⟨rfl, HE.out⟩
theorem made_walk (n : Int) (num den s sp sn : ByteArray) (r : Rw) (r0 r1 r2 r3 : Value) (w : World) (hn : I64 n) (g1 : num.size ≤ maxLen) (g2 : den.size ≤ maxLen) (g3 : s.size ≤ maxLen) (hrr : RawAt w (Has w) r [r0, r1, r2, r3]) (ht : Tab w) :
    Calls Tryz.prog 3 #[.int .i64 n, .string num, .string den, .string s, .agg #[.string sp, .string sn], .agg #[r0, r1, r2, r3]] w (RetB w true) := by
  by_cases h : 25 < num.size ∨ 25 < den.size ∨ 300 < s.size
  · exact made_early n num den s sp sn r0 r1 r2 r3 w g1 g2 g3 h ht
  · exact made_main n num den s sp sn r r0 r1 r2 r3 w hn (by omega) (by omega) (by omega) hrr ht
end Go.Proofs.YtfnkmgipjemkdaaGreatDoor

/- The reference's IsNil, Items; the maker's FewAll. -/
namespace Go.Proofs.YtfnkmgipjemkdaaGreatDoor
open Go Go.RowKit
set_option linter.unusedVariables false

set_option maxHeartbeats 4000000 in
set_option maxRecDepth 100000 in
theorem isNilR (o : Ob) (p : Value) (w : World) (S : Nat → Prop) (hS : In S w) (h : Pair w S o p) : Calls Tryz.prog 33 #[vO o p] w (RetB w (decide (o = .nil))) := by
  obtain ⟨x0, x1, x2, x3, x4, x5, e⟩ := cells7 o p
  have ev : vO o p = .agg #[x0, x1, x2, x3, x4, x5, p] := by unfold vO; rw [e]
  have CE : Hid (∀ X', Below w.heap.size w X' → Calls Tryz.prog 12 #[.agg #[x0, x1, x2, x3, x4, x5, p], .agg #[.int .i64 2, .string ⟨#[]⟩, .string ⟨#[]⟩, .string (BA lispB), .string (BA [110, 105, 108]), .string ⟨#[]⟩, .slice none 0 0]] X' (RetB X' (decide (o = .nil)))) := fun X' hb => by
    rw [← ev]
    exact equalO o .nil p (.slice none 0 0) X' S (hS.later hb.size) (h.below hS hb) rfl
  have CN : Hid (∀ X', Calls Tryz.prog 23 #[] X' fun e w' => e = .returned (.agg #[.int .i64 2, .string ⟨#[]⟩, .string ⟨#[]⟩, .string (BA lispB), .string (BA [110, 105, 108]), .string ⟨#[]⟩, .slice none 0 0]) ∧ Below X'.heap.size X' w') := fun X' => (nilO X' NoB).mono fun _ _ ⟨p, h1, h2, h3⟩ => by
    have e : p = .slice none 0 0 := h2
    subst e
    exact ⟨h1, h3⟩
  rw [ev]
  generalize decide (o = Ob.nil) = b at CE ⊢
  clear ev e h
  have hb0 : Below w.heap.size w (w.alloc (.cells #[x0, x1, x2, x3, x4, x5, p] 31)) := Below.alloc (Below.refl _ _) (Nat.le_refl _) _
  have hg0 := heap_alloc_new w (.cells #[x0, x1, x2, x3, x4, x5, p] 31)
  go_enter Tryz.func33, Tryz.ntmps33
  go_wp2_with fail
  generalize w.alloc (.cells #[x0, x1, x2, x3, x4, x5, p] 31) = W at hb0 hg0 ⊢
  have FC : Hid (∀ X', Below W.heap.size W X' → X'.cell? ⟨w.heap.size, 0, none⟩ = some x0 ∧ X'.cell? ⟨w.heap.size, 1, none⟩ = some x1 ∧ X'.cell? ⟨w.heap.size, 2, none⟩ = some x2 ∧ X'.cell? ⟨w.heap.size, 3, none⟩ = some x3 ∧ X'.cell? ⟨w.heap.size, 4, none⟩ = some x4 ∧ X'.cell? ⟨w.heap.size, 5, none⟩ = some x5 ∧ X'.cell? ⟨w.heap.size, 6, none⟩ = some p) := fun X' h => (row7 ((h.block _ (lt_of_heap hg0)).trans hg0)).1
  have HB : Hid (∀ X', Below W.heap.size W X' → Below w.heap.size w X') := fun X' h => hb0.trans (h.mono hb0.size)
  obtain ⟨m0, m1, m2, m3, m4, m5, m6⟩ := FC.out W (Below.refl _ _)
  have hB0 : Below W.heap.size W W.drew := (Below.refl _ _).drew
  clear hb0 hg0
  go_region_held3 (fun X' => X'.cell? ⟨w.heap.size, 0, none⟩ = some x0 ∧ X'.cell? ⟨w.heap.size, 1, none⟩ = some x1 ∧ X'.cell? ⟨w.heap.size, 2, none⟩ = some x2 ∧ X'.cell? ⟨w.heap.size, 3, none⟩ = some x3 ∧ X'.cell? ⟨w.heap.size, 4, none⟩ = some x4 ∧ X'.cell? ⟨w.heap.size, 5, none⟩ = some x5 ∧ X'.cell? ⟨w.heap.size, 6, none⟩ = some p) (first | exact FC.out _ ‹Below W.heap.size W _› | go_keep)
    (first
      | (go_at_call 23; refine (CN.out _).mono ?_; rintro e u1 ⟨rfl, hb1⟩; have hB1 := chain2 ‹Below W.heap.size W _› hb1 (Nat.le_refl _); clear hb1)
      | (go_at_call 12; refine (CE.out _ (HB.out _ ‹Below W.heap.size W _›)).mono ?_; rintro e u2 ⟨rfl, hb2⟩; have hB2 := chain2 ‹Below W.heap.size W _› hb2 (Nat.le_refl _); clear hb2))
  all_goals go_wp2
  all_goals go_ret
  all_goals exact ⟨rfl, HB.out _ ‹Below W.heap.size W _›⟩

set_option maxHeartbeats 4000000 in
set_option maxRecDepth 100000 in
/-- FewAll: at most eight trees, each of them few. -/
theorem fewAllO (l : List Rw) (A : Option Addr) (c : Nat) (m : Int) (w : World) (S : Nat → Prop) (hS : In S w) (hc : l.length ≤ c) (hcm : c ≤ maxLen) (hm : 0 ≤ m) (hm' : m ≤ 1000)
    (hA : 0 < l.length → ∃ b o, A = some ⟨b, o, none⟩ ∧ S b ∧ RawsAt w S b o l) :
    Calls Tryz.prog 26 #[.slice A l.length c, .int .i64 m] w (fun e w' => ∃ t, e = .returned (.bool t) ∧ Below w.heap.size w w' ∧ (t = true → l.length ≤ 8 ∧ ∀ i (hi : i < l.length), few l[i] m = true)) := by
  have HS := Lib.hid hS
  have HA := Lib.hid hA
  clear hS hA
  have HF : Hid (∀ i (hi : i < l.length) cs w', RawAt w' S l[i] cs → In S w' → Calls Tryz.prog 9 #[.agg cs.toArray, .int .i64 m] w' (fun e w'' => e = .returned (.bool (few l[i] m)) ∧ Below w'.heap.size w' w'')) := fun i hi cs w' h hs => fewO l[i] cs m w' S hs h hm hm'
  have HE1 : Hid (∀ w', Below w.heap.size w w' → ∃ t, Ending.returned (.bool false) = .returned (.bool t) ∧ Below w.heap.size w w' ∧ (t = true → l.length ≤ 8 ∧ ∀ i (hi : i < l.length), few l[i] m = true)) := fun w' h => ⟨false, rfl, h, fun h => by cases h⟩
  have HE2 : Hid (∀ w', Below w.heap.size w w' → l.length ≤ 8 → (∀ i (hi : i < l.length), few l[i] m = true) → ∃ t, Ending.returned (.bool true) = .returned (.bool t) ∧ Below w.heap.size w w' ∧ (t = true → l.length ≤ 8 ∧ ∀ i (hi : i < l.length), few l[i] m = true)) := fun w' h h1 h2 => ⟨true, rfl, h, fun _ => ⟨h1, h2⟩⟩
  generalize hP : (fun (e : Ending) (w' : World) => ∃ t, e = .returned (.bool t) ∧ Below w.heap.size w w' ∧ (t = true → l.length ≤ 8 ∧ ∀ i (hi : i < l.length), few l[i] m = true)) = P
  have E1 : Hid (∀ w', Below w.heap.size w w' → P (.returned (.bool false)) w') := by subst hP; exact HE1
  have E2 : Hid (∀ w', Below w.heap.size w w' → l.length ≤ 8 → (∀ i (hi : i < l.length), few l[i] m = true) → P (.returned (.bool true)) w') := by subst hP; exact HE2
  clear hP HE1 HE2
  obtain ⟨L, hL⟩ : ∃ L, l.length = L := ⟨_, rfl⟩
  have HL := Lib.hid hL
  rw [hL] at hc ⊢
  clear hL
  unfold maxLen at hcm
  by_cases hbig : 8 < L
  · go_enter Tryz.func26, Tryz.ntmps26
    go_wp2
    exact E1.out _ (Below.refl _ _)
  · have hL8 : L ≤ 8 := by omega
    clear hbig
    go_enter Tryz.func26, Tryz.ntmps26
    go_wp2_with fail
    have h0 : Hid (∀ j (hj : j < l.length), j < 0 → few l[j] m = true) := fun j _ h => absurd h (Nat.not_lt_zero _)
    go_loopw [5] (fun v wr => ∃ i : Nat, i ≤ L ∧ v = .int .i64 (i : Int) ∧ Hid (Below w.heap.size w wr) ∧ Hid (∀ j (hj : j < l.length), j < i → few l[j] m = true)) (fun v _ => L - (intOf v).toNat)
    case atStart => exact ⟨0, Nat.zero_le _, rfl, Below.refl _ _, h0⟩
    case round =>
      clear h0
      obtain ⟨i, hiL, rfl, hb, hall⟩ := hrel
      obtain ⟨wo, rfl⟩ : ∃ wo : World, wo = wr := ⟨_, rfl⟩
      by_cases hlt : i < L
      · have hil : i < l.length := by rw [HL.out]; exact hlt
        obtain ⟨b, o, rfl, hbS, hrs⟩ := HA.out (by omega)
        obtain ⟨cs, hcs, hcell⟩ := hrs.get hil
        have hcs' := hcs.below HS.out hb.out
        have ha0 : b < w.heap.size := HS.out b hbS
        obtain ⟨z0, z1, z2, z3, rfl⟩ : ∃ z0 z1 z2 z3, cs = [z0, z1, z2, z3] := by
          generalize l[i] = r at hcs
          cases r with
          | mk k n s l => unfold RawAt at hcs; obtain ⟨A, c, e, _⟩ := hcs; exact ⟨_, _, _, _, e⟩
        have l0 := (hb.out.cell (p := ⟨b, o + i * 4 + 0, none⟩) ha0).trans (hcell 0 z0 rfl)
        have l1 := (hb.out.cell (p := ⟨b, o + i * 4 + 1, none⟩) ha0).trans (hcell 1 z1 rfl)
        have l2 := (hb.out.cell (p := ⟨b, o + i * 4 + 2, none⟩) ha0).trans (hcell 2 z2 rfl)
        have l3 := (hb.out.cell (p := ⟨b, o + i * 4 + 3, none⟩) ha0).trans (hcell 3 z3 rfl)
        rw [Nat.add_zero] at l0
        have call := Lib.hid (HF.out i hil [z0, z1, z2, z3] wo hcs' (HS.out.later hb.out.size))
        have hnext : Hid (few l[i] m = true → ∀ j (hj : j < l.length), j < i + 1 → few l[j] m = true) := fun hf j hj hji => by
          by_cases e : j = i
          · subst e; exact hf
          · exact hall.out j hj (by omega)
        clear hcell hcs hcs' hrs
        generalize few l[i] m = f at call hnext
        go_wp2_with fail
        refine call.out.mono ?_
        rintro e w3 ⟨rfl, hb3⟩
        have hb4 := Lib.hid (chain2 hb.out hb3 (Nat.le_refl _))
        clear l0 l1 l2 l3 hb3 call hb hall
        cases f with
        | false =>
          clear hnext
          go_wp2
          exact E1.out _ hb4.out
        | true =>
          have hn2 := Lib.hid (hnext.out (by simp))
          clear hnext
          go_wp2
          go_roundw
          case rel => exact ⟨i + 1, by omega, by go_num, hb4, hn2⟩
          case measure => simp [intOf]; omega
      · have hn : ¬ (i : Int) < L := by omega
        have HR := Lib.hid (E2.out wo hb.out (by rw [HL.out]; exact hL8) (fun j hj => hall.out j hj (by have := HL.out; omega)))
        clear hb hall hlt
        go_wp2
        exact HR.out
end Go.Proofs.YtfnkmgipjemkdaaGreatDoor

/- The reference's Items: how long its list is. -/
namespace Go.Proofs.YtfnkmgipjemkdaaGreatDoor
open Go Go.RowKit
set_option linter.unusedVariables false

/-- The call returned a list of so many elements, or none. -/
def RetJt (w : World) (r : Option Nat) (e : Ending) (w' : World) : Prop :=
  Below w.heap.size w w' ∧ match r with
  | some n => ∃ A c, e = .returned (.tuple #[.slice A n c, .bool true])
  | none => e = .returned (.tuple #[.slice none 0 0, .bool false])
/-- Between rounds. -/
structure ItJ (w wr : World) (S : Nat → Prop) (x : Ob) (p : Value) (i : Nat) (v : Value) (xs : List Value) (R : Option Nat) : Prop where
  bel : Below w.heap.size w wr
  box : wr.heap[w.heap.size]? = some (.cells (cellsO x p).toArray 31 (0, 0))
  pair : Pair wr S x p
  own : wr.ownsRow (w.heap.size + 1) 31 7 v i xs
  cnt : x.cnt i = R
theorem ItJ.below {w wr w' : World} {S : Nat → Prop} {x : Ob} {p : Value} {i : Nat} {v : Value} {xs : List Value} {R : Option Nat} (h : ItJ w wr S x p i v xs R) (hS : In S w) (hb : Below wr.heap.size wr w') : ItJ w w' S x p i v xs R := by
  have hs := h.bel.size
  exact ⟨h.bel.trans (hb.mono hs), (hb.block _ (lt_of_heap h.box)).trans h.box, h.pair.below (fun b hb => by have := hS b hb; omega) hb, own_keep h.own fun g hg => hb.block g (own_lt h.own g hg).2, h.cnt⟩
theorem ItJ.cells {w wr : World} {S : Nat → Prop} {x : Ob} {p : Value} {i : Nat} {v : Value} {xs : List Value} {R : Option Nat} (h : ItJ w wr S x p i v xs R) {x0 x1 x2 x3 x4 x5 : Value} (e : cellsO x p = [x0, x1, x2, x3, x4, x5, p]) :
    wr.cell? ⟨w.heap.size, 0, none⟩ = some x0 ∧ wr.cell? ⟨w.heap.size, 1, none⟩ = some x1 ∧ wr.cell? ⟨w.heap.size, 2, none⟩ = some x2 ∧ wr.cell? ⟨w.heap.size, 3, none⟩ = some x3 ∧ wr.cell? ⟨w.heap.size, 4, none⟩ = some x4 ∧ wr.cell? ⟨w.heap.size, 5, none⟩ = some x5 ∧ wr.cell? ⟨w.heap.size, 6, none⟩ = some p := by
  have hb := h.box
  rw [e] at hb
  exact (row7 hb).1
theorem ItJ.step {w w1 w4 : World} {S : Nat → Prop} {a d : Ob} {p pd : Value} {i : Nat} {v v' : Value} {xs xs' : List Value} {R : Option Nat} (h : ItJ w w1 S (.cons a d) p i v xs R) (hS : In S w) (y : Obj) (hd : Pair w1 S d pd)
    (h4 : w4.ownsRow (w.heap.size + 1) 31 7 v' (i + 1) xs') (hg : (w1.alloc y).grownBy w4 v.ownBlock) :
    ItJ w (w4.setRow w.heap.size (cellsO d pd).toArray) S d pd (i + 1) v' xs' R := by
  have hown := own_lt h.own
  have hs := h.bel.size
  have hlt := lt_of_heap h.box
  have hb4 : Below w.heap.size w w4 := (Below.alloc h.bel hs y).grown hg (by simp; omega) (fun k hk => by have := (hown k hk).1; omega)
  have keep : ∀ b, b < w1.heap.size → b ≤ w.heap.size → w4.heap[b]? = w1.heap[b]? := fun b h1 h2 =>
    (hg.block b (by simp; omega) (fun e => by have := (hown b e.symm).1; omega)).trans (Below.heap_alloc _ _ _ h1)
  have hbox : w4.heap[w.heap.size]? = _ := (keep _ hlt (Nat.le_refl _)).trans h.box
  refine ⟨below_setRowO hb4 (Nat.le_refl _) _, setRow_heap _ _ _ _ _ _ hbox, ?_, own_keep h4 (fun g hg => setRow_other _ _ _ _ (by have := (own_lt h4 g hg).1; omega)), ?_⟩
  · refine (hd.keep (fun _ h => h) (fun b hb => ?_)).setRow w.heap.size (fun h => by have := hS _ h; omega) _
    have := hS b hb
    exact keep b (by omega) (by omega)
  · have := h.cnt
    simpa [Ob.cnt] using this

set_option maxHeartbeats 8000000 in
set_option maxRecDepth 100000 in
theorem itemsR (o : Ob) (p : Value) (w : World) (S : Nat → Prop) (hS : In S w) (h : Pair w S o p) (hn : o.nodes ≤ 100000) :
    Calls Tryz.prog 31 #[vO o p] w (RetJt w (o.items.map List.length)) := by
  obtain ⟨x0, x1, x2, x3, x4, x5, e⟩ := cells7 o p
  have hR : o.cnt 0 = o.items.map List.length := by rw [Ob.cnt_items]; simp
  generalize o.items.map List.length = R at hR ⊢
  have hb0 : Below w.heap.size w (w.alloc (.cells #[x0, x1, x2, x3, x4, x5, p] 31)) := Below.alloc (Below.refl _ _) (Nat.le_refl _) _
  have hg0 := heap_alloc_new w (.cells #[x0, x1, x2, x3, x4, x5, p] 31)
  have h0 : Hid (ItJ w (w.alloc (.cells #[x0, x1, x2, x3, x4, x5, p] 31)) S o p 0 (.slice none 0 0) [] R) :=
    ⟨hb0, by rw [e]; exact hg0, h.below hS hb0, ⟨rfl, .inl ⟨rfl, rfl⟩⟩, hR⟩
  have HS := Lib.hid hS
  have HOUT : Hid (∀ wo x q i v xs, ItJ w wo S x q i v xs R → x.isCons = false → (x = .nil → RetJt w R (.returned (.tuple #[v, .bool true])) wo) ∧ (x ≠ .nil → RetJt w R (.returned (.tuple #[.slice none 0 0, .bool false])) wo)) := fun wo x q i v xs hx hc => by
    have hcn := hx.cnt
    rw [Ob.cnt_flat hc] at hcn
    refine ⟨fun hn => ?_, fun hn => ?_⟩
    · rw [if_pos hn] at hcn
      subst hcn
      refine ⟨hx.bel, ?_⟩
      rcases hx.own.2 with ⟨hv, hi⟩ | ⟨g, cap, cur, hv, _⟩
      · subst hi; exact ⟨_, _, by rw [hv]⟩
      · exact ⟨_, _, by rw [hv]⟩
    · rw [if_neg hn] at hcn
      subst hcn
      exact ⟨hx.bel, rfl⟩
  clear h hS hR
  unfold vO
  rw [e]
  clear e
  obtain ⟨i0, hi0, hz0, hz1, hz2⟩ := infoO
  have HI0 := Lib.hid hi0
  have HZ0 := Lib.hid hz0
  have HZ1 := Lib.hid hz1
  have HZ2 := Lib.hid hz2
  clear hi0 hz0 hz1 hz2
  generalize hP : (fun (e : Ending) (w' : World) => RetJt w R e w') = P
  have hP' : RetJt w R = P := hP
  rw [hP']
  have HO2 : Hid (∀ wo x q i v xs, ItJ w wo S x q i v xs R → x.isCons = false → (x = .nil → P (.returned (.tuple #[v, .bool true])) wo) ∧ (x ≠ .nil → P (.returned (.tuple #[.slice none 0 0, .bool false])) wo)) := by subst hP; exact HOUT
  clear hP hP' HOUT
  go_enter Tryz.func31, Tryz.ntmps31
  go_wp2_with fail
  generalize w.alloc (.cells #[x0, x1, x2, x3, x4, x5, p] 31) = W0 at h0 ⊢
  clear hb0 hg0
  go_loopg [4] o.nodes (fun g u wr => ∃ (x : Ob) (q sl : Value) (i : Nat) (xs : List Value), sl = u ∧ x.nodes ≤ g ∧ i + x.nodes ≤ 100000 ∧ Hid (ItJ w wr S x q i sl xs R))
  case atStart => exact ⟨o, p, _, 0, [], rfl, Nat.le_refl _, by omega, h0⟩
  case round =>
    clear h0
    obtain ⟨x, q, sl, i, xs, rfl, hxg, hix, hE⟩ := hrel
    have posx := x.nodes_pos
    obtain ⟨y0, y1, y2, y3, y4, y5, ey⟩ := cells7 x q
    obtain ⟨wo, rfl⟩ : ∃ wo : World, wo = wr := ⟨_, rfl⟩
    have call := Lib.hid (isConsR x q wo S hE.out.pair)
    have EY := Lib.hid ey
    unfold vO at call
    rw [ey] at call
    obtain ⟨m0, m1, m2, m3, m4, m5, m6⟩ := hE.out.cells ey
    clear ey
    cases hx : x.isCons with
    | false =>
      rw [hx] at call
      have HX := Lib.hid hx
      clear hx
      go_wp2_with fail
      refine call.out.mono ?_
      rintro e w1 ⟨rfl, hb1⟩
      have hE1 := Lib.hid (hE.out.below HS.out hb1)
      clear m0 m1 m2 m3 m4 m5 m6 hE hb1 call
      obtain ⟨m0, m1, m2, m3, m4, m5, m6⟩ := hE1.out.cells EY.out
      have hw1 := hE1.out.bel.size
      have c2 := Lib.hid (isNilR x q w1 S (HS.out.later hw1) hE1.out.pair)
      have HD : Hid (∀ w2, Below w1.heap.size w1 w2 → (decide (x = .nil) = true → P (.returned (.tuple #[sl, .bool true])) w2) ∧ (decide (x = .nil) = false → P (.returned (.tuple #[.slice none 0 0, .bool false])) w2)) := fun w2 hb => by
        have := HO2.out w2 x q i sl xs (hE1.out.below HS.out hb) HX.out
        exact ⟨fun h => this.1 (of_decide_eq_true h), fun h => this.2 (of_decide_eq_false h)⟩
      unfold vO at c2
      rw [EY.out] at c2
      generalize decide (x = Ob.nil) = t at c2 HD
      go_wp2_with fail
      refine c2.out.mono ?_
      rintro e w2 ⟨rfl, hb2⟩
      have HF := Lib.hid (HD.out w2 hb2)
      clear m0 m1 m2 m3 m4 m5 m6 hb2 HD c2
      cases t
      · have HF2 := Lib.hid (HF.out.2 rfl)
        clear HF
        go_wp2
        first | exact HF2.out | (go_ret2; exact HF2.out)
      · have HF2 := Lib.hid (HF.out.1 rfl)
        clear HF
        go_wp2
        first | exact HF2.out | (go_ret2; exact HF2.out)
    | true =>
      rw [hx] at call
      cases x with
      | cons a d =>
        have hnn : (Ob.cons a d).nodes = 1 + a.nodes + d.nodes := rfl
        have pa1 := a.nodes_pos
        have pd1 := d.nodes_pos
        have hd : d.nodes < gk := by omega
        have hm : i + 1 + d.nodes ≤ 100000 := by omega
        have hi9 : i ≤ 100000 := by omega
        clear hx hnn
        go_wp2_with fail
        refine call.out.mono ?_
        rintro e w1 ⟨rfl, hb1⟩
        have hE1 := Lib.hid (hE.out.below HS.out hb1)
        clear m0 m1 m2 m3 m4 m5 m6 hE hb1 call
        obtain ⟨b, o', c, pa, pd, rfl, hc, hA, hD⟩ := hE1.out.pair.parts
        obtain ⟨m0, m1, m2, m3, m4, m5, m6⟩ := hE1.out.cells EY.out
        obtain ⟨u0, u1, u2, u3, u4, u5, ea, l0, l1, l2, l3, l4, l5, l6⟩ := hA.cells
        have hw1 := hE1.out.bel.size
        have hw1b := lt_of_heap hE1.out.box
        have hbS : b < w.heap.size := HS.out b hA.1.1
        have own3 : Hid ((w1.alloc (.cells #[u0, u1, u2, u3, u4, u5, pa] 31)).ownsRow (w.heap.size + 1) 31 7 sl i xs) := own_keep hE1.out.own fun g hg => Below.heap_alloc _ _ _ (own_lt hE1.out.own g hg).2
        have hone : ∀ u ∈ cellsO a pa, u.oneCell' = true := by
          have := hA.2.2.one
          intro u hu
          rw [Array.all_eq_true_iff_forall_mem] at this
          exact this u (by simpa using hu)
        rw [ea] at hone
        have HONE := Lib.hid hone
        have HNEWS : Hid (∀ j u, [u0, u1, u2, u3, u4, u5, pa][j]? = some u → (w1.alloc (.cells #[u0, u1, u2, u3, u4, u5, pa] 31)).cell? ((⟨w1.heap.size, 0, none⟩ : Addr).add j) = some u) := newsO (cs := #[u0, u1, u2, u3, u4, u5, pa]) rfl
        have hs3 : w.heap.size + 1 ≤ (w1.alloc (.cells #[u0, u1, u2, u3, u4, u5, pa] 31)).heap.size := by simp; omega
        obtain ⟨t0, t1, t2, t3, t4, t5, ed⟩ := cells7 d pd
        have HSTEP : Hid (∀ v' w4 xs', w4.ownsRow (w.heap.size + 1) 31 7 v' (i + 1) xs' → (w1.alloc (.cells #[u0, u1, u2, u3, u4, u5, pa] 31)).grownBy w4 sl.ownBlock →
            Hid (ItJ w (w4.setRow w.heap.size #[t0, t1, t2, t3, t4, t5, pd]) S d pd (i + 1) v' xs' R) ∧ w4.heap[w.heap.size]? = some (.cells #[y0, y1, y2, y3, y4, y5, .slice (some ⟨b, o', none⟩) 2 c] 31 (0, 0)) ∧
            (w4.cell? ⟨b, o' + 7, none⟩ = some t0 ∧ w4.cell? ⟨b, o' + 7 + 1, none⟩ = some t1 ∧ w4.cell? ⟨b, o' + 7 + 2, none⟩ = some t2 ∧ w4.cell? ⟨b, o' + 7 + 3, none⟩ = some t3 ∧ w4.cell? ⟨b, o' + 7 + 4, none⟩ = some t4 ∧ w4.cell? ⟨b, o' + 7 + 5, none⟩ = some t5 ∧ w4.cell? ⟨b, o' + 7 + 6, none⟩ = some pd)) := fun v' w4 xs' h4 hg => by
          have hown := own_lt hE1.out.own
          have keep : ∀ k, k < w1.heap.size → k ≤ w.heap.size → w4.heap[k]? = w1.heap[k]? := fun k h1 h2 =>
            (hg.block k (by simp; omega) (fun e => by have := (hown k e.symm).1; omega)).trans (Below.heap_alloc _ _ _ h1)
          have st := hE1.out.step HS.out _ hD.2.2 h4 hg
          rw [ed] at st
          refine ⟨st, ?_, ?_⟩
          · rw [keep _ hw1b (Nat.le_refl _)]
            have := hE1.out.box
            rw [EY.out] at this
            exact this
          · have hD4 := hD.keep (w' := w4) (S' := S) (fun _ h => h) (fun k hk => keep k (by have := HS.out k hk; omega) (by have := HS.out k hk; omega))
            obtain ⟨_, _, _, _, _, _, ed', k0, k1, k2, k3, k4, k5, k6⟩ := hD4.cells
            rw [ed] at ed'
            simp only [List.cons.injEq, and_true] at ed'
            obtain ⟨rfl, rfl, rfl, rfl, rfl, rfl⟩ := ed'
            exact ⟨k0, k1, k2, k3, k4, k5, k6⟩
        have HPD : Hid ((#[t0, t1, t2, t3, t4, t5, pd] : Array Value).all (·.oneCell') = true) := by
          have := hD.2.2.one
          rw [ed] at this
          exact this
        clear hA hD ea ed hone hw1 hw1b
        go_wp2_with (first
          | (at_builtin; refine wpList_append_own_at _ rfl (.tmp 7) (.tmp 12) _ rfl (w.heap.size + 1) 31 i0 _ 7 112 Tryz.underlying29 HI0.out HZ0.out HZ1.out HZ2.out rfl (by omega) sl i xs rfl own3.out ⟨w1.heap.size, 0, none⟩ 1 1 [u0, u1, u2, u3, u4, u5, pa] rfl rfl HNEWS.out HONE.out (by simp only [maxLen]; omega) (by omega) hs3 ?_; intro v4 w4 hown4 hg4 hnil4 hat4; obtain ⟨hst, hbx, hcl⟩ := HSTEP.out v4 w4 _ hown4 hg4; have HBX := Lib.hid hbx; have HCL := Lib.hid hcl; clear hown4 hg4 hnil4 hat4 hbx hcl m0 m1 m2 m3 m4 m5 m6 l0 l1 l2 l3 l4 l5 l6; obtain ⟨m0, m1, m2, m3, m4, m5, m6⟩ := (row7 HBX.out).1; obtain ⟨k0, k1, k2, k3, k4, k5, k6⟩ := HCL.out)
          | (refine storeO rfl (.tmp 1) (.tmp 17) rfl w.heap.size #[t0, t1, t2, t3, t4, t5, pd] rfl rfl _ _ HBX.out rfl rfl HPD.out ?_))
        all_goals go_roundg d.nodes
        all_goals first | exact hd | exact ⟨d, pd, _, i + 1, _, rfl, Nat.le_refl _, hm, hst⟩
      | _ => simp [Ob.isCons] at hx
end Go.Proofs.YtfnkmgipjemkdaaGreatDoor

/- The walk of ObjectLists. -/
namespace Go.Proofs.YtfnkmgipjemkdaaGreatDoor
open Go Go.RowKit
set_option linter.unusedVariables false

/-- The tree's box, the list's box, the given objects. -/
structure LsA (w X : World) (rw : Array Value) (g0 : Nat) (os : List Ob) (p : Value) (A1 : Option Addr) : Prop where
  bel : Below w.heap.size w X
  rawb : X.heap[w.heap.size]? = some (.cells rw 26 (0, 0))
  ob : X.heap[g0]? = some (.cells (cellsO (Ob.list os) p).toArray 31 (0, 0))
  pair : Pair X (Has X) (Ob.list os) p
  obs : 0 < os.length → ∃ b o, A1 = some ⟨b, o, none⟩ ∧ Has X b ∧ ObsAt X (Has X) b o os
theorem obsAt_more {w : World} {S S' : Nat → Prop} {b : Nat} (hS : ∀ b, S b → S' b) : ∀ {l : List Ob} {o : Nat}, ObsAt w S b o l → ObsAt w S' b o l
  | [], _, _ => by unfold ObsAt; trivial
  | r :: rs, o, h => by
    unfold ObsAt at h ⊢
    obtain ⟨⟨p, h1, h2⟩, h3⟩ := h
    exact ⟨⟨p, h1.more hS, h2⟩, obsAt_more hS h3⟩
theorem LsA.below {w X X' : World} {rw : Array Value} {g0 : Nat} {os : List Ob} {p : Value} {A1 : Option Addr} (h : LsA w X rw g0 os p A1) (hb : Below X.heap.size X X') : LsA w X' rw g0 os p A1 := by
  have hm : ∀ b, Has X b → Has X' b := fun b h => Nat.lt_of_lt_of_le h hb.size
  refine ⟨h.bel.trans (hb.mono h.bel.size), (hb.block _ (lt_of_heap h.rawb)).trans h.rawb, (hb.block _ (lt_of_heap h.ob)).trans h.ob, (h.pair.below (fun _ h => h) hb).more hm, fun h0 => ?_⟩
  obtain ⟨b, o, e, hbb, ho⟩ := h.obs h0
  exact ⟨b, o, e, hm b hbb, obsAt_more hm (obsAt_below ho (fun _ h => h) hbb hb)⟩

set_option maxHeartbeats 16000000 in
set_option maxRecDepth 100000 in
theorem lists_walk (l : List Rw) (A : Option Addr) (c : Nat) (r : Rw) (r0 r1 r2 r3 : Value) (w : World) (hc : l.length ≤ c) (hcm : c ≤ maxLen) (hA : 0 < l.length → ∃ b o, A = some ⟨b, o, none⟩ ∧ Has w b ∧ RawsAt w (Has w) b o l) (hrr : RawAt w (Has w) r [r0, r1, r2, r3]) (ht : Tab w) :
    Calls Tryz.prog 4 #[.slice A l.length c, .agg #[r0, r1, r2, r3]] w (RetB w true) := by
  have HT := Lib.hid ht
  clear ht
  have Rr := Lib.hid hrr
  clear hrr
  have HA : Hid (∀ W', Below w.heap.size w W' → 0 < l.length → ∃ b o, A = some ⟨b, o, none⟩ ∧ Has w b ∧ RawsAt W' (Has w) b o l) := fun W' hb h0 => by
    obtain ⟨b, o, e, hbb, hr⟩ := hA h0
    exact ⟨b, o, e, hbb, RawsAt.keep (fun q hq => hb.cell (In.has w q.block hq)) b o hbb l hr⟩
  clear hA
  have CFA : Hid (∀ W', Below w.heap.size w W' → Calls Tryz.prog 26 #[.slice A l.length c, .int .i64 20] W' (fun e w' => ∃ t, e = .returned (.bool t) ∧ Below W'.heap.size W' w' ∧ (t = true → l.length ≤ 8 ∧ ∀ i (hi : i < l.length), few l[i] 20 = true))) := fun W' h => fewAllO l A c 20 W' (Has w) (In.has w |>.later h.size) hc hcm (by decide) (by decide) (HA.out W' h)
  have CFr : Hid (∀ W', Below w.heap.size w W' → Calls Tryz.prog 9 #[.agg #[r0, r1, r2, r3], .int .i64 40] W' (fun e w' => e = .returned (.bool (few r 40)) ∧ Below W'.heap.size W' w')) := fun W' h => fewO r [r0, r1, r2, r3] 40 W' (Has w) (In.has w |>.later h.size) (Rr.out.below (In.has w) h) (by decide) (by decide)
  have KOr : Hid (few r 40 = true → ∀ W', Below w.heap.size w W' → Calls Tryz.prog 10 #[.agg #[r0, r1, r2, r3]] W' (RetX W' 200)) := fun hf W' h => by
    obtain ⟨hok, hcn⟩ := few_ok hf
    exact (objectO r [r0, r1, r2, r3] W' (Has w) (In.has w |>.later h.size) (Rr.out.below (In.has w) h) hok (HT.out.below h)).mono fun _ _ hr => hr.le (by omega)
  have COb : Hid ((l.length ≤ 8 ∧ ∀ i (hi : i < l.length), few l[i] 20 = true) → ∀ W', Below w.heap.size w W' → Calls Tryz.prog 27 #[.slice A l.length c] W' (RetXs W' l)) := fun hf W' h =>
    objectsO l A c W' (Has w) (In.has w |>.later h.size) hf.1 hc (HT.out.below h) (HA.out W' h) (fun x hx => by
      obtain ⟨i, hi, rfl⟩ := List.getElem_of_mem hx
      exact (few_ok (hf.2 i hi)).1)
  have HCN : Hid ((l.length ≤ 8 ∧ ∀ i (hi : i < l.length), few l[i] 20 = true) → Rw.cnts l ≤ 160) := fun hf => by
    have key : ∀ (k : List Rw), (∀ i (hi : i < k.length), few k[i] 20 = true) → Rw.cnts k ≤ 20 * k.length := by
      intro k
      induction k with
      | nil => intro _; simp [Rw.cnts]
      | cons a k ih =>
        intro h
        have h1 := (few_ok (h 0 (by simp))).2
        have h2 := ih (fun i hi => h (i + 1) (by simpa using hi))
        simp only [List.getElem_cons_zero] at h1
        simp only [Rw.cnts, List.length_cons]
        omega
    have := key l hf.2
    omega
  generalize few r 40 = fr at CFr KOr
  obtain ⟨L, hL⟩ : ∃ L, l.length = L := ⟨_, rfl⟩
  have HL := Lib.hid hL
  rw [hL] at hc
  have CFA' : Hid (∀ W', Below w.heap.size w W' → Calls Tryz.prog 26 #[.slice A L c, .int .i64 20] W' (fun e w' => ∃ t, e = .returned (.bool t) ∧ Below W'.heap.size W' w' ∧ (t = true → l.length ≤ 8 ∧ ∀ i (hi : i < l.length), few l[i] 20 = true))) := by rw [← hL]; exact CFA
  have COb' : Hid ((l.length ≤ 8 ∧ ∀ i (hi : i < l.length), few l[i] 20 = true) → ∀ W', Below w.heap.size w W' → Calls Tryz.prog 27 #[.slice A L c] W' (RetXs W' l)) := by rw [← hL]; exact COb
  rw [hL]
  unfold maxLen at hcm
  clear hL CFA COb HA
  go_enter Tryz.func4, Tryz.ntmps4
  go_wp2_with fail
  have hb0 : Below w.heap.size w (w.alloc (.cells #[r0, r1, r2, r3] 26)) := Below.alloc (Below.refl _ _) (Nat.le_refl _) _
  have hg0 := heap_alloc_new w (.cells #[r0, r1, r2, r3] 26)
  generalize w.alloc (.cells #[r0, r1, r2, r3] 26) = W at hb0 hg0 ⊢
  have FB : Hid (∀ W', Below W.heap.size W W' → Below w.heap.size w W') := fun W' h => hb0.trans (h.mono hb0.size)
  have FG : Hid (∀ W', Below W.heap.size W W' → W'.heap[w.heap.size]? = some (.cells #[r0, r1, r2, r3] 26 (0, 0))) := fun W' h => (h.block _ (lt_of_heap hg0)).trans hg0
  have FR : Hid (∀ X', Below W.heap.size W X' → X'.cell? ⟨w.heap.size, 0, none⟩ = some r0 ∧ X'.cell? ⟨w.heap.size, 1, none⟩ = some r1 ∧ X'.cell? ⟨w.heap.size, 2, none⟩ = some r2 ∧ X'.cell? ⟨w.heap.size, 3, none⟩ = some r3) := fun W' h => by
    have := FG.out W' h
    refine ⟨?_, ?_, ?_, ?_⟩ <;> (rw [cell_of_row _ _ _ _ _ _ this]; rfl)
  clear hb0 hg0
  refine (first2_any _ (HT.out.below (FB.out _ (Below.refl _ _)))).mono ?_
  rintro e w1 ⟨rfl, hb1⟩
  have H1 := Lib.hid hb1
  clear hb1
  go_wp2_with fail
  refine (CFA'.out w1 (FB.out w1 H1.out)).mono ?_
  rintro e w2 ⟨t, rfl, hb2, hok⟩
  have H2 := Lib.hid (chain2 H1.out hb2 (Nat.le_refl _))
  have HOK := Lib.hid hok
  clear hb2 hok H1
  cases t with
  | false =>
    have HE := Lib.hid (FB.out w2 H2.out)
    go_wp2
    all_goals go_ret
    all_goals exact ⟨rfl, HE.out⟩
  | true =>
    have HK := Lib.hid (HOK.out rfl)
    clear HOK
    obtain ⟨z0, z1, z2, z3⟩ := FR.out w2 H2.out
    go_wp2_with fail
    clear z0 z1 z2 z3
    refine (CFr.out w2 (FB.out w2 H2.out)).mono ?_
    rintro e w3 ⟨rfl, hb3⟩
    have H3 := Lib.hid (chain2 H2.out hb3 (Nat.le_refl _))
    clear hb3 H2
    cases fr with
    | false =>
      have HE := Lib.hid (FB.out w3 H3.out)
      go_wp2
      all_goals go_ret
      all_goals exact ⟨rfl, HE.out⟩
    | true =>
      go_wp2_with fail
      refine (COb'.out HK.out w3 (FB.out w3 H3.out)).mono ?_
      rintro e w4 ⟨gv, xs, rfl, hM⟩
      have hcn := HCN.out HK.out
      have hnod := hM.nodes
      rw [List.take_length] at hnod
      have hbd := hM.bd
      have hlen : (fsts xs).length ≤ 8 := by have := hM.len; have := HK.out.1; unfold fsts; rw [List.length_map]; omega
      obtain ⟨A1, c1, rfl, hc1, hA1⟩ := hM.slice
      have H4 := Lib.hid (chain2 H3.out hM.bel (Nat.le_refl _))
      have hs34 := hM.bel.size
      clear hM HK HCN COb' CFA' CFr
      generalize fsts xs = os at hnod hbd hlen hc1 hA1 ⊢
      have call := Lib.hid (listP os A1 c1 w4 (fun b => w3.heap.size ≤ b ∧ b < w4.heap.size) (fun b h => h.2) hc1 (by omega) hA1)
      have HA1 := Lib.hid hA1
      clear hA1
      have HBD := Lib.hid hbd
      clear hbd
      obtain ⟨n, hn⟩ : ∃ n, os.length = n := ⟨_, rfl⟩
      have HN := Lib.hid hn
      rw [hn] at hc1 hlen call ⊢
      clear hn
      go_wp2_with fail
      refine call.out.mono ?_
      rintro e w5 ⟨p0, rfl, hp0, hb5⟩
      have H5 := Lib.hid (chain2 H4.out hb5 (Nat.le_refl _))
      have hg5 := Lib.hid (heap_alloc_new w5 (.cells #[.int .i64 0, .string ⟨#[]⟩, .string ⟨#[]⟩, .string ⟨#[]⟩, .string ⟨#[]⟩, .string ⟨#[]⟩, .slice none 0 0] 31))
      have HP0 := Lib.hid hp0
      have HB5 := Lib.hid hb5
      have hs45 := hb5.size
      have hs5 := H5.out.size
      clear call hb5
      go_upto_region 7 with (refine storeV (w1 := w5) rfl (.tmp 6) (.tmp 27) rfl w5.heap.size (Ob.list os) p0 rfl rfl hp0 _ _ hg5.out rfl ?_)
      have hX : LsA w ((w5.alloc (.cells #[.int .i64 0, .string ⟨#[]⟩, .string ⟨#[]⟩, .string ⟨#[]⟩, .string ⟨#[]⟩, .string ⟨#[]⟩, .slice none 0 0] 31)).setRow w5.heap.size (cellsO (Ob.list os) p0).toArray) #[r0, r1, r2, r3] w5.heap.size os p0 A1 := by
        have hba : Below w5.heap.size w5 (w5.alloc (.cells #[.int .i64 0, .string ⟨#[]⟩, .string ⟨#[]⟩, .string ⟨#[]⟩, .string ⟨#[]⟩, .string ⟨#[]⟩, .slice none 0 0] 31)) := Below.alloc (Below.refl _ _) (Nat.le_refl _) _
        have hbs := (FB.out w5 H5.out).size
        have hlt := lt_of_heap (FG.out w5 H5.out)
        have up : ∀ b, (Upto w4 w5 (fun b => w3.heap.size ≤ b ∧ b < w4.heap.size) b) → b < w5.heap.size := fun b h => by rcases h with h | h <;> omega
        refine ⟨below_setRowO (Below.alloc (FB.out w5 H5.out) hbs _) hbs _, ?_, setRow_heap _ _ _ _ _ _ hg5.out, ?_, fun h0 => ?_⟩
        · rw [setRow_other _ _ _ _ (by omega), Below.heap_alloc _ _ _ hlt]
          exact FG.out w5 H5.out
        · exact ((HP0.out.below up hba).setRow w5.heap.size (fun h => Nat.lt_irrefl _ (up _ h)) _).more (fun b h => by
            have := up b h
            show b < _
            rw [size_setRow]
            simp
            omega)
        · obtain ⟨b, o, e, hbb, ho⟩ := HA1.out h0
          refine ⟨b, o, e, by show b < _; rw [size_setRow]; simp; omega, ?_⟩
          have h1 := obsAt_below ho (fun b h => h.2) hbb.2 HB5.out
          have h2 := obsAt_below h1 (B := w5.heap.size) (fun b h => by omega) (by omega) hba
          refine obsAt_more (S := fun b => w3.heap.size ≤ b ∧ b < w4.heap.size) (fun b h => by show b < _; rw [size_setRow]; simp; omega) ?_
          exact obsAt_keep (fun b' h => setRow_other _ _ _ _ (by have h' : w3.heap.size ≤ b' ∧ b' < w4.heap.size := h; omega)) (fun j u _ _ hcell => (World.cell?_of_block (a := ⟨b, j, none⟩) (setRow_other _ w5.heap.size b _ (by have h' : w3.heap.size ≤ b ∧ b < w4.heap.size := hbb; omega))).trans hcell) h2
      have h5X : Below W.heap.size W ((w5.alloc (.cells #[.int .i64 0, .string ⟨#[]⟩, .string ⟨#[]⟩, .string ⟨#[]⟩, .string ⟨#[]⟩, .string ⟨#[]⟩, .slice none 0 0] 31)).setRow w5.heap.size (cellsO (Ob.list os) p0).toArray) := below_setRowO (Below.alloc H5.out hs5 _) hs5 _
      change Code.wp _ _ _ _ ((w5.alloc (.cells #[.int .i64 0, .string ⟨#[]⟩, .string ⟨#[]⟩, .string ⟨#[]⟩, .string ⟨#[]⟩, .string ⟨#[]⟩, .slice none 0 0] 31)).setRow w5.heap.size (cellsO (Ob.list os) p0).toArray)
      generalize (w5.alloc (.cells #[.int .i64 0, .string ⟨#[]⟩, .string ⟨#[]⟩, .string ⟨#[]⟩, .string ⟨#[]⟩, .string ⟨#[]⟩, .slice none 0 0] 31)).setRow w5.heap.size (cellsO (Ob.list os) p0).toArray = X at hX h5X ⊢
      have HX := Lib.hid hX
      have HWX := Lib.hid h5X
      clear hX h5X hg5 HP0 HB5 HA1 hp0 H5 H4 H3 hs34 hs45 hs5
      generalize w5.heap.size = g0 at HX ⊢
      obtain ⟨x0, x1, x2, x3, x4, x5, ex⟩ := cells7 (Ob.list os) p0
      have ev : vO (Ob.list os) p0 = .agg #[x0, x1, x2, x3, x4, x5, p0] := by unfold vO; rw [ex]
      have FO : Hid (∀ X', Below X.heap.size X X' → X'.cell? ⟨g0, 0, none⟩ = some x0 ∧ X'.cell? ⟨g0, 1, none⟩ = some x1 ∧ X'.cell? ⟨g0, 2, none⟩ = some x2 ∧ X'.cell? ⟨g0, 3, none⟩ = some x3 ∧ X'.cell? ⟨g0, 4, none⟩ = some x4 ∧ X'.cell? ⟨g0, 5, none⟩ = some x5 ∧ X'.cell? ⟨g0, 6, none⟩ = some p0) := fun X' h => by
        have f := (HX.out.below h).ob
        rw [ex] at f
        exact (row7 f).1
      have CIt : Hid (∀ X', Below X.heap.size X X' → Calls Tryz.prog 29 #[.agg #[x0, x1, x2, x3, x4, x5, p0]] X' (fun e w' => Below X'.heap.size X' w' ∧ ∃ g, e = .returned (.tuple #[.slice (some ⟨g, 0, none⟩) n n, .bool true]) ∧ ObsAt w' (Has X') g 0 os ∧ g < w'.heap.size)) := fun X' h => by
        rw [← ev]
        have hx := itemsP (Ob.list os) p0 X' (Has X') (In.has X') (HX.out.below h).pair (by omega)
        rw [Ob.items_list] at hx
        refine hx.mono fun e w' hr => ?_
        obtain ⟨h1, g, h2, h3, h4, h5⟩ := hr
        rw [HN.out] at h2
        exact ⟨h1, g, h2, h3, h5⟩
      have CLR : Hid (∀ X', Below X.heap.size X X' → Calls Tryz.prog 30 #[.slice A1 n c1] X' (RetO X' (Has X') (Ob.list os))) := fun X' h => by
        have := listO os A1 c1 X' (Has X') (In.has X') (by rw [HN.out]; exact hc1) (by rw [HN.out]; omega) (HX.out.below h).obs
        rw [HN.out] at this
        exact this
      have CE1 : Hid (∀ X' p1, Below X.heap.size X X' → Pair X' (Has X') (Ob.list os) p1 → Calls Tryz.prog 12 #[.agg #[x0, x1, x2, x3, x4, x5, p0], vO (Ob.list os) p1] X' (RetB X' true)) := fun X' p1 h hp => by
        rw [← ev]
        have := equalO (Ob.list os) (Ob.list os) p0 p1 X' (Has X') (In.has X') (HX.out.below h).pair hp
        rw [decide_eq_true rfl] at this
        exact this
      have HOB : Hid (∀ X', Below X.heap.size X X' → 0 < os.length → ∃ b o, A1 = some ⟨b, o, none⟩ ∧ Has X' b ∧ ObsAt X' (Has X') b o os) := fun X' h => (HX.out.below h).obs
      have HRW : Hid (∀ X', Below X.heap.size X X' → Below w.heap.size w X' ∧ X'.cell? ⟨w.heap.size, 0, none⟩ = some r0 ∧ X'.cell? ⟨w.heap.size, 1, none⟩ = some r1 ∧ X'.cell? ⟨w.heap.size, 2, none⟩ = some r2 ∧ X'.cell? ⟨w.heap.size, 3, none⟩ = some r3) := fun X' h => ⟨(HX.out.below h).bel, FR.out X' (HWX.out.trans (h.mono HWX.out.size))⟩
      clear HX ex ev FR FG FB HWX HBD hnod
      obtain ⟨m0, m1, m2, m3, m4, m5, m6⟩ := FO.out X (Below.refl _ _)
      go_wp2_with fail
      refine (CIt.out X (Below.refl _ _)).mono ?_
      rintro e w6 ⟨hb6, g1, rfl, ho6, hg6⟩
      have H6 := Lib.hid hb6
      have HO6 : Hid (∀ X', Below w6.heap.size w6 X' → ObsAt X' (Has X') g1 0 os) := fun X' h => by
        have hs := H6.out.size
        have h1 := obsAt_more (S' := Has w6) (fun b hb => Nat.lt_of_lt_of_le hb hs) ho6
        exact obsAt_more (fun b hb => Nat.lt_of_lt_of_le hb h.size) (obsAt_below h1 (fun _ h => h) hg6 h)
      have FY : Hid (∀ X', Below w6.heap.size w6 X' → Below X.heap.size X X') := fun X' h => H6.out.trans (h.mono H6.out.size)
      clear m0 m1 m2 m3 m4 m5 m6 hb6 ho6 CIt
      obtain ⟨m0, m1, m2, m3, m4, m5, m6⟩ := FO.out w6 H6.out
      have hB0 : Below w6.heap.size w6 w6.drew := (Below.refl _ _).drew
      have hn8 : n ≤ 8 := hlen
      clear hg6
      go_wp2_with fail
      go_region_held3 (fun X' => X'.cell? ⟨g0, 0, none⟩ = some x0 ∧ X'.cell? ⟨g0, 1, none⟩ = some x1 ∧ X'.cell? ⟨g0, 2, none⟩ = some x2 ∧ X'.cell? ⟨g0, 3, none⟩ = some x3 ∧ X'.cell? ⟨g0, 4, none⟩ = some x4 ∧ X'.cell? ⟨g0, 5, none⟩ = some x5 ∧ X'.cell? ⟨g0, 6, none⟩ = some p0) (first | exact FO.out _ (FY.out _ ‹Below w6.heap.size w6 _›) | go_keep)
        (first
          | (go_at_call 30; refine (CLR.out _ (FY.out _ ‹Below w6.heap.size w6 _›)).mono ?_; rintro e u1 ⟨p1, rfl, hp1, hb1⟩; have hB1 := chain2 ‹Below w6.heap.size w6 _› hb1 (Nat.le_refl _); have HP1 : Hid (Pair u1 (Has u1) (Ob.list os) p1) := hp1.more (fun b h => by rcases h with h | h; exact Nat.lt_of_lt_of_le h hb1.size; exact h.2); clear hb1 hp1)
          | (go_at_call 12; refine (CE1.out _ p1 (FY.out _ ‹Below w6.heap.size w6 _›) HP1.out).mono ?_; rintro e u2 ⟨rfl, hb2⟩; have hB2 := chain2 ‹Below w6.heap.size w6 _› hb2 (Nat.le_refl _); clear hb2))
      have h0 : Hid (Below w6.heap.size w6 u2) := hB2
      clear hB1 hB2 HP1 hB0 m0 m1 m2 m3 m4 m5 m6
      go_wp2_with fail
      go_loopw [9] (fun v wr => ∃ i : Nat, i ≤ n ∧ v = .int .i64 (i : Int) ∧ Hid (Below w6.heap.size w6 wr)) (fun v _ => n - (intOf v).toNat)
      case atStart => exact ⟨0, Nat.zero_le _, rfl, h0⟩
      case round =>
        clear h0
        obtain ⟨i, hin, rfl, hb⟩ := hrel
        obtain ⟨wo, rfl⟩ : ∃ wo : World, wo = wr := ⟨_, rfl⟩
        by_cases hlt : i < n
        · have hil : i < os.length := by rw [HN.out]; exact hlt
          obtain ⟨b1, o1, hA1, hb1, hob⟩ := HOB.out wo (FY.out wo hb.out) (by omega)
          have hoa := HO6.out wo hb.out
          obtain ⟨pa, hpa, hca⟩ := hoa.get hil
          obtain ⟨pb, hpb, hcb⟩ := hob.get hil
          obtain ⟨y0, y1, y2, y3, y4, y5, ea⟩ := cells7 os[i] pa
          obtain ⟨t0, t1, t2, t3, t4, t5, eb⟩ := cells7 os[i] pb
          have CE2 : Hid (∀ X', Below wo.heap.size wo X' → Calls Tryz.prog 12 #[.agg #[y0, y1, y2, y3, y4, y5, pa], .agg #[t0, t1, t2, t3, t4, t5, pb]] X' (RetB X' true)) := fun X' h => by
            have ha : vO os[i] pa = .agg #[y0, y1, y2, y3, y4, y5, pa] := by unfold vO; rw [ea]
            have hb' : vO os[i] pb = .agg #[t0, t1, t2, t3, t4, t5, pb] := by unfold vO; rw [eb]
            rw [← ha, ← hb']
            have := equalO os[i] os[i] pa pb X' (Has wo) (fun b h' => Nat.lt_of_lt_of_le h' h.size) (hpa.below (fun _ h => h) h) (hpb.below (fun _ h => h) h)
            rw [decide_eq_true rfl] at this
            exact this
          rw [ea] at hca
          rw [eb] at hcb
          have l0 := hca 0 _ rfl
          have l1 := hca 1 _ rfl
          have l2 := hca 2 _ rfl
          have l3 := hca 3 _ rfl
          have l4 := hca 4 _ rfl
          have l5 := hca 5 _ rfl
          have l6 := hca 6 _ rfl
          have k0 := hcb 0 _ rfl
          have k1 := hcb 1 _ rfl
          have k2 := hcb 2 _ rfl
          have k3 := hcb 3 _ rfl
          have k4 := hcb 4 _ rfl
          have k5 := hcb 5 _ rfl
          have k6 := hcb 6 _ rfl
          simp only [Nat.zero_add, Nat.add_zero] at l0 l1 l2 l3 l4 l5 l6 k0
          have HCELL : Hid (∀ X', Below wo.heap.size wo X' → (X'.cell? ⟨g1, i * 7, none⟩ = some y0 ∧ X'.cell? ⟨g1, i * 7 + 1, none⟩ = some y1 ∧ X'.cell? ⟨g1, i * 7 + 2, none⟩ = some y2 ∧ X'.cell? ⟨g1, i * 7 + 3, none⟩ = some y3 ∧ X'.cell? ⟨g1, i * 7 + 4, none⟩ = some y4 ∧ X'.cell? ⟨g1, i * 7 + 5, none⟩ = some y5 ∧ X'.cell? ⟨g1, i * 7 + 6, none⟩ = some pa) ∧ (X'.cell? ⟨b1, o1 + i * 7, none⟩ = some t0 ∧ X'.cell? ⟨b1, o1 + i * 7 + 1, none⟩ = some t1 ∧ X'.cell? ⟨b1, o1 + i * 7 + 2, none⟩ = some t2 ∧ X'.cell? ⟨b1, o1 + i * 7 + 3, none⟩ = some t3 ∧ X'.cell? ⟨b1, o1 + i * 7 + 4, none⟩ = some t4 ∧ X'.cell? ⟨b1, o1 + i * 7 + 5, none⟩ = some t5 ∧ X'.cell? ⟨b1, o1 + i * 7 + 6, none⟩ = some pb)) := by
            intro X' h
            have hg1 : g1 < wo.heap.size := by
              have := l0
              have hx := (cell_has this).1
              exact hx
            exact ⟨⟨(h.cell (p := ⟨g1, i * 7, none⟩) hg1).trans l0, (h.cell (p := ⟨g1, i * 7 + 1, none⟩) hg1).trans l1, (h.cell (p := ⟨g1, i * 7 + 2, none⟩) hg1).trans l2, (h.cell (p := ⟨g1, i * 7 + 3, none⟩) hg1).trans l3, (h.cell (p := ⟨g1, i * 7 + 4, none⟩) hg1).trans l4, (h.cell (p := ⟨g1, i * 7 + 5, none⟩) hg1).trans l5, (h.cell (p := ⟨g1, i * 7 + 6, none⟩) hg1).trans l6⟩, ⟨(h.cell (p := ⟨b1, o1 + i * 7, none⟩) hb1).trans k0, (h.cell (p := ⟨b1, o1 + i * 7 + 1, none⟩) hb1).trans k1, (h.cell (p := ⟨b1, o1 + i * 7 + 2, none⟩) hb1).trans k2, (h.cell (p := ⟨b1, o1 + i * 7 + 3, none⟩) hb1).trans k3, (h.cell (p := ⟨b1, o1 + i * 7 + 4, none⟩) hb1).trans k4, (h.cell (p := ⟨b1, o1 + i * 7 + 5, none⟩) hb1).trans k5, (h.cell (p := ⟨b1, o1 + i * 7 + 6, none⟩) hb1).trans k6⟩⟩
          have hB0 : Below wo.heap.size wo wo.drew := (Below.refl _ _).drew
          have i0 : (0 : Int) ≤ (i : Int) := by omega
          have i1 : (i : Int) < (n : Int) := by omega
          have HBB := Lib.hid (fun X' (h : Below wo.heap.size wo X') => chain2 hb.out h (Nat.le_refl _))
          subst hA1
          clear hca hcb hpa hpb hoa hob ea eb hil hb1 CE1 CLR FO
          go_wp2_with fail
          go_region_held3 (fun X' => (X'.cell? ⟨g1, i * 7, none⟩ = some y0 ∧ X'.cell? ⟨g1, i * 7 + 1, none⟩ = some y1 ∧ X'.cell? ⟨g1, i * 7 + 2, none⟩ = some y2 ∧ X'.cell? ⟨g1, i * 7 + 3, none⟩ = some y3 ∧ X'.cell? ⟨g1, i * 7 + 4, none⟩ = some y4 ∧ X'.cell? ⟨g1, i * 7 + 5, none⟩ = some y5 ∧ X'.cell? ⟨g1, i * 7 + 6, none⟩ = some pa) ∧ (X'.cell? ⟨b1, o1 + i * 7, none⟩ = some t0 ∧ X'.cell? ⟨b1, o1 + i * 7 + 1, none⟩ = some t1 ∧ X'.cell? ⟨b1, o1 + i * 7 + 2, none⟩ = some t2 ∧ X'.cell? ⟨b1, o1 + i * 7 + 3, none⟩ = some t3 ∧ X'.cell? ⟨b1, o1 + i * 7 + 4, none⟩ = some t4 ∧ X'.cell? ⟨b1, o1 + i * 7 + 5, none⟩ = some t5 ∧ X'.cell? ⟨b1, o1 + i * 7 + 6, none⟩ = some pb)) (first | exact HCELL.out _ ‹Below wo.heap.size wo _› | go_keep)
            (first
              | (go_at_call 12; refine (CE2.out _ ‹Below wo.heap.size wo _›).mono ?_; rintro e u5 ⟨rfl, hb5⟩; have hB5 := chain2 ‹Below wo.heap.size wo _› hb5 (Nat.le_refl _); clear hb5))
          have hE := Lib.hid (HBB.out _ hB5)
          clear hB5 hB0 l0 l1 l2 l3 l4 l5 l6 k0 k1 k2 k3 k4 k5 k6 hb
          go_wp2
          go_roundw
          case rel => exact ⟨i + 1, by omega, by go_num, hE⟩
          case measure => simp [intOf]; omega
        · have hnl : ¬ (i : Int) < (n : Int) := by omega
          obtain ⟨hwo, z0, z1, z2, z3⟩ := HRW.out wo (FY.out wo hb.out)
          have HWO := Lib.hid hwo
          clear hwo hlt
          go_wp2_with fail
          clear z0 z1 z2 z3
          refine (KOr.out (by simp) wo HWO.out).mono ?_
          rintro e w7 ⟨ox, px, rfl, hpx, hb7, okx⟩
          have HW7 := Lib.hid (chain2 HWO.out hb7 (Nat.le_refl _))
          have hg7 := Lib.hid (heap_alloc_new w7 (.cells #[.int .i64 0, .string ⟨#[]⟩, .string ⟨#[]⟩, .string ⟨#[]⟩, .string ⟨#[]⟩, .string ⟨#[]⟩, .slice none 0 0] 31))
          have HPX : Hid (Pair w7 (Has w7) ox px) := hpx.more (fun b h => by rcases h with h | h; exact h.elim; exact h.2)
          have hs7 := HW7.out.size
          have OKX := Lib.hid okx
          clear hb7 okx
          go_upto_region 16 with (refine storeV (w1 := w7) rfl (.tmp 10) (.tmp 66) rfl w7.heap.size ox px rfl rfl hpx _ _ hg7.out rfl ?_)
          have hY1 : Below w.heap.size w ((w7.alloc (.cells #[.int .i64 0, .string ⟨#[]⟩, .string ⟨#[]⟩, .string ⟨#[]⟩, .string ⟨#[]⟩, .string ⟨#[]⟩, .slice none 0 0] 31)).setRow w7.heap.size (cellsO ox px).toArray) := below_setRowO (Below.alloc HW7.out hs7 _) hs7 _
          have hY2 := setRow_heap _ _ _ (cellsO ox px).toArray _ _ hg7.out
          have hY3 : Pair ((w7.alloc (.cells #[.int .i64 0, .string ⟨#[]⟩, .string ⟨#[]⟩, .string ⟨#[]⟩, .string ⟨#[]⟩, .string ⟨#[]⟩, .slice none 0 0] 31)).setRow w7.heap.size (cellsO ox px).toArray) (Has ((w7.alloc (.cells #[.int .i64 0, .string ⟨#[]⟩, .string ⟨#[]⟩, .string ⟨#[]⟩, .string ⟨#[]⟩, .string ⟨#[]⟩, .slice none 0 0] 31)).setRow w7.heap.size (cellsO ox px).toArray)) ox px := ((HPX.out.below (fun _ h => h) (Below.alloc (Below.refl _ _) (Nat.le_refl _) (.cells #[.int .i64 0, .string ⟨#[]⟩, .string ⟨#[]⟩, .string ⟨#[]⟩, .string ⟨#[]⟩, .string ⟨#[]⟩, .slice none 0 0] 31))).setRow w7.heap.size (fun h => Nat.lt_irrefl _ h) _).more (fun b h => by
            have h' : b < w7.heap.size := h
            show b < _
            rw [size_setRow]
            simp
            omega)
          change Code.wp _ _ _ _ ((w7.alloc (.cells #[.int .i64 0, .string ⟨#[]⟩, .string ⟨#[]⟩, .string ⟨#[]⟩, .string ⟨#[]⟩, .string ⟨#[]⟩, .slice none 0 0] 31)).setRow w7.heap.size (cellsO ox px).toArray)
          generalize ((w7.alloc (.cells #[.int .i64 0, .string ⟨#[]⟩, .string ⟨#[]⟩, .string ⟨#[]⟩, .string ⟨#[]⟩, .string ⟨#[]⟩, .slice none 0 0] 31)).setRow w7.heap.size (cellsO ox px).toArray) = Y at hY1 hY2 hY3 ⊢
          obtain ⟨v0, v1, v2, v3, v4, v5, ex⟩ := cells7 ox px
          have ev : vO ox px = .agg #[v0, v1, v2, v3, v4, v5, px] := by unfold vO; rw [ex]
          rw [ex] at hY2
          have FQ : Hid (∀ X', Below Y.heap.size Y X' → X'.cell? ⟨w7.heap.size, 0, none⟩ = some v0 ∧ X'.cell? ⟨w7.heap.size, 1, none⟩ = some v1 ∧ X'.cell? ⟨w7.heap.size, 2, none⟩ = some v2 ∧ X'.cell? ⟨w7.heap.size, 3, none⟩ = some v3 ∧ X'.cell? ⟨w7.heap.size, 4, none⟩ = some v4 ∧ X'.cell? ⟨w7.heap.size, 5, none⟩ = some v5 ∧ X'.cell? ⟨w7.heap.size, 6, none⟩ = some px) := fun X' h => (row7 ((h.block _ (lt_of_heap hY2)).trans hY2)).1
          have PQ : Hid (∀ X', Below Y.heap.size Y X' → Pair X' (Has X') ox px) := fun X' h => (hY3.below (fun _ h => h) h).more (fun b hb => Nat.lt_of_lt_of_le hb h.size)
          have HFY : Hid (∀ X', Below Y.heap.size Y X' → Below w.heap.size w X') := fun X' h => hY1.trans (h.mono hY1.size)
          have CI : Hid (∀ X', Below Y.heap.size Y X' → Calls Tryz.prog 29 #[.agg #[v0, v1, v2, v3, v4, v5, px]] X' (RetJt X' (ox.items.map List.length))) := fun X' h => by
            rw [← ev]
            refine (itemsP ox px X' (Has X') (In.has X') (PQ.out X' h) (by have := OKX.out.2; omega)).mono fun e w' hr => ?_
            cases hi : ox.items with
            | none => rw [hi] at hr; exact hr
            | some k =>
              rw [hi] at hr
              obtain ⟨h1, g, h2, _⟩ := hr
              exact ⟨h1, _, _, h2⟩
          have CJ : Hid (∀ X', Below Y.heap.size Y X' → Calls Tryz.prog 31 #[.agg #[v0, v1, v2, v3, v4, v5, px]] X' (RetJt X' (ox.items.map List.length))) := fun X' h => by
            rw [← ev]
            exact itemsR ox px X' (Has X') (In.has X') (PQ.out X' h) (by have := OKX.out.2; omega)
          have NP : Hid (∀ X', Below Y.heap.size Y X' → Calls Tryz.prog 32 #[.agg #[v0, v1, v2, v3, v4, v5, px]] X' (RetB X' (decide (ox = .nil)))) := fun X' h => by rw [← ev]; exact isNilP ox px X'
          have NR : Hid (∀ X', Below Y.heap.size Y X' → Calls Tryz.prog 33 #[.agg #[v0, v1, v2, v3, v4, v5, px]] X' (RetB X' (decide (ox = .nil)))) := fun X' h => by rw [← ev]; exact isNilR ox px X' (Has X') (In.has X') (PQ.out X' h)
          have IP : Hid (∀ X', Below Y.heap.size Y X' → Calls Tryz.prog 34 #[.agg #[v0, v1, v2, v3, v4, v5, px]] X' (RetB X' ox.isInt)) := fun X' h => by rw [← ev]; exact isIntegerP ox px X'
          have IR : Hid (∀ X', Below Y.heap.size Y X' → Calls Tryz.prog 35 #[.agg #[v0, v1, v2, v3, v4, v5, px]] X' (RetB X' ox.isInt)) := fun X' h => by rw [← ev]; exact isIntegerR ox px X'
          generalize ox.items.map List.length = rr at CI CJ
          generalize decide (ox = Ob.nil) = bn at NP NR
          generalize ox.isInt = bi at IP IR
          clear PQ OKX ev ex hY1 hY2 hY3 hg7 HPX HW7 hpx
          generalize w7.heap.size = g2 at FQ ⊢
          cases rr with
          | none =>
            obtain ⟨m0, m1, m2, m3, m4, m5, m6⟩ := FQ.out Y (Below.refl _ _)
            go_wp2_with fail
            refine (CI.out Y (Below.refl _ _)).mono ?_
            rintro e w8 ⟨hb8, rfl⟩
            have HY8 := Lib.hid hb8
            clear hb8 m0 m1 m2 m3 m4 m5 m6
            obtain ⟨m0, m1, m2, m3, m4, m5, m6⟩ := FQ.out w8 HY8.out
            go_wp2_with fail
            refine (CJ.out w8 HY8.out).mono ?_
            rintro e w9 ⟨hb9, rfl⟩
            have HY9 := Lib.hid (chain2 HY8.out hb9 (Nat.le_refl _))
            clear hb9 m0 m1 m2 m3 m4 m5 m6
            have hBy0 := (chain2 HY9.out (Below.refl _ _) (Nat.le_refl _)).drew
            obtain ⟨m0, m1, m2, m3, m4, m5, m6⟩ := FQ.out w9 HY9.out
            go_wp2_with fail
            go_region_held3 (fun X' => X'.cell? ⟨g2, 0, none⟩ = some v0 ∧ X'.cell? ⟨g2, 1, none⟩ = some v1 ∧ X'.cell? ⟨g2, 2, none⟩ = some v2 ∧ X'.cell? ⟨g2, 3, none⟩ = some v3 ∧ X'.cell? ⟨g2, 4, none⟩ = some v4 ∧ X'.cell? ⟨g2, 5, none⟩ = some v5 ∧ X'.cell? ⟨g2, 6, none⟩ = some px) (first | exact FQ.out _ ‹Below Y.heap.size Y _› | go_keep)
              (first
                | (go_at_call 32; refine (NP.out _ ‹Below Y.heap.size Y _›).mono ?_; rintro e u11 ⟨rfl, hb11⟩; have hB11 := chain2 ‹Below Y.heap.size Y _› hb11 (Nat.le_refl _); clear hb11)
                | (go_at_call 33; refine (NR.out _ ‹Below Y.heap.size Y _›).mono ?_; rintro e u12 ⟨rfl, hb12⟩; have hB12 := chain2 ‹Below Y.heap.size Y _› hb12 (Nat.le_refl _); clear hb12)
                | (go_at_call 34; refine (IP.out _ ‹Below Y.heap.size Y _›).mono ?_; rintro e u13 ⟨rfl, hb13⟩; have hB13 := chain2 ‹Below Y.heap.size Y _› hb13 (Nat.le_refl _); clear hb13)
                | (go_at_call 35; refine (IR.out _ ‹Below Y.heap.size Y _›).mono ?_; rintro e u14 ⟨rfl, hb14⟩; have hB14 := chain2 ‹Below Y.heap.size Y _› hb14 (Nat.le_refl _); clear hb14))
            all_goals go_wp2
            all_goals go_ret
            all_goals exact ⟨rfl, HFY.out _ ‹Below Y.heap.size Y _›⟩
          | some kk =>
            obtain ⟨m0, m1, m2, m3, m4, m5, m6⟩ := FQ.out Y (Below.refl _ _)
            go_wp2_with fail
            refine (CI.out Y (Below.refl _ _)).mono ?_
            rintro e w8 ⟨hb8, A8, c8, rfl⟩
            have HY8 := Lib.hid hb8
            clear hb8 m0 m1 m2 m3 m4 m5 m6
            obtain ⟨m0, m1, m2, m3, m4, m5, m6⟩ := FQ.out w8 HY8.out
            go_wp2_with fail
            refine (CJ.out w8 HY8.out).mono ?_
            rintro e w9 ⟨hb9, A9, c9, rfl⟩
            have HY9 := Lib.hid (chain2 HY8.out hb9 (Nat.le_refl _))
            clear hb9 m0 m1 m2 m3 m4 m5 m6
            have hBy0 := (chain2 HY9.out (Below.refl _ _) (Nat.le_refl _)).drew
            obtain ⟨m0, m1, m2, m3, m4, m5, m6⟩ := FQ.out w9 HY9.out
            go_wp2_with fail
            go_region_held3 (fun X' => X'.cell? ⟨g2, 0, none⟩ = some v0 ∧ X'.cell? ⟨g2, 1, none⟩ = some v1 ∧ X'.cell? ⟨g2, 2, none⟩ = some v2 ∧ X'.cell? ⟨g2, 3, none⟩ = some v3 ∧ X'.cell? ⟨g2, 4, none⟩ = some v4 ∧ X'.cell? ⟨g2, 5, none⟩ = some v5 ∧ X'.cell? ⟨g2, 6, none⟩ = some px) (first | exact FQ.out _ ‹Below Y.heap.size Y _› | go_keep)
              (first
                | (go_at_call 32; refine (NP.out _ ‹Below Y.heap.size Y _›).mono ?_; rintro e u11 ⟨rfl, hb11⟩; have hB11 := chain2 ‹Below Y.heap.size Y _› hb11 (Nat.le_refl _); clear hb11)
                | (go_at_call 33; refine (NR.out _ ‹Below Y.heap.size Y _›).mono ?_; rintro e u12 ⟨rfl, hb12⟩; have hB12 := chain2 ‹Below Y.heap.size Y _› hb12 (Nat.le_refl _); clear hb12)
                | (go_at_call 34; refine (IP.out _ ‹Below Y.heap.size Y _›).mono ?_; rintro e u13 ⟨rfl, hb13⟩; have hB13 := chain2 ‹Below Y.heap.size Y _› hb13 (Nat.le_refl _); clear hb13)
                | (go_at_call 35; refine (IR.out _ ‹Below Y.heap.size Y _›).mono ?_; rintro e u14 ⟨rfl, hb14⟩; have hB14 := chain2 ‹Below Y.heap.size Y _› hb14 (Nat.le_refl _); clear hb14))
            all_goals go_wp2
            all_goals go_ret
            all_goals exact ⟨rfl, HFY.out _ ‹Below Y.heap.size Y _›⟩
end Go.Proofs.YtfnkmgipjemkdaaGreatDoor
