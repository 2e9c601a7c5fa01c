/- SymbolRaw: the walk. -/
import Derived.Test.YtcgchacokcnacaaY16
namespace Go.Proofs.Ytcgchacokcnacaa
open Go Go.RowKit
set_option linter.unusedVariables false

theorem madeS_bd {out : List Pg} {p : Pg} (h : ∀ x ∈ out, x.2.length ≤ 6) (hp : p.2.length ≤ 6) : (madeS out p).length ≤ out.length + 1 ∧ ∀ x ∈ madeS out p, x.2.length ≤ 6 := by
  unfold madeS
  split
  · refine ⟨by simp, fun x hx => ?_⟩
    rcases List.mem_append.1 hx with h1 | h1
    · exact h x h1
    · rw [List.mem_singleton] at h1; subst h1; exact hp
  · exact ⟨by omega, h⟩
theorem foldS_bd : ∀ (l out : List Pg), (∀ x ∈ out, x.2.length ≤ 6) → (∀ x ∈ l, x.2.length ≤ 6) → (l.foldl madeS out).length ≤ out.length + l.length ∧ ∀ x ∈ l.foldl madeS out, x.2.length ≤ 6
  | [], out, h, _ => ⟨by simp, h⟩
  | p :: l, out, h, hl => by
    obtain ⟨h1, h2⟩ := madeS_bd h (hl p (by simp))
    obtain ⟨h3, h4⟩ := foldS_bd l (madeS out p) h2 (fun x hx => hl x (by simp [hx]))
    exact ⟨by simp only [List.foldl_cons, List.length_cons]; omega, h4⟩
theorem madeM_bd {l : List Pg} (h : fewM l = true) : (madeM l).length ≤ 6 ∧ ∀ x ∈ madeM l, x.2.length ≤ 6 := by
  obtain ⟨h1, h2⟩ := fewM_spec h
  obtain ⟨h3, h4⟩ := foldS_bd l initM (by simp [initM]) h2
  have : initM.length = 1 := rfl
  exact ⟨by unfold madeM; omega, h4⟩
set_option maxHeartbeats 8000000 in
set_option maxRecDepth 100000 in
theorem symbolRaw_walk (l : List Pg) (v : Value) (n : ByteArray) (q : List Sy) (u : Value) (w : World) (hv : PgV w l v) (hu : SyV w q u) : Calls Try.prog 5 #[v, .agg #[.string n, u]] w (RetY w (.bool true)) := by
  have HV := Lib.hid hv
  clear hv
  have CFW : Hid (∀ X, Below w.heap.size w X → Calls Try.prog 17 #[v] X (RetY X (.bool (fewM l)))) := fun X hX => fewY l v X (HV.out.keep hX)
  have HU0 := Lib.hid hu
  obtain ⟨A', c', rfl, _, _, _⟩ := hu
  obtain ⟨M, hM⟩ : ∃ M, q.length = M := ⟨_, rfl⟩
  rw [hM] at HU0 ⊢
  have HU := HU0
  have HM := Lib.hid hM
  clear hM HU0
  cases hf : fewM l with
  | false =>
    go_enter Try.func5, Try.ntmps5
    go_wp2_with fail
    have HT0 : Hid (PB (w.alloc (.cells #[.string n, .slice A' M c'] 33)) w.heap.size (.string n) (.slice A' M c')) := PB.new w _ _
    have HB0 := Lib.hid (bAlP w (.cells #[.string n, .slice A' M c'] 33))
    generalize w.alloc (.cells #[.string n, .slice A' M c'] 33) = W0 at HT0 HB0 ⊢
    refine (firstS W0).mono ?_
    rintro e w1 ⟨rfl, hb⟩
    have HB1 := Lib.hid (chainY HB0.out hb (Nat.le_refl _))
    have HT1 := Lib.hid (PB.keep HT0.out hb)
    clear hb HB0 HT0
    try clear m0 m1
    have m0 := HT1.out.c0
    have m1 := HT1.out.c1
    go_wp2_with fail
    refine (CFW.out _ HB1.out).mono ?_
    rw [hf]
    rintro e w2 ⟨rfl, hb⟩
    have HB2 := Lib.hid (chainY HB1.out hb (Nat.le_refl _))
    have HT2 := Lib.hid (PB.keep HT1.out hb)
    clear hb HB1 HT1
    try clear m0 m1
    have m0 := HT2.out.c0
    have m1 := HT2.out.c1
    go_wp2_with fail
    go_ret
    exact ⟨rfl, HB2.out⟩
  | true =>
    obtain ⟨hl5, hl6⟩ := fewM_spec hf
    have HI := Lib.hid hl6
    clear hl6
    by_cases h8 : (8 : Int) < (M : Int)
    · go_enter Try.func5, Try.ntmps5
      go_wp2_with fail
      have HT0 : Hid (PB (w.alloc (.cells #[.string n, .slice A' M c'] 33)) w.heap.size (.string n) (.slice A' M c')) := PB.new w _ _
      have HB0 := Lib.hid (bAlP w (.cells #[.string n, .slice A' M c'] 33))
      generalize w.alloc (.cells #[.string n, .slice A' M c'] 33) = W0 at HT0 HB0 ⊢
      refine (firstS W0).mono ?_
      rintro e w1 ⟨rfl, hb⟩
      have HB1 := Lib.hid (chainY HB0.out hb (Nat.le_refl _))
      have HT1 := Lib.hid (PB.keep HT0.out hb)
      clear hb HB0 HT0
      try clear m0 m1
      have m0 := HT1.out.c0
      have m1 := HT1.out.c1
      go_wp2_with fail
      refine (CFW.out _ HB1.out).mono ?_
      rw [hf]
      rintro e w2 ⟨rfl, hb⟩
      have HB2 := Lib.hid (chainY HB1.out hb (Nat.le_refl _))
      have HT2 := Lib.hid (PB.keep HT1.out hb)
      clear hb HB1 HT1
      try clear m0 m1
      have m0 := HT2.out.c0
      have m1 := HT2.out.c1
      go_wp2_with fail
      go_ret
      exact ⟨rfl, HB2.out⟩
    · obtain ⟨d, hd⟩ : ∃ d, defineM l (n, q) = d := ⟨_, rfl⟩
      have CD : Hid (∀ X, Below w.heap.size w X → Calls Try.prog 19 #[v, .agg #[.string n, .slice A' M c']] X (RetD X d)) := fun X hX => by
        have := defineY l v n q _ X (HV.out.keep hX) (HU.out.keep hX) (by omega) (fun p hp => by have := HI.out p hp; omega) (by have := HM.out; omega)
        rwa [hd] at this
      have CR : Hid (∀ X, Below w.heap.size w X → Calls Try.prog 20 #[v, .agg #[.string n, .slice A' M c']] X (RetD X d)) := fun X hX => by
        have := defineRY l v n q _ X (HV.out.keep hX) (HU.out.keep hX) (by omega) (fun p hp => by have := HI.out p hp; omega) (by have := HM.out; omega)
        rwa [hd] at this
      clear hd HV HU HI
      go_enter Try.func5, Try.ntmps5
      go_wp2_with fail
      have HT0 : Hid (PB (w.alloc (.cells #[.string n, .slice A' M c'] 33)) w.heap.size (.string n) (.slice A' M c')) := PB.new w _ _
      have HB0 := Lib.hid (bAlP w (.cells #[.string n, .slice A' M c'] 33))
      generalize w.alloc (.cells #[.string n, .slice A' M c'] 33) = W0 at HT0 HB0 ⊢
      refine (firstS W0).mono ?_
      rintro e w1 ⟨rfl, hb⟩
      have HB1 := Lib.hid (chainY HB0.out hb (Nat.le_refl _))
      have HT1 := Lib.hid (PB.keep HT0.out hb)
      clear hb HB0 HT0
      try clear m0 m1
      have m0 := HT1.out.c0
      have m1 := HT1.out.c1
      go_wp2_with fail
      refine (CFW.out _ HB1.out).mono ?_
      rw [hf]
      rintro e w2 ⟨rfl, hb⟩
      have HB2 := Lib.hid (chainY HB1.out hb (Nat.le_refl _))
      have HT2 := Lib.hid (PB.keep HT1.out hb)
      clear hb HB1 HT1
      try clear m0 m1
      have m0 := HT2.out.c0
      have m1 := HT2.out.c1
      go_wp2_with fail
      refine (CD.out _ HB2.out).mono ?_
      rintro e w3 ⟨y, rfl, hy, hb⟩
      clear hy
      have HB3 := Lib.hid (chainY HB2.out hb (Nat.le_refl _))
      have HT3 := Lib.hid (PB.keep HT2.out hb)
      clear hb HB2 HT2
      try clear m0 m1
      have m0 := HT3.out.c0
      have m1 := HT3.out.c1
      go_wp2_with fail
      refine (CR.out _ HB3.out).mono ?_
      rintro e w4 ⟨z, rfl, hz, hb⟩
      clear hz
      have HB4 := Lib.hid (chainY HB3.out hb (Nat.le_refl _))
      have HT4 := Lib.hid (PB.keep HT3.out hb)
      clear hb HB3 HT3
      try clear m0 m1
      have m0 := HT4.out.c0
      have m1 := HT4.out.c1
      go_wp2_with fail
      go_ret
      exact ⟨rfl, HB4.out⟩
end Go.Proofs.Ytcgchacokcnacaa
