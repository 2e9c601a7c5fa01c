/- SymbolDefines: the walk. -/
import Derived.Test.YtcgchacokcnacaaY17
namespace Go.Proofs.Ytcgchacokcnacaa
open Go Go.RowKit
set_option linter.unusedVariables false

set_option maxHeartbeats 16000000 in
set_option maxRecDepth 100000 in
theorem symbolDefines_walk (l : List Pg) (v : Value) (n : ByteArray) (q : List Sy) (u : Value) (w : World) (hv : PgV w l v) (hu : SyV w q u) : Calls Try.prog 4 #[v, .agg #[.string n, u]] w (RetY w (.bool true)) := by
  have HV := Lib.hid hv
  clear hv
  have CFW : Hid (∀ X, Below w.heap.size w X → Calls Try.prog 17 #[v] X (RetY X (.bool (fewM l)))) := fun X hX => fewY l v X (HV.out.keep hX)
  have HU0 := Lib.hid hu
  obtain ⟨A', c', rfl, _, _, _⟩ := hu
  obtain ⟨M, hM⟩ : ∃ M, q.length = M := ⟨_, rfl⟩
  rw [hM] at HU0 ⊢
  have HU := HU0
  have HM := Lib.hid hM
  clear hM HU0
  cases hf : fewM l with
  | false =>
    go_enter Try.func4, Try.ntmps4
    go_wp2_with fail
    have HT0 : Hid (PB (w.alloc (.cells #[.string n, .slice A' M c'] 33)) w.heap.size (.string n) (.slice A' M c')) := PB.new w _ _
    have HB0 := Lib.hid (bAlP w (.cells #[.string n, .slice A' M c'] 33))
    generalize w.alloc (.cells #[.string n, .slice A' M c'] 33) = W0 at HT0 HB0 ⊢
    refine (firstS W0).mono ?_
    rintro e w1 ⟨rfl, hb⟩
    have HB1 := Lib.hid (chainY HB0.out hb (Nat.le_refl _))
    have HT1 := Lib.hid (PB.keep HT0.out hb)
    clear hb HB0 HT0
    try clear m0 m1
    have m0 := HT1.out.c0
    have m1 := HT1.out.c1
    go_wp2_with fail
    refine (CFW.out _ HB1.out).mono ?_
    rw [hf]
    rintro e w2 ⟨rfl, hb⟩
    have HB2 := Lib.hid (chainY HB1.out hb (Nat.le_refl _))
    have HT2 := Lib.hid (PB.keep HT1.out hb)
    clear hb HB1 HT1
    try clear m0 m1
    have m0 := HT2.out.c0
    have m1 := HT2.out.c1
    go_wp2_with fail
    go_ret
    exact ⟨rfl, HB2.out⟩
  | true =>
    by_cases h8 : (8 : Int) < (M : Int)
    · go_enter Try.func4, Try.ntmps4
      go_wp2_with fail
      have HT0 : Hid (PB (w.alloc (.cells #[.string n, .slice A' M c'] 33)) w.heap.size (.string n) (.slice A' M c')) := PB.new w _ _
      have HB0 := Lib.hid (bAlP w (.cells #[.string n, .slice A' M c'] 33))
      generalize w.alloc (.cells #[.string n, .slice A' M c'] 33) = W0 at HT0 HB0 ⊢
      refine (firstS W0).mono ?_
      rintro e w1 ⟨rfl, hb⟩
      have HB1 := Lib.hid (chainY HB0.out hb (Nat.le_refl _))
      have HT1 := Lib.hid (PB.keep HT0.out hb)
      clear hb HB0 HT0
      try clear m0 m1
      have m0 := HT1.out.c0
      have m1 := HT1.out.c1
      go_wp2_with fail
      refine (CFW.out _ HB1.out).mono ?_
      rw [hf]
      rintro e w2 ⟨rfl, hb⟩
      have HB2 := Lib.hid (chainY HB1.out hb (Nat.le_refl _))
      have HT2 := Lib.hid (PB.keep HT1.out hb)
      clear hb HB1 HT1
      try clear m0 m1
      have m0 := HT2.out.c0
      have m1 := HT2.out.c1
      go_wp2_with fail
      go_ret
      exact ⟨rfl, HB2.out⟩
    · obtain ⟨hm1, hm2⟩ := madeM_bd hf
      have CM : Hid (∀ X, Below w.heap.size w X → Calls Try.prog 18 #[v] X (RetPg X (madeM l))) := fun X hX => madeY l v X (HV.out.keep hX) hf
      have HI := Lib.hid hm2
      clear hm2
      go_enter Try.func4, Try.ntmps4
      go_wp2_with fail
      have HT0 : Hid (PB (w.alloc (.cells #[.string n, .slice A' M c'] 33)) w.heap.size (.string n) (.slice A' M c')) := PB.new w _ _
      have HB0 := Lib.hid (bAlP w (.cells #[.string n, .slice A' M c'] 33))
      generalize w.alloc (.cells #[.string n, .slice A' M c'] 33) = W0 at HT0 HB0 ⊢
      refine (firstS W0).mono ?_
      rintro e w1 ⟨rfl, hb⟩
      have HB1 := Lib.hid (chainY HB0.out hb (Nat.le_refl _))
      have HT1 := Lib.hid (PB.keep HT0.out hb)
      clear hb HB0 HT0
      try clear m0 m1
      have m0 := HT1.out.c0
      have m1 := HT1.out.c1
      go_wp2_with fail
      refine (CFW.out _ HB1.out).mono ?_
      rw [hf]
      rintro e w2 ⟨rfl, hb⟩
      have HB2 := Lib.hid (chainY HB1.out hb (Nat.le_refl _))
      have HT2 := Lib.hid (PB.keep HT1.out hb)
      clear hb HB1 HT1
      try clear m0 m1
      have m0 := HT2.out.c0
      have m1 := HT2.out.c1
      go_wp2_with fail
      refine (CM.out _ HB2.out).mono ?_
      rintro e w3 ⟨x, rfl, hx, hb⟩
      have HU3 := Lib.hid (HU.out.keep HB2.out)
      replace HU3 := Lib.hid (HU3.out.keep hb)
      clear HU CFW CM HV
      generalize madeM l = L at hx hm1 HI
      obtain ⟨d, hd⟩ : ∃ d, defineM L (n, q) = d := ⟨_, rfl⟩
      have hdl : d.1.length ≤ 7 ∧ ∀ p ∈ d.1, p.2.length ≤ 1000 := by
        rw [← hd]
        unfold defineM
        split
        · refine ⟨by simp; omega, fun p hp => ?_⟩
          rcases List.mem_append.1 hp with h1 | h1
          · have := HI.out p h1; omega
          · rw [List.mem_singleton] at h1; subst h1; show q.length ≤ 1000; have := HM.out; omega
        · exact ⟨by simp, fun p hp => by simp at hp⟩
      have CD : Hid (∀ X, Below w3.heap.size w3 X → Calls Try.prog 19 #[x, .agg #[.string n, .slice A' M c']] X (RetD X d)) := fun X hX => by
        have := defineY L x n q _ X (hx.keep hX) (HU3.out.keep hX) (by omega) (fun p hp => by have := HI.out p hp; omega) (by have := HM.out; omega)
        rwa [hd] at this
      have CR : Hid (∀ X, Below w3.heap.size w3 X → Calls Try.prog 20 #[x, .agg #[.string n, .slice A' M c']] X (RetD X d)) := fun X hX => by
        have := defineRY L x n q _ X (hx.keep hX) (HU3.out.keep hX) (by omega) (fun p hp => by have := HI.out p hp; omega) (by have := HM.out; omega)
        rwa [hd] at this
      have CF : Hid (∀ X, Below w3.heap.size w3 X → Calls Try.prog 21 #[x, .string n] X (RetF X (findM L n))) := fun X hX => findY L x n X (hx.keep hX) (by omega)
      have CG : Hid (∀ X, Below w3.heap.size w3 X → Calls Try.prog 22 #[x, .string n] X (RetF X (findM L n))) := fun X hX => findRY L x n X (hx.keep hX) (by omega)
      have HB3 := Lib.hid (chainY HB2.out hb (Nat.le_refl _))
      have HT3 := Lib.hid (PB.keep HT2.out hb)
      clear hb HB2 HT2
      try clear m0 m1
      have m0 := HT3.out.c0
      have m1 := HT3.out.c1
      clear hx hd HI HU3
      go_wp2_with fail
      refine (CD.out _ (Below.refl _ _)).mono ?_
      rintro e w4 ⟨y, rfl, hy, hb⟩
      have HB4 := Lib.hid hb
      have HT4 := Lib.hid (PB.keep HT3.out hb)
      have HY4 := Lib.hid hy
      clear hb hy HT3 m0 m1
      have m0 := HT4.out.c0
      have m1 := HT4.out.c1
      go_wp2_with fail
      refine (CR.out _ HB4.out).mono ?_
      rintro e w5 ⟨z, rfl, hz, hb⟩
      have HB5 := Lib.hid (chainY HB4.out hb (Nat.le_refl _))
      have HT5 := Lib.hid (PB.keep HT4.out hb)
      have CS : Hid (∀ X, Below w5.heap.size w5 X → Calls Try.prog 14 #[y, z] X (RetY X (.bool true))) := fun X hX => samePY d.1 y z X ((HY4.out.keep hb).keep hX) (hz.keep hX) (by omega) hdl.2
      have HQ5 := Lib.hid (Below.refl w5.heap.size w5)
      clear hb hz HY4 HB4 HT4 m0 m1 CD CR hdl
      have m0 := HT5.out.c0
      have m1 := HT5.out.c1
      cases hp : findM L n with
      | none =>
        go_wp2_with fail
        refine (CF.out _ HB5.out).mono ?_
        rw [hp]
        rintro e w6 ⟨rfl, hb⟩
        go_upto_region 9 with fail
        have T6 : Hid (PB (w6.alloc (.cells #[.string ⟨#[]⟩, .slice none 0 0] 33)) w6.heap.size (.string ⟨#[]⟩) (.slice none 0 0)) := PB.new _ _ _
        have HQ6 := Lib.hid (chainY (chainY HQ5.out hb (Nat.le_refl _)) (bAlP _ _) (Nat.le_refl _) : Below w5.heap.size w5 (w6.alloc (.cells #[.string ⟨#[]⟩, .slice none 0 0] 33)))
        have HB6 := Lib.hid (chainY (chainY HB5.out hb (Nat.le_refl _)) (bAlP _ _) (Nat.le_refl _) : Below w3.heap.size w3 (w6.alloc (.cells #[.string ⟨#[]⟩, .slice none 0 0] 33)))
        have HT6 : Hid (PB (w6.alloc (.cells #[.string ⟨#[]⟩, .slice none 0 0] 33)) w.heap.size (.string n) (.slice A' M c')) := PB.keep (PB.keep HT5.out hb) (bAlP _ _)
        clear hb HT5 HB5 m0 m1
        generalize w6.alloc (.cells #[.string ⟨#[]⟩, .slice none 0 0] 33) = W6 at T6 HB6 HQ6 HT6 ⊢
        have m0 := HT6.out.c0
        have m1 := HT6.out.c1
        go_wp2_with fail
        refine (CG.out _ HB6.out).mono ?_
        rw [hp]
        rintro e w7 ⟨rfl, hb⟩
        go_upto_region 10 with fail
        have T7 : Hid (PB (w7.alloc (.cells #[.string ⟨#[]⟩, .slice none 0 0] 33)) w7.heap.size (.string ⟨#[]⟩) (.slice none 0 0)) := PB.new _ _ _
        have T6b : Hid (PB (w7.alloc (.cells #[.string ⟨#[]⟩, .slice none 0 0] 33)) w6.heap.size (.string ⟨#[]⟩) (.slice none 0 0)) := PB.keep (PB.keep T6.out hb) (bAlP _ _)
        have HQ7 := Lib.hid (chainY (chainY HQ6.out hb (Nat.le_refl _)) (bAlP _ _) (Nat.le_refl _) : Below w5.heap.size w5 (w7.alloc (.cells #[.string ⟨#[]⟩, .slice none 0 0] 33)))
        have HB7 := Lib.hid (chainY (chainY HB6.out hb (Nat.le_refl _)) (bAlP _ _) (Nat.le_refl _) : Below w3.heap.size w3 (w7.alloc (.cells #[.string ⟨#[]⟩, .slice none 0 0] 33)))
        clear hb HT6 HB6 T6 m0 m1
        generalize w7.alloc (.cells #[.string ⟨#[]⟩, .slice none 0 0] 33) = W7 at T7 HB7 HQ7 T6b ⊢
        have m0 := T6b.out.c0
        have m1 := T6b.out.c1
        have n0 := T7.out.c0
        have n1 := T7.out.c1
        go_wp2_with fail
        refine (CS.out _ HQ7.out).mono ?_
        rintro e w8 ⟨rfl, hb⟩
        have HB8 := Lib.hid (chainY HB3.out (chainY HB7.out hb (Nat.le_refl _)) (Nat.le_refl _))
        have m0 := (PB.keep T6b.out hb).c0
        have m1 := (PB.keep T6b.out hb).c1
        have n0 := (PB.keep T7.out hb).c0
        have n1 := (PB.keep T7.out hb).c1
        clear hb
        go_wp2_with fail
        go_ret
        exact ⟨rfl, HB8.out⟩
      | some p =>
        obtain ⟨K, hK⟩ : ∃ K, p.2.length = K := ⟨_, rfl⟩
        have HK := Lib.hid hK
        clear hK
        generalize hpn : p.1 = pn
        have hs1 : (pn.toList == pn.toList) = true := beq_self_eq_true _
        go_wp2_with fail
        refine (CF.out _ HB5.out).mono ?_
        rw [hp]
        rintro e w6 ⟨u6, rfl, hu6, hb⟩
        obtain ⟨A3, c3, rfl, _, _, _⟩ := hu6
        rw [HK.out]
        go_upto_region 9 with fail
        have T6 : Hid (PB (w6.alloc (.cells #[.string pn, .slice A3 K c3] 33)) w6.heap.size (.string pn) (.slice A3 K c3)) := PB.new _ _ _
        have HQ6 := Lib.hid (chainY (chainY HQ5.out hb (Nat.le_refl _)) (bAlP _ _) (Nat.le_refl _) : Below w5.heap.size w5 (w6.alloc (.cells #[.string pn, .slice A3 K c3] 33)))
        have HB6 := Lib.hid (chainY (chainY HB5.out hb (Nat.le_refl _)) (bAlP _ _) (Nat.le_refl _) : Below w3.heap.size w3 (w6.alloc (.cells #[.string pn, .slice A3 K c3] 33)))
        have HT6 : Hid (PB (w6.alloc (.cells #[.string pn, .slice A3 K c3] 33)) w.heap.size (.string n) (.slice A' M c')) := PB.keep (PB.keep HT5.out hb) (bAlP _ _)
        clear hb HT5 HB5 m0 m1
        generalize w6.alloc (.cells #[.string pn, .slice A3 K c3] 33) = W6 at T6 HB6 HQ6 HT6 ⊢
        have m0 := HT6.out.c0
        have m1 := HT6.out.c1
        go_wp2_with fail
        refine (CG.out _ HB6.out).mono ?_
        rw [hp]
        rintro e w7 ⟨u7, rfl, hu7, hb⟩
        obtain ⟨A4, c4, rfl, _, _, _⟩ := hu7
        rw [HK.out]
        go_upto_region 10 with fail
        have T7 : Hid (PB (w7.alloc (.cells #[.string pn, .slice A4 K c4] 33)) w7.heap.size (.string pn) (.slice A4 K c4)) := PB.new _ _ _
        have T6b : Hid (PB (w7.alloc (.cells #[.string pn, .slice A4 K c4] 33)) w6.heap.size (.string pn) (.slice A3 K c3)) := PB.keep (PB.keep T6.out hb) (bAlP _ _)
        have HQ7 := Lib.hid (chainY (chainY HQ6.out hb (Nat.le_refl _)) (bAlP _ _) (Nat.le_refl _) : Below w5.heap.size w5 (w7.alloc (.cells #[.string pn, .slice A4 K c4] 33)))
        have HB7 := Lib.hid (chainY (chainY HB6.out hb (Nat.le_refl _)) (bAlP _ _) (Nat.le_refl _) : Below w3.heap.size w3 (w7.alloc (.cells #[.string pn, .slice A4 K c4] 33)))
        clear hb HT6 HB6 T6 m0 m1
        generalize w7.alloc (.cells #[.string pn, .slice A4 K c4] 33) = W7 at T7 HB7 HQ7 T6b ⊢
        have m0 := T6b.out.c0
        have m1 := T6b.out.c1
        have n0 := T7.out.c0
        have n1 := T7.out.c1
        go_wp2_with fail
        refine (CS.out _ HQ7.out).mono ?_
        rintro e w8 ⟨rfl, hb⟩
        have HB8 := Lib.hid (chainY HB3.out (chainY HB7.out hb (Nat.le_refl _)) (Nat.le_refl _))
        have m0 := (PB.keep T6b.out hb).c0
        have m1 := (PB.keep T6b.out hb).c1
        have n0 := (PB.keep T7.out hb).c0
        have n1 := (PB.keep T7.out hb).c1
        clear hb
        go_wp2_with fail
        go_ret
        exact ⟨rfl, HB8.out⟩
end Go.Proofs.Ytcgchacokcnacaa
