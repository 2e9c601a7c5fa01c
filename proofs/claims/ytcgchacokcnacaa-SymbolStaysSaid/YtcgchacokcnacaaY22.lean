/- SymbolStays: the walk. -/
import Derived.Test.YtcgchacokcnacaaY21
namespace Go.Proofs.Ytcgchacokcnacaa
open Go Go.RowKit
set_option linter.unusedVariables false

set_option maxHeartbeats 16000000 in
set_option maxRecDepth 100000 in
theorem symbolStays_walk (l : List Pg) (v : Value) (n : ByteArray) (q : List Sy) (u : Value) (a b : ByteArray) (w : World) (hv : PgV w l v) (hu : SyV w q u) : Calls Try.prog 8 #[v, .agg #[.string n, u], .string a, .string b] w (RetY w (.bool true)) := by
  have HV := Lib.hid hv
  clear hv
  have CFW : Hid (∀ X, Below w.heap.size w X → Calls Try.prog 17 #[v] X (RetY X (.bool (fewM l)))) := fun X hX => fewY l v X (HV.out.keep hX)
  have HU0 := Lib.hid hu
  obtain ⟨A', c', rfl, _, _, _⟩ := hu
  obtain ⟨M, hM⟩ : ∃ M, q.length = M := ⟨_, rfl⟩
  rw [hM] at HU0 ⊢
  have HU := HU0
  have HM := Lib.hid hM
  clear hM HU0
  cases hf : fewM l with
  | false =>
    go_enter Try.func8, Try.ntmps8
    go_wp2_with fail
    have HT0 : Hid (PB (w.alloc (.cells #[.string n, .slice A' M c'] 33)) w.heap.size (.string n) (.slice A' M c')) := PB.new w _ _
    have HB0 := Lib.hid (bAlP w (.cells #[.string n, .slice A' M c'] 33))
    generalize w.alloc (.cells #[.string n, .slice A' M c'] 33) = W0 at HT0 HB0 ⊢
    refine (firstS W0).mono ?_
    rintro e w1 ⟨rfl, hb⟩
    have HB1 := Lib.hid (chainY HB0.out hb (Nat.le_refl _))
    have HT1 := Lib.hid (PB.keep HT0.out hb)
    clear hb HB0 HT0
    try clear m0 m1
    have m0 := HT1.out.c0
    have m1 := HT1.out.c1
    go_wp2_with fail
    refine (CFW.out _ HB1.out).mono ?_
    rw [hf]
    rintro e w2 ⟨rfl, hb⟩
    have HB2 := Lib.hid (chainY HB1.out hb (Nat.le_refl _))
    have HT2 := Lib.hid (PB.keep HT1.out hb)
    clear hb HB1 HT1
    try clear m0 m1
    have m0 := HT2.out.c0
    have m1 := HT2.out.c1
    go_wp2_with fail
    go_ret
    exact ⟨rfl, HB2.out⟩
  | true =>
    by_cases h8 : (8 : Int) < (M : Int)
    · go_enter Try.func8, Try.ntmps8
      go_wp2_with fail
      have HT0 : Hid (PB (w.alloc (.cells #[.string n, .slice A' M c'] 33)) w.heap.size (.string n) (.slice A' M c')) := PB.new w _ _
      have HB0 := Lib.hid (bAlP w (.cells #[.string n, .slice A' M c'] 33))
      generalize w.alloc (.cells #[.string n, .slice A' M c'] 33) = W0 at HT0 HB0 ⊢
      refine (firstS W0).mono ?_
      rintro e w1 ⟨rfl, hb⟩
      have HB1 := Lib.hid (chainY HB0.out hb (Nat.le_refl _))
      have HT1 := Lib.hid (PB.keep HT0.out hb)
      clear hb HB0 HT0
      try clear m0 m1
      have m0 := HT1.out.c0
      have m1 := HT1.out.c1
      go_wp2_with fail
      refine (CFW.out _ HB1.out).mono ?_
      rw [hf]
      rintro e w2 ⟨rfl, hb⟩
      have HB2 := Lib.hid (chainY HB1.out hb (Nat.le_refl _))
      have HT2 := Lib.hid (PB.keep HT1.out hb)
      clear hb HB1 HT1
      try clear m0 m1
      have m0 := HT2.out.c0
      have m1 := HT2.out.c1
      go_wp2_with fail
      go_ret
      exact ⟨rfl, HB2.out⟩
    · obtain ⟨hm1, hm2⟩ := madeM_bd hf
      have CM : Hid (∀ X, Below w.heap.size w X → Calls Try.prog 18 #[v] X (RetPg X (madeM l))) := fun X hX => madeY l v X (HV.out.keep hX) hf
      have HI := Lib.hid hm2
      have HA := Lib.hid (madeM_home l)
      clear hm2
      go_enter Try.func8, Try.ntmps8
      go_wp2_with fail
      have HT0 : Hid (PB (w.alloc (.cells #[.string n, .slice A' M c'] 33)) w.heap.size (.string n) (.slice A' M c')) := PB.new w _ _
      have HB0 := Lib.hid (bAlP w (.cells #[.string n, .slice A' M c'] 33))
      generalize w.alloc (.cells #[.string n, .slice A' M c'] 33) = W0 at HT0 HB0 ⊢
      refine (firstS W0).mono ?_
      rintro e w1 ⟨rfl, hb⟩
      have HB1 := Lib.hid (chainY HB0.out hb (Nat.le_refl _))
      have HT1 := Lib.hid (PB.keep HT0.out hb)
      clear hb HB0 HT0
      try clear m0 m1
      have m0 := HT1.out.c0
      have m1 := HT1.out.c1
      go_wp2_with fail
      refine (CFW.out _ HB1.out).mono ?_
      rw [hf]
      rintro e w2 ⟨rfl, hb⟩
      have HB2 := Lib.hid (chainY HB1.out hb (Nat.le_refl _))
      have HT2 := Lib.hid (PB.keep HT1.out hb)
      clear hb HB1 HT1
      try clear m0 m1
      have m0 := HT2.out.c0
      have m1 := HT2.out.c1
      go_wp2_with fail
      refine (CM.out _ HB2.out).mono ?_
      rintro e w3 ⟨x, rfl, hx, hb⟩
      have HU3 := Lib.hid (HU.out.keep HB2.out)
      replace HU3 := Lib.hid (HU3.out.keep hb)
      clear HU CFW CM HV
      generalize madeM l = L at hx hm1 HI HA
      obtain ⟨d, hd⟩ : ∃ d, internM L a b = d := ⟨_, rfl⟩
      obtain ⟨⟨s1, s2⟩, r⟩ := d
      have HD := Lib.hid hd
      have CI : Hid (∀ X, Below w3.heap.size w3 X → Calls Try.prog 23 #[x, .string a, .string b] X (RetN X ((s1, s2), r))) := fun X hX => by
        have := internY L x a b X (hx.keep hX) (by omega) (fun p hp => by have := HI.out p hp; omega)
        rwa [hd] at this
      have CH : Hid (∀ X, Below w3.heap.size w3 X → Calls Try.prog 25 #[x, .agg #[.string s1, .string s2]] X (RetY X (.bool (homeM L (s1, s2))))) := fun X hX => homeY L x s1 s2 X (hx.keep hX) (by omega) (fun p hp => by have := HI.out p hp; omega)
      have CD : Hid (∀ X, Below w3.heap.size w3 X → Calls Try.prog 19 #[x, .agg #[.string n, .slice A' M c']] X (RetD X (defineM L (n, q)))) := fun X hX => defineY L x n q _ X (hx.keep hX) (HU3.out.keep hX) (by omega) (fun p hp => by have := HI.out p hp; omega) (by have := HM.out; omega)
      have HB3 := Lib.hid (chainY HB2.out hb (Nat.le_refl _))
      have HT3 := Lib.hid (PB.keep HT2.out hb)
      clear hb HB2 HT2
      try clear m0 m1
      have m0 := HT3.out.c0
      have m1 := HT3.out.c1
      clear hx hd HU3
      go_wp2_with fail
      refine (CI.out _ (Below.refl _ _)).mono ?_
      intro e w4 h4
      obtain ⟨rfl, hb⟩ : e = .returned (.tuple #[.agg #[.string s1, .string s2], .int .i64 r]) ∧ Below w3.heap.size w3 w4 := h4
      go_upto_region 7 with fail
      have T4 : Hid (SB (w4.alloc (.cells #[.string s1, .string s2] 23)) w4.heap.size (.string s1) (.string s2)) := SB.new _ _ _
      have HX4 : Hid (Below w3.heap.size w3 (w4.alloc (.cells #[.string s1, .string s2] 23))) := chainY hb (bAlP _ _) (Nat.le_refl _)
      have HT4 := Lib.hid (PB.keep HT3.out HX4.out)
      clear hb m0 m1 HT3 CI
      generalize w4.alloc (.cells #[.string s1, .string s2] 23) = W4 at T4 HX4 HT4 ⊢
      have m0 := HT4.out.c0
      have m1 := HT4.out.c1
      have c0 := T4.out.c0
      have c1 := T4.out.c1
      by_cases hr : r = 0
      · subst hr
        have hh := intern_home HA.out HD.out
        rw [hh] at CH
        by_cases hc : chkPkg L (n, q) = 0
        · have hdm : defineM L (n, q) = (L ++ [(n, q)], 0) := by unfold defineM; rw [if_pos hc]
          rw [hdm] at CD
          clear hdm
          go_wp2_with fail
          refine (CD.out _ HX4.out).mono ?_
          rintro e w5 ⟨y, rfl, hy, hb⟩
          have CJ : Hid (∀ X, Below w5.heap.size w5 X → Calls Try.prog 23 #[y, .string a, .string b] X (RetN X ((s1, s2), 0))) := fun X hX => by
            have := internY (L ++ [(n, q)]) y a b X (hy.keep hX) (by simp; omega) (fun p hp => by
              rcases List.mem_append.1 hp with h1 | h1
              · have := HI.out p h1; omega
              · rw [List.mem_singleton] at h1; subst h1; show q.length ≤ 1000000; have := HM.out; omega)
            rwa [intern_append _ HD.out] at this
          have CK : Hid (∀ X, Below w5.heap.size w5 X → Calls Try.prog 25 #[y, .agg #[.string s1, .string s2]] X (RetY X (.bool true))) := fun X hX => by
            have := homeY (L ++ [(n, q)]) y s1 s2 X (hy.keep hX) (by simp; omega) (fun p hp => by
              rcases List.mem_append.1 hp with h1 | h1
              · have := HI.out p h1; omega
              · rw [List.mem_singleton] at h1; subst h1; show q.length ≤ 1000000; have := HM.out; omega)
            rwa [home_append _ hh] at this
          have HX5 := Lib.hid (chainY HX4.out hb (Nat.le_refl _))
          have T5 := Lib.hid (SB.keep T4.out hb)
          clear hy hb m0 m1 c0 c1 T4 HT4 HX4 CD HI HA HD HM
          go_wp2_with fail
          refine (CJ.out _ (Below.refl _ _)).mono ?_
          intro e w6 h6
          obtain ⟨rfl, hb⟩ : e = .returned (.tuple #[.agg #[.string s1, .string s2], .int .i64 0]) ∧ Below w5.heap.size w5 w6 := h6
          go_upto_region 13 with fail
          have T6 : Hid (SB (w6.alloc (.cells #[.string s1, .string s2] 23)) w6.heap.size (.string s1) (.string s2)) := SB.new _ _ _
          have HY6 : Hid (Below w5.heap.size w5 (w6.alloc (.cells #[.string s1, .string s2] 23))) := chainY hb (bAlP _ _) (Nat.le_refl _)
          have T5b := Lib.hid (SB.keep T5.out HY6.out)
          clear hb
          generalize w6.alloc (.cells #[.string s1, .string s2] 23) = W6 at T6 HY6 T5b ⊢
          have c0 := T5b.out.c0
          have c1 := T5b.out.c1
          have d0 := T6.out.c0
          have d1 := T6.out.c1
          go_wp2_with fail
          refine (CH.out _ (chainY HX5.out HY6.out (Nat.le_refl _))).mono ?_
          rintro e w7 ⟨rfl, hb⟩
          have HY7 := Lib.hid (chainY HY6.out hb (Nat.le_refl _))
          have T5c := Lib.hid (SB.keep T5b.out hb)
          have T6c := Lib.hid (SB.keep T6.out hb)
          clear hb c0 c1 d0 d1 T5b T6 HY6
          have c0 := T5c.out.c0
          have c1 := T5c.out.c1
          have d0 := T6c.out.c0
          have d1 := T6c.out.c1
          go_wp2_with fail
          refine (CK.out _ HY7.out).mono ?_
          rintro e w8 ⟨rfl, hb⟩
          have HB8 := Lib.hid (chainY HB3.out (chainY HX5.out (chainY HY7.out hb (Nat.le_refl _)) (Nat.le_refl _)) (Nat.le_refl _))
          have c0' := (SB.keep T5c.out hb).c0
          have c1' := (SB.keep T5c.out hb).c1
          have d0' := (SB.keep T6c.out hb).c0
          have d1' := (SB.keep T6c.out hb).c1
          have hs1 : (s1.toList == s1.toList) = true := beq_self_eq_true _
          have hs2 : (s2.toList == s2.toList) = true := beq_self_eq_true _
          clear hb c0 c1 d0 d1
          go_wp2_with fail
          go_ret
          exact ⟨rfl, HB8.out⟩
        · have hdm : defineM L (n, q) = ([], chkPkg L (n, q)) := by unfold defineM; rw [if_neg hc]
          rw [hdm] at CD
          clear hdm
          generalize chkPkg L (n, q) = r2 at CD hc
          go_wp2_with fail
          refine (CD.out _ HX4.out).mono ?_
          rintro e w5 ⟨y, rfl, hy, hb⟩
          have HX5 := Lib.hid (chainY HX4.out hb (Nat.le_refl _))
          have T5 := Lib.hid (SB.keep T4.out hb)
          clear hy hb m0 m1 c0 c1 T4 HT4 HX4 CD
          have c0 := T5.out.c0
          have c1 := T5.out.c1
          go_wp2_with fail
          refine (CH.out _ HX5.out).mono ?_
          rintro e w6 ⟨rfl, hb⟩
          have HB6 := Lib.hid (chainY HB3.out (chainY HX5.out hb (Nat.le_refl _)) (Nat.le_refl _))
          clear hb
          go_wp2_with fail
          go_ret
          exact ⟨rfl, HB6.out⟩
      · have HB4 := Lib.hid (chainY HB3.out HX4.out (Nat.le_refl _))
        go_wp2_with fail
        go_ret
        exact ⟨rfl, HB4.out⟩
end Go.Proofs.Ytcgchacokcnacaa
