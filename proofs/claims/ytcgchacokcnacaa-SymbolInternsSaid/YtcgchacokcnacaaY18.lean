/- SymbolInterns: the walk. -/
import Derived.Test.YtcgchacokcnacaaY17
namespace Go.Proofs.Ytcgchacokcnacaa
open Go Go.RowKit
set_option linter.unusedVariables false

set_option maxHeartbeats 8000000 in
set_option maxRecDepth 100000 in
theorem symbolInterns_walk (l : List Pg) (v : Value) (a b : ByteArray) (w : World) (hv : PgV w l v) : Calls Try.prog 6 #[v, .string a, .string b] w (RetY w (.bool true)) := by
  have HV := Lib.hid hv
  clear hv
  have CFW : Hid (∀ X, Below w.heap.size w X → Calls Try.prog 17 #[v] X (RetY X (.bool (fewM l)))) := fun X hX => fewY l v X (HV.out.keep hX)
  cases hf : fewM l with
  | false =>
    go_enter Try.func6, Try.ntmps6
    go_wp2_with fail
    have HB0 := Lib.hid (Below.refl w.heap.size w)
    refine (firstS w).mono ?_
    rintro e w1 ⟨rfl, hb⟩
    have HB1 := Lib.hid (chainY HB0.out hb (Nat.le_refl _))
    clear hb HB0
    go_wp2_with fail
    refine (CFW.out _ HB1.out).mono ?_
    rw [hf]
    rintro e w2 ⟨rfl, hb⟩
    have HB2 := Lib.hid (chainY HB1.out hb (Nat.le_refl _))
    clear hb HB1
    go_wp2_with fail
    go_ret
    exact ⟨rfl, HB2.out⟩
  | true =>
    by_cases h8 : (60 : Int) < (b.size : Int)
    · go_enter Try.func6, Try.ntmps6
      go_wp2_with fail
      have HB0 := Lib.hid (Below.refl w.heap.size w)
      refine (firstS w).mono ?_
      rintro e w1 ⟨rfl, hb⟩
      have HB1 := Lib.hid (chainY HB0.out hb (Nat.le_refl _))
      clear hb HB0
      go_wp2_with fail
      refine (CFW.out _ HB1.out).mono ?_
      rw [hf]
      rintro e w2 ⟨rfl, hb⟩
      have HB2 := Lib.hid (chainY HB1.out hb (Nat.le_refl _))
      clear hb HB1
      go_wp2_with fail
      go_ret
      exact ⟨rfl, HB2.out⟩
    · obtain ⟨hm1, hm2⟩ := madeM_bd hf
      have CM : Hid (∀ X, Below w.heap.size w X → Calls Try.prog 18 #[v] X (RetPg X (madeM l))) := fun X hX => madeY l v X (HV.out.keep hX) hf
      have HI := Lib.hid hm2
      clear hm2
      obtain ⟨d, hd⟩ : ∃ d, internM (madeM l) a b = d := ⟨_, rfl⟩
      obtain ⟨⟨s1, s2⟩, r⟩ := d
      go_enter Try.func6, Try.ntmps6
      go_wp2_with fail
      have HB0 := Lib.hid (Below.refl w.heap.size w)
      refine (firstS w).mono ?_
      rintro e w1 ⟨rfl, hb⟩
      have HB1 := Lib.hid (chainY HB0.out hb (Nat.le_refl _))
      clear hb HB0
      go_wp2_with fail
      refine (CFW.out _ HB1.out).mono ?_
      rw [hf]
      rintro e w2 ⟨rfl, hb⟩
      have HB2 := Lib.hid (chainY HB1.out hb (Nat.le_refl _))
      clear hb HB1
      go_wp2_with fail
      refine (CM.out _ HB2.out).mono ?_
      rintro e w3 ⟨x, rfl, hx, hb⟩
      have CI : Hid (∀ X, Below w3.heap.size w3 X → Calls Try.prog 23 #[x, .string a, .string b] X (RetN X ((s1, s2), r))) := fun X hX => by
        have := internY (madeM l) x a b X (hx.keep hX) (by omega) (fun p hp => by have := HI.out p hp; omega)
        rwa [hd] at this
      have CR : Hid (∀ X, Below w3.heap.size w3 X → Calls Try.prog 24 #[x, .string a, .string b] X (RetN X ((s1, s2), r))) := fun X hX => by
        have := internRY (madeM l) x a b X (hx.keep hX) (by omega) (fun p hp => by have := HI.out p hp; omega)
        rwa [hd] at this
      have HB3 := Lib.hid (chainY HB2.out hb (Nat.le_refl _))
      clear hb hx hd HB2 CM CFW HV HI
      go_wp2_with fail
      refine (CI.out _ (Below.refl _ _)).mono ?_
      intro e w4 h4
      obtain ⟨rfl, hb⟩ : e = .returned (.tuple #[.agg #[.string s1, .string s2], .int .i64 r]) ∧ Below w3.heap.size w3 w4 := h4
      go_upto_region 7 with fail
      have T4 : Hid (SB (w4.alloc (.cells #[.string s1, .string s2] 23)) w4.heap.size (.string s1) (.string s2)) := SB.new _ _ _
      have HX4 : Hid (Below w3.heap.size w3 (w4.alloc (.cells #[.string s1, .string s2] 23))) := chainY hb (bAlP _ _) (Nat.le_refl _)
      clear hb
      generalize w4.alloc (.cells #[.string s1, .string s2] 23) = W4 at T4 HX4 ⊢
      go_wp2_with fail
      refine (CR.out _ HX4.out).mono ?_
      intro e w5 h5
      obtain ⟨rfl, hb⟩ : e = .returned (.tuple #[.agg #[.string s1, .string s2], .int .i64 r]) ∧ Below W4.heap.size W4 w5 := h5
      go_upto_region 8 with fail
      have T5 : Hid (SB (w5.alloc (.cells #[.string s1, .string s2] 23)) w5.heap.size (.string s1) (.string s2)) := SB.new _ _ _
      have T4b : Hid (SB (w5.alloc (.cells #[.string s1, .string s2] 23)) w4.heap.size (.string s1) (.string s2)) := SB.keep (SB.keep T4.out hb) (bAlP _ _)
      have HB5 := Lib.hid (chainY HB3.out (chainY (chainY HX4.out hb (Nat.le_refl _)) (bAlP _ _) (Nat.le_refl _)) (Nat.le_refl _) : Below w.heap.size w (w5.alloc (.cells #[.string s1, .string s2] 23)))
      clear hb T4 HX4 HB3
      generalize w5.alloc (.cells #[.string s1, .string s2] 23) = W5 at T5 T4b HB5 ⊢
      have m0 := T4b.out.c0
      have m1 := T4b.out.c1
      have n0 := T5.out.c0
      have n1 := T5.out.c1
      have hs1 : (s1.toList == s1.toList) = true := beq_self_eq_true _
      have hs2 : (s2.toList == s2.toList) = true := beq_self_eq_true _
      go_wp2_with fail
      go_ret
      exact ⟨rfl, HB5.out⟩
end Go.Proofs.Ytcgchacokcnacaa
