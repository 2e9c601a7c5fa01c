/- The walk of NumberDivides. -/
import Derived.Test.YtclniebhgfodfaaDoorLawMath
namespace Go.Proofs.YtclniebhgfodfaaDoor
open Go Go.RowKit
set_option linter.unusedVariables false

set_option maxHeartbeats 2000000 in
theorem divides_walk (a b : ByteArray) (w : World) (ha : a.size ≤ maxLen) (hb : b.size ≤ maxLen) :
    Calls Tryd.prog 8 #[.string a, .string b] w (RetV w (.bool true)) := by
  have v0 : Hid (val (LA ⟨#[48]⟩) = 0) := by show _ = _; decide
  have z0 : (⟨#[48]⟩ : ByteArray).size ≤ 400000000 := by decide
  cases hok : sizesOk 60 [a, b] with
  | false =>
    go_enter Tryd.func8, Tryd.ntmps8
    go_wp2_with fail
    refine (first_any _).mono ?_
    rintro e w1 ⟨rfl, hB1⟩
    go_wp2_with fail
    refine (short_any [a, b] w1.heap.size 2 2 _ rfl (by decide) (string_cells w1 [a, b] _ rfl) (sizes2 ha hb)).mono ?_
    rintro e w2 ⟨rfl, rfl⟩
    rw [hok]
    go_wp2
    go_ret
    exact ⟨rfl, hB1.alloc hB1.size _⟩
  | true =>
    cases hva : valid (LA a) with
    | false =>
      replace hva := Lib.hid hva
      obtain ⟨ha6, hb6⟩ := sizesOk2 hok
      replace hok := Lib.hid hok
      go_enter Tryd.func8, Tryd.ntmps8
      go_wp2_with fail
      refine (first_any _).mono ?_
      rintro e w1 ⟨rfl, hB1⟩
      go_wp2_with fail
      refine (short_any [a, b] w1.heap.size 2 2 _ rfl (by decide) (string_cells w1 [a, b] _ rfl) (sizes2 ha hb)).mono ?_
      rintro e w2 ⟨rfl, rfl⟩
      rw [hok.out]
      have hB2 := hB1.alloc hB1.size (.cells ([a, b].map Value.string).toArray 9)
      go_wp2_with fail
      refine (validR a _ (by unfold maxLen; omega)).mono ?_
      rintro e w3 ⟨rfl, rfl⟩
      rw [hva.out]
      go_wp2
      go_ret
      exact ⟨rfl, hB2⟩
    | true =>
      cases hvb : valid (LA b) with
      | false =>
        replace hva := Lib.hid hva
        replace hvb := Lib.hid hvb
        obtain ⟨ha6, hb6⟩ := sizesOk2 hok
        replace hok := Lib.hid hok
        go_enter Tryd.func8, Tryd.ntmps8
        go_wp2_with fail
        refine (first_any _).mono ?_
        rintro e w1 ⟨rfl, hB1⟩
        go_wp2_with fail
        refine (short_any [a, b] w1.heap.size 2 2 _ rfl (by decide) (string_cells w1 [a, b] _ rfl) (sizes2 ha hb)).mono ?_
        rintro e w2 ⟨rfl, rfl⟩
        rw [hok.out]
        have hB2 := hB1.alloc hB1.size (.cells ([a, b].map Value.string).toArray 9)
        go_wp2_with fail
        refine (validR a _ (by unfold maxLen; omega)).mono ?_
        rintro e w3 ⟨rfl, rfl⟩
        rw [hva.out]
        go_wp2_with fail
        refine (validR b _ (by unfold maxLen; omega)).mono ?_
        rintro e w3 ⟨rfl, rfl⟩
        rw [hvb.out]
        go_wp2
        go_ret
        exact ⟨rfl, hB2⟩
      | true =>
        by_cases hz : LA b = [48]
        · have e48 := toList48 hz
          replace hz := Lib.hid hz
          replace hva := Lib.hid hva
          replace hvb := Lib.hid hvb
          obtain ⟨ha6, hb6⟩ := sizesOk2 hok
          replace hok := Lib.hid hok
          go_enter Tryd.func8, Tryd.ntmps8
          go_wp2_with fail
          refine (first_any _).mono ?_
          rintro e w1 ⟨rfl, hB1⟩
          go_wp2_with fail
          refine (short_any [a, b] w1.heap.size 2 2 _ rfl (by decide) (string_cells w1 [a, b] _ rfl) (sizes2 ha hb)).mono ?_
          rintro e w2 ⟨rfl, rfl⟩
          rw [hok.out]
          have hB2 := hB1.alloc hB1.size (.cells ([a, b].map Value.string).toArray 9)
          go_wp2_with fail
          refine (validR a _ (by unfold maxLen; omega)).mono ?_
          rintro e w3 ⟨rfl, rfl⟩
          rw [hva.out]
          go_wp2_with fail
          refine (validR b _ (by unfold maxLen; omega)).mono ?_
          rintro e w3 ⟨rfl, rfl⟩
          rw [hvb.out]
          go_wp2
          go_ret
          exact ⟨rfl, hB2⟩
        · have e48 := toList48n hz
          have hm0 : mag (LA b) ≠ 0 := fun h => hz ((mag_zero_iff hvb).1 h)
          have hq := dquo_drem (neg (LA a)) (mag (LA a)) (neg (LA b)) (mag (LA b)) hm0
          have hr := drem_between (neg (LA a)) (mag (LA a)) (neg (LA b)) (mag (LA b)) hm0 neg_mag neg_mag
          have hna := dquo_natAbs (neg (LA a)) (mag (LA a)) (neg (LA b)) (mag (LA b))
          have hnr := drem_natAbs (neg (LA a)) (mag (LA a)) (neg (LA b)) (mag (LA b)) hm0
          obtain ⟨ha6, hb6⟩ := sizesOk2 hok
          have la := natAbs_le_pow (val_size a) (show a.size + 1 ≤ 61 by omega)
          have lb := natAbs_le_pow (val_size b) (show b.size + 1 ≤ 61 by omega)
          rw [val_natAbs] at la lb
          obtain ⟨Q, hQ⟩ : ∃ Q, dquo (neg (LA a)) (mag (LA a)) (neg (LA b)) (mag (LA b)) = Q := ⟨_, rfl⟩
          obtain ⟨R, hR⟩ : ∃ R, drem (neg (LA a)) (mag (LA a)) (neg (LA b)) (mag (LA b)) = R := ⟨_, rfl⟩
          rw [hQ] at hq hna
          rw [hR] at hq hr hnr
          rw [← val_eq, ← val_eq] at hq
          rw [← val_eq] at hr
          have lq : Q.natAbs < 10 ^ 62 := by rw [Nat.pow_succ]; omega
          have lr : R.natAbs < 10 ^ 62 := by rw [Nat.pow_succ]; omega
          obtain ⟨xq, hxxq, hvxq, hzxq, hwxq⟩ := named (Q) 62 lq
          obtain ⟨xr, hxxr, hvxr, hzxr, hwxr⟩ := named (R) 62 lr
          have lb2 := val_62 hb6
          obtain ⟨xm, hxxm, hvxm, hzxm, hwxm⟩ := named (Q * val (LA b)) 123 (natAbs_mul_lt lq lb2)
          have hsum : Hid (BA (text (Q * val (LA b) + R)) = a) := by show _ = _; rw [hq, BA_val hva]
          replace hz := Lib.hid hz
          replace hva := Lib.hid hva
          replace hvb := Lib.hid hvb
          replace hQ := Lib.hid hQ
          replace hR := Lib.hid hR
          replace hm0 := Lib.hid hm0
          clear hq hna hnr la lb lq lr lb2 ha6 hb6
          rcases hr with hr | ⟨g1, g2, g3⟩ | ⟨g1, g2, g3⟩
          · have s2 := Lib.hid (ordI_eq hr)
            clear hr
            obtain ⟨ha6, hb6⟩ := sizesOk2 hok
            replace hok := Lib.hid hok
            go_enter Tryd.func8, Tryd.ntmps8
            go_wp2_with fail
            refine (first_any _).mono ?_
            rintro e w1 ⟨rfl, hB1⟩
            go_wp2_with fail
            refine (short_any [a, b] w1.heap.size 2 2 _ rfl (by decide) (string_cells w1 [a, b] _ rfl) (sizes2 ha hb)).mono ?_
            rintro e w2 ⟨rfl, rfl⟩
            rw [hok.out]
            have hB2 := hB1.alloc hB1.size (.cells ([a, b].map Value.string).toArray 9)
            go_wp2_with fail
            refine (validR a _ (by unfold maxLen; omega)).mono ?_
            rintro e w3 ⟨rfl, rfl⟩
            rw [hva.out]
            go_wp2_with fail
            refine (validR b _ (by unfold maxLen; omega)).mono ?_
            rintro e w3 ⟨rfl, rfl⟩
            rw [hvb.out]
            go_wp2_with fail
            refine (divide_any a b _ (by omega) (by omega) hm0.out).mono ?_
            rintro e w3 ⟨rfl, hb3⟩
            have hB3 := chain hB2 hb3
            rw [hQ.out, hR.out, hxxq.out, hxxr.out]
            go_wp2_with fail
            refine (compare_any b ⟨#[48]⟩ _ (by omega) z0).mono ?_
            rintro e w4 ⟨rfl, rfl⟩
            rw [v0.out]
            go_wp2_with fail
            refine (compare_any xr ⟨#[48]⟩ _ (by omega) z0).mono ?_
            rintro e w4 ⟨rfl, rfl⟩
            rw [hvxr.out, v0.out, s2.out]
            go_wp2_with fail
            refine (multiply_any xq b _ (by omega) (by omega)).mono ?_
            rintro e w4 ⟨rfl, hb4⟩
            have hB4 := chain hB3 hb4
            rw [hvxq.out, hxxm.out]
            go_wp2_with fail
            refine (add_any xm xr _ (by omega) (by omega)).mono ?_
            rintro e w5 ⟨rfl, hb5⟩
            have hB5 := chain hB4 hb5
            rw [hvxm.out, hvxr.out, hsum.out]
            go_wp2
            go_ret
            exact ⟨rfl, hB5⟩
          · have s1 := Lib.hid (ordI_gt g1)
            have s2 := Lib.hid (ordI_gt g2)
            have s3 := Lib.hid (ordI_lt g3)
            clear g1 g2 g3
            obtain ⟨ha6, hb6⟩ := sizesOk2 hok
            replace hok := Lib.hid hok
            go_enter Tryd.func8, Tryd.ntmps8
            go_wp2_with fail
            refine (first_any _).mono ?_
            rintro e w1 ⟨rfl, hB1⟩
            go_wp2_with fail
            refine (short_any [a, b] w1.heap.size 2 2 _ rfl (by decide) (string_cells w1 [a, b] _ rfl) (sizes2 ha hb)).mono ?_
            rintro e w2 ⟨rfl, rfl⟩
            rw [hok.out]
            have hB2 := hB1.alloc hB1.size (.cells ([a, b].map Value.string).toArray 9)
            go_wp2_with fail
            refine (validR a _ (by unfold maxLen; omega)).mono ?_
            rintro e w3 ⟨rfl, rfl⟩
            rw [hva.out]
            go_wp2_with fail
            refine (validR b _ (by unfold maxLen; omega)).mono ?_
            rintro e w3 ⟨rfl, rfl⟩
            rw [hvb.out]
            go_wp2_with fail
            refine (divide_any a b _ (by omega) (by omega) hm0.out).mono ?_
            rintro e w3 ⟨rfl, hb3⟩
            have hB3 := chain hB2 hb3
            rw [hQ.out, hR.out, hxxq.out, hxxr.out]
            go_wp2_with fail
            refine (compare_any b ⟨#[48]⟩ _ (by omega) z0).mono ?_
            rintro e w4 ⟨rfl, rfl⟩
            rw [v0.out, s1.out]
            go_wp2_with fail
            refine (compare_any xr ⟨#[48]⟩ _ (by omega) z0).mono ?_
            rintro e w4 ⟨rfl, rfl⟩
            rw [hvxr.out, v0.out, s2.out]
            go_wp2_with fail
            refine (multiply_any xq b _ (by omega) (by omega)).mono ?_
            rintro e w4 ⟨rfl, hb4⟩
            have hB4 := chain hB3 hb4
            rw [hvxq.out, hxxm.out]
            go_wp2_with fail
            refine (add_any xm xr _ (by omega) (by omega)).mono ?_
            rintro e w5 ⟨rfl, hb5⟩
            have hB5 := chain hB4 hb5
            rw [hvxm.out, hvxr.out, hsum.out]
            go_wp2_with fail
            refine (compare_any xr b _ (by omega) (by omega)).mono ?_
            rintro e w6 ⟨rfl, rfl⟩
            rw [hvxr.out, s3.out]
            go_wp2
            go_ret
            exact ⟨rfl, hB5⟩
          · have s1 := Lib.hid (ordI_lt g1)
            have s2 := Lib.hid (ordI_lt g2)
            have s3 := Lib.hid (ordI_gt g3)
            clear g1 g2 g3
            obtain ⟨ha6, hb6⟩ := sizesOk2 hok
            replace hok := Lib.hid hok
            go_enter Tryd.func8, Tryd.ntmps8
            go_wp2_with fail
            refine (first_any _).mono ?_
            rintro e w1 ⟨rfl, hB1⟩
            go_wp2_with fail
            refine (short_any [a, b] w1.heap.size 2 2 _ rfl (by decide) (string_cells w1 [a, b] _ rfl) (sizes2 ha hb)).mono ?_
            rintro e w2 ⟨rfl, rfl⟩
            rw [hok.out]
            have hB2 := hB1.alloc hB1.size (.cells ([a, b].map Value.string).toArray 9)
            go_wp2_with fail
            refine (validR a _ (by unfold maxLen; omega)).mono ?_
            rintro e w3 ⟨rfl, rfl⟩
            rw [hva.out]
            go_wp2_with fail
            refine (validR b _ (by unfold maxLen; omega)).mono ?_
            rintro e w3 ⟨rfl, rfl⟩
            rw [hvb.out]
            go_wp2_with fail
            refine (divide_any a b _ (by omega) (by omega) hm0.out).mono ?_
            rintro e w3 ⟨rfl, hb3⟩
            have hB3 := chain hB2 hb3
            rw [hQ.out, hR.out, hxxq.out, hxxr.out]
            go_wp2_with fail
            refine (compare_any b ⟨#[48]⟩ _ (by omega) z0).mono ?_
            rintro e w4 ⟨rfl, rfl⟩
            rw [v0.out, s1.out]
            go_wp2_with fail
            refine (compare_any xr ⟨#[48]⟩ _ (by omega) z0).mono ?_
            rintro e w4 ⟨rfl, rfl⟩
            rw [hvxr.out, v0.out, s2.out]
            go_wp2_with fail
            refine (multiply_any xq b _ (by omega) (by omega)).mono ?_
            rintro e w4 ⟨rfl, hb4⟩
            have hB4 := chain hB3 hb4
            rw [hvxq.out, hxxm.out]
            go_wp2_with fail
            refine (add_any xm xr _ (by omega) (by omega)).mono ?_
            rintro e w5 ⟨rfl, hb5⟩
            have hB5 := chain hB4 hb5
            rw [hvxm.out, hvxr.out, hsum.out]
            go_wp2_with fail
            refine (compare_any xr b _ (by omega) (by omega)).mono ?_
            rintro e w6 ⟨rfl, rfl⟩
            rw [hvxr.out, s3.out]
            go_wp2
            go_ret
            exact ⟨rfl, hB5⟩

end Go.Proofs.YtclniebhgfodfaaDoor
