/- The walk of NumberReduces. -/
import Derived.Test.YtclniebhgfodfaaDoorLawMath
namespace Go.Proofs.YtclniebhgfodfaaDoor
open Go Go.RowKit
set_option linter.unusedVariables false

set_option maxHeartbeats 2000000 in
theorem reduces_walk (a b : ByteArray) (w : World) (ha : a.size ≤ maxLen) (hb : b.size ≤ maxLen) :
    Calls Tryd.prog 10 #[.string a, .string b] w (RetV w (.bool true)) := by
  unfold maxLen at ha hb
  by_cases h25 : 25 < a.size
  · go_enter Tryd.func10, Tryd.ntmps10
    go_wp2_with fail
    refine (first_any _).mono ?_
    rintro e w1 ⟨rfl, hB1⟩
    go_wp2
    go_ret
    exact ⟨rfl, hB1⟩
  by_cases h26 : 25 < b.size
  · go_enter Tryd.func10, Tryd.ntmps10
    go_wp2_with fail
    refine (first_any _).mono ?_
    rintro e w1 ⟨rfl, hB1⟩
    go_wp2
    go_ret
    exact ⟨rfl, hB1⟩
  have t0 : Hid (BA (text 0) = ⟨#[48]⟩) := by show _ = _; rfl
  have t1 : Hid (BA (text 1) = ⟨#[49]⟩) := by show _ = _; rfl
  by_cases h0 : mag (LA b) = 0
  · have hm := Lib.hid h0
    have g1 : Hid (BA (text ((Nat.gcd (mag (LA ⟨#[48]⟩)) (mag (LA ⟨#[49]⟩)) : Nat) : Int)) = ⟨#[49]⟩) := by show _ = _; rfl
    have z0 : (⟨#[48]⟩ : ByteArray).size ≤ 400000000 := by decide
    have z1 : (⟨#[49]⟩ : ByteArray).size ≤ 400000000 := by decide
    cases hvb : valid (LA b) with
    | false =>
      replace hvb := Lib.hid hvb
      clear h0
      go_enter Tryd.func10, Tryd.ntmps10
      go_wp2_with fail
      refine (first_any _).mono ?_
      rintro e w1 ⟨rfl, hB1⟩
      go_wp2_with fail
      refine (reduce_zero a b _ (by omega) (by omega) hm.out).mono ?_
      rintro e w2 ⟨rfl, hb2⟩
      have hB2 := chain hB1 hb2
      rw [t0.out, t1.out]
      go_wp2_with fail
      refine (reduceR_zero a b _ (by omega) (by omega) hm.out).mono ?_
      rintro e w3 ⟨rfl, hb3⟩
      have hB3 := chain hB2 hb3
      rw [t0.out, t1.out]
      go_wp2_with fail
      refine (gcd_any ⟨#[48]⟩ ⟨#[49]⟩ _ z0 z1).mono ?_
      rintro e w4 ⟨rfl, hb4⟩
      have hB4 := chain hB3 hb4
      rw [g1.out]
      go_wp2_with fail
      refine (validR b _ (by unfold maxLen; omega)).mono ?_
      rintro e w5 ⟨rfl, rfl⟩
      rw [hvb.out]
      go_wp2
      go_ret
      exact ⟨rfl, hB4⟩
    | true =>
      have e48 := toList48 ((mag_zero_iff hvb).1 h0)
      replace hvb := Lib.hid hvb
      clear h0
      go_enter Tryd.func10, Tryd.ntmps10
      go_wp2_with fail
      refine (first_any _).mono ?_
      rintro e w1 ⟨rfl, hB1⟩
      go_wp2_with fail
      refine (reduce_zero a b _ (by omega) (by omega) hm.out).mono ?_
      rintro e w2 ⟨rfl, hb2⟩
      have hB2 := chain hB1 hb2
      rw [t0.out, t1.out]
      go_wp2_with fail
      refine (reduceR_zero a b _ (by omega) (by omega) hm.out).mono ?_
      rintro e w3 ⟨rfl, hb3⟩
      have hB3 := chain hB2 hb3
      rw [t0.out, t1.out]
      go_wp2_with fail
      refine (gcd_any ⟨#[48]⟩ ⟨#[49]⟩ _ z0 z1).mono ?_
      rintro e w4 ⟨rfl, hb4⟩
      have hB4 := chain hB3 hb4
      rw [g1.out]
      go_wp2_with fail
      refine (validR b _ (by unfold maxLen; omega)).mono ?_
      rintro e w5 ⟨rfl, rfl⟩
      rw [hvb.out]
      go_wp2
      go_ret
      exact ⟨rfl, hB4⟩
  · have hvb : valid (LA b) = true := by
      cases hv : valid (LA b) with
      | false => exact absurd (mag_invalid hv) h0
      | true => rfl
    have e48 := toList48n (fun h => h0 ((mag_zero_iff hvb).2 h))
    have hg0 : Nat.gcd (mag (LA a)) (mag (LA b)) ≠ 0 := fun h => h0 (Nat.gcd_eq_zero_iff.1 h).2
    have la := natAbs_le_pow (val_size a) (show a.size + 1 ≤ 26 by omega)
    have lb := natAbs_le_pow (val_size b) (show b.size + 1 ≤ 26 by omega)
    have l1 : (zval (neg (LA a) != neg (LA b)) (mag (LA a) / Nat.gcd (mag (LA a)) (mag (LA b)))).natAbs < 10 ^ 26 := by
      have h1 := Nat.div_le_self (mag (LA a)) (Nat.gcd (mag (LA a)) (mag (LA b)))
      rw [val_natAbs] at la
      generalize mag (LA a) / Nat.gcd (mag (LA a)) (mag (LA b)) = k at *
      unfold zval; split <;> omega
    have l2 : (zval false (mag (LA b) / Nat.gcd (mag (LA a)) (mag (LA b)))).natAbs < 10 ^ 26 := by
      have h1 := Nat.div_le_self (mag (LA b)) (Nat.gcd (mag (LA a)) (mag (LA b)))
      rw [val_natAbs] at lb
      generalize mag (LA b) / Nat.gcd (mag (LA a)) (mag (LA b)) = k at *
      unfold zval; simp; omega
    obtain ⟨x, hxx, hvx, hzx, hwx⟩ := named _ 26 l1
    obtain ⟨y, hxy, hvy, hzy, hwy⟩ := named _ 26 l2
    have hgp := Nat.pos_of_ne_zero hg0
    have hmx : mag (LA x) = mag (LA a) / Nat.gcd (mag (LA a)) (mag (LA b)) := by rw [← val_natAbs, hvx.out, zval_natAbs]
    have hmy : mag (LA y) = mag (LA b) / Nat.gcd (mag (LA a)) (mag (LA b)) := by rw [← val_natAbs, hvy.out, zval_natAbs]
    have g1 : Hid (BA (text ((Nat.gcd (mag (LA x)) (mag (LA y)) : Nat) : Int)) = ⟨#[49]⟩) := by
      show _ = _
      rw [hmx, hmy, Nat.gcd_div_gcd_div_gcd_of_pos_right (Nat.pos_of_ne_zero h0)]
      rfl
    have hprod : Hid (val (LA x) * val (LA b) = val (LA a) * val (LA y)) := by
      show _ = _
      rw [hvx.out, hvy.out, val_eq, val_eq, ← zval_mul, ← zval_mul, Nat.div_mul_right_comm (Nat.gcd_dvd_left _ _), Nat.mul_div_assoc _ (Nat.gcd_dvd_right _ _)]
      congr 1
      cases neg (LA a) <;> cases neg (LA b) <;> rfl
    have hm := Lib.hid h0
    replace hvb := Lib.hid hvb
    clear h0 la lb l1 l2 hg0 hgp hmx hmy
    go_enter Tryd.func10, Tryd.ntmps10
    go_wp2_with fail
    refine (first_any _).mono ?_
    rintro e w1 ⟨rfl, hB1⟩
    go_wp2_with fail
    refine (reduce_pos a b _ (by omega) (by omega) hm.out).mono ?_
    rintro e w2 ⟨rfl, hb2⟩
    have hB2 := chain hB1 hb2
    rw [hxx.out, hxy.out]
    go_wp2_with fail
    refine (reduceR_pos a b _ (by omega) (by omega) hm.out).mono ?_
    rintro e w3 ⟨rfl, hb3⟩
    have hB3 := chain hB2 hb3
    rw [hxx.out, hxy.out]
    go_wp2_with fail
    refine (gcd_any x y _ (by omega) (by omega)).mono ?_
    rintro e w4 ⟨rfl, hb4⟩
    have hB4 := chain hB3 hb4
    rw [g1.out]
    go_wp2_with fail
    refine (validR b _ (by unfold maxLen; omega)).mono ?_
    rintro e w5 ⟨rfl, rfl⟩
    rw [hvb.out]
    go_wp2_with fail
    refine (multiply_any x b _ (by omega) (by omega)).mono ?_
    rintro e w5 ⟨rfl, hb5⟩
    have hB5 := chain hB4 hb5
    rw [hprod.out]
    go_wp2_with fail
    refine (multiply_any a y _ (by omega) (by omega)).mono ?_
    rintro e w6 ⟨rfl, hb6⟩
    have hB6 := chain hB5 hb6
    go_wp2
    go_ret
    exact ⟨rfl, hB6⟩

end Go.Proofs.YtclniebhgfodfaaDoor
