/- The walk of NumberGcds. -/
import Derived.Test.YtclniebhgfodfaaDoorLawMath
namespace Go.Proofs.YtclniebhgfodfaaDoor
open Go Go.RowKit
set_option linter.unusedVariables false

set_option maxHeartbeats 2000000 in
theorem gcds_walk (a b : ByteArray) (w : World) (ha : a.size ≤ maxLen) (hb : b.size ≤ maxLen) :
    Calls Tryd.prog 9 #[.string a, .string b] w (RetV w (.bool true)) := by
  unfold maxLen at ha hb
  by_cases h25 : 25 < a.size
  · go_enter Tryd.func9, Tryd.ntmps9
    go_wp2_with fail
    refine (first_any _).mono ?_
    rintro e w1 ⟨rfl, hB1⟩
    go_wp2
    go_ret
    exact ⟨rfl, hB1⟩
  by_cases h26 : 25 < b.size
  · go_enter Tryd.func9, Tryd.ntmps9
    go_wp2_with fail
    refine (first_any _).mono ?_
    rintro e w1 ⟨rfl, hB1⟩
    go_wp2
    go_ret
    exact ⟨rfl, hB1⟩
  have hg := gcd_len (mag (LA a)) (mag (LA b))
  by_cases h0 : Nat.gcd (mag (LA a)) (mag (LA b)) = 0
  · have hgt : Hid (BA (text ((Nat.gcd (mag (LA a)) (mag (LA b)) : Nat) : Int)) = ⟨#[48]⟩) := by show _ = _; rw [h0]; rfl
    clear hg h0
    go_enter Tryd.func9, Tryd.ntmps9
    go_wp2_with fail
    refine (first_any _).mono ?_
    rintro e w1 ⟨rfl, hB1⟩
    go_wp2_with fail
    refine (gcd_any a b _ (by omega) (by omega)).mono ?_
    rintro e w2 ⟨rfl, hb2⟩
    have hB2 := chain hB1 hb2
    rw [hgt.out]
    go_wp2_with fail
    refine (gcdR a b _ (by omega) (by omega)).mono ?_
    rintro e w3 ⟨rfl, hb3⟩
    have hB3 := chain hB2 hb3
    rw [hgt.out]
    go_wp2
    go_ret
    exact ⟨rfl, hB3⟩
  · have lg : ((Nat.gcd (mag (LA a)) (mag (LA b)) : Nat) : Int).natAbs < 10 ^ 27 := by
      rw [Int.natAbs_natCast]
      have h1 := mag_bd a
      have h2 := mag_bd b
      by_cases hn : mag (LA a) = 0
      · rw [hn, Nat.gcd_zero_left]
        exact Nat.lt_of_lt_of_le h2 (Nat.pow_le_pow_right (by decide) (by omega))
      · exact Nat.lt_of_le_of_lt (Nat.gcd_le_left _ (Nat.pos_of_ne_zero hn)) (Nat.lt_of_lt_of_le h1 (Nat.pow_le_pow_right (by decide) (by omega)))
    obtain ⟨x, hxx, hvx, hzx, hwx⟩ := named ((Nat.gcd (mag (LA a)) (mag (LA b)) : Nat) : Int) 27 lg
    have hmx : Hid (mag (LA x) = Nat.gcd (mag (LA a)) (mag (LA b))) := by show _ = _; rw [← val_natAbs, hvx.out, Int.natAbs_natCast]
    have hx48 : (x.toList == [48]) = false := toList48n (fun h => h0 (by rw [← hmx.out, h]; decide))
    have hmx0 : Hid (mag (LA x) ≠ 0) := by show _ ≠ _; rw [hmx.out]; exact h0
    have r1 : Hid (drem (neg (LA a)) (mag (LA a)) (neg (LA x)) (mag (LA x)) = 0) := drem_divides (by rw [hmx.out]; exact Nat.mod_eq_zero_of_dvd (Nat.gcd_dvd_left _ _))
    have r2 : Hid (drem (neg (LA b)) (mag (LA b)) (neg (LA x)) (mag (LA x)) = 0) := drem_divides (by rw [hmx.out]; exact Nat.mod_eq_zero_of_dvd (Nat.gcd_dvd_right _ _))
    have tz : Hid (BA (text 0) = ⟨#[48]⟩) := by show _ = _; rfl
    clear lg hg h0
    go_enter Tryd.func9, Tryd.ntmps9
    go_wp2_with fail
    refine (first_any _).mono ?_
    rintro e w1 ⟨rfl, hB1⟩
    go_wp2_with fail
    refine (gcd_any a b _ (by omega) (by omega)).mono ?_
    rintro e w2 ⟨rfl, hb2⟩
    have hB2 := chain hB1 hb2
    rw [hxx.out]
    go_wp2_with fail
    refine (divide_any a x _ (by omega) (by omega) hmx0.out).mono ?_
    rintro e w3 ⟨rfl, hb3⟩
    have hB3 := chain hB2 hb3
    rw [r1.out, tz.out]
    go_wp2_with fail
    refine (divide_any b x _ (by omega) (by omega) hmx0.out).mono ?_
    rintro e w4 ⟨rfl, hb4⟩
    have hB4 := chain hB3 hb4
    rw [r2.out, tz.out]
    go_wp2_with fail
    refine (gcdR a b _ (by omega) (by omega)).mono ?_
    rintro e w5 ⟨rfl, hb5⟩
    have hB5 := chain hB4 hb5
    rw [hxx.out]
    go_wp2
    go_ret
    exact ⟨rfl, hB5⟩

end Go.Proofs.YtclniebhgfodfaaDoor
