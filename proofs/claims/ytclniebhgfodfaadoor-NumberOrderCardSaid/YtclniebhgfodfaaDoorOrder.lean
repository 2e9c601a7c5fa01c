/- The walk of NumberOrder. -/
import Derived.Test.YtclniebhgfodfaaDoorLawMath
namespace Go.Proofs.YtclniebhgfodfaaDoor
open Go Go.RowKit
set_option linter.unusedVariables false

theorem bytes_ne {s t : ByteArray} (h : s ≠ t) : (s.toList == t.toList) = false := by
  rw [Lib.toList_data, Lib.toList_data, beq_eq_false_iff_ne]
  exact fun e => h (bytes_eq e)
theorem ord_mul_pos {x y z : Int} (hz : 0 < z) : ordI (x * z) (y * z) = ordI x y := by
  rcases Int.lt_trichotomy x y with h | h | h
  · rw [ordI_lt h, ordI_lt (Int.mul_lt_mul_of_pos_right h hz)]
  · rw [ordI_eq h, h, ordI_eq rfl]
  · rw [ordI_gt h, ordI_gt (Int.mul_lt_mul_of_pos_right h hz)]
theorem ord_mul_neg {x y z : Int} (hz : z < 0) : ordI (x * z) (y * z) = ordI y x := by
  rcases Int.lt_trichotomy x y with h | h | h
  · rw [ordI_gt h, ordI_gt (Int.mul_lt_mul_of_neg_right h hz)]
  · rw [ordI_eq h.symm, h, ordI_eq rfl]
  · rw [ordI_lt h, ordI_lt (Int.mul_lt_mul_of_neg_right h hz)]
theorem ord_add (x y z : Int) : ordI (x + z) (y + z) = ordI x y := by
  rcases Int.lt_trichotomy x y with h | h | h
  · rw [ordI_lt h, ordI_lt (by omega)]
  · rw [ordI_eq h, h, ordI_eq rfl]
  · rw [ordI_gt h, ordI_gt (by omega)]

set_option maxHeartbeats 4000000 in
theorem order_ne (a b c : ByteArray) (w : World) (ha : a.size ≤ maxLen) (hb : b.size ≤ maxLen) (hc : c.size ≤ maxLen) (hok : Hid (sizesOk 60 [a, b, c] = true)) (hva : Hid (valid (LA a) = true)) (hvb : Hid (valid (LA b) = true)) (hvc : Hid (valid (LA c) = true)) (K S : Int)
    (hab : (a.toList == b.toList) = false) (o1 : Hid (ordI (val (LA a)) (val (LA b)) = K)) (o2 : Hid (ordI (val (LA c)) 0 = S)) (o3 : Hid (ordI (val (LA b)) (val (LA a)) = -K)) (o5 : Hid (ordI (val (LA a) * val (LA c)) (val (LA b) * val (LA c)) = K * S)) (hK : K = -1 ∨ K = 1) (hS : S = -1 ∨ S = 0 ∨ S = 1) :
    Calls Tryd.prog 12 #[.string a, .string b, .string c] w (RetV w (.bool true)) := by
  have v0 : Hid (val (LA ⟨#[48]⟩) = 0) := by show _ = _; decide
  have z0 : (⟨#[48]⟩ : ByteArray).size ≤ 400000000 := by decide
  have o4 : Hid (ordI (val (LA a) + val (LA c)) (val (LA b) + val (LA c)) = K) := by show _ = _; rw [ord_add, o1.out]
  obtain ⟨ha6, hb6, hc6⟩ := sizesOk3 hok.out
  have ba := val_62 ha6
  have bb := val_62 hb6
  have bc := val_62 hc6
  obtain ⟨x1, hxx1, hvx1, hzx1, hwx1⟩ := named (val (LA a) + val (LA c)) 62 (natAbs_add_lt ba bc)
  obtain ⟨x2, hxx2, hvx2, hzx2, hwx2⟩ := named (val (LA b) + val (LA c)) 62 (natAbs_add_lt bb bc)
  obtain ⟨x3, hxx3, hvx3, hzx3, hwx3⟩ := named (val (LA a) * val (LA c)) 122 (natAbs_mul_lt ba bc)
  obtain ⟨x4, hxx4, hvx4, hzx4, hwx4⟩ := named (val (LA b) * val (LA c)) 122 (natAbs_mul_lt bb bc)
  clear ba bb bc
  rcases hK with rfl | rfl <;> rcases hS with rfl | rfl | rfl
  · go_enter Tryd.func12, Tryd.ntmps12
    go_wp2_with fail
    refine (first_any _).mono ?_
    rintro e w1 ⟨rfl, hB1⟩
    go_wp2_with fail
    refine (short_any [a, b, c] w1.heap.size 3 3 _ rfl (by decide) (string_cells w1 [a, b, c] _ rfl) (sizes3 ha hb hc)).mono ?_
    rintro e w2 ⟨rfl, rfl⟩
    rw [hok.out]
    have hB2 := hB1.alloc hB1.size (.cells ([a, b, c].map Value.string).toArray 9)
    go_wp2_with fail
    refine (validR a _ (by unfold maxLen; omega)).mono ?_
    rintro e w3 ⟨rfl, rfl⟩
    rw [hva.out]
    go_wp2_with fail
    refine (validR b _ (by unfold maxLen; omega)).mono ?_
    rintro e w3 ⟨rfl, rfl⟩
    rw [hvb.out]
    go_wp2_with fail
    refine (validR c _ (by unfold maxLen; omega)).mono ?_
    rintro e w3 ⟨rfl, rfl⟩
    rw [hvc.out]
    go_wp2_with fail
    refine (compare_any a b _ (by omega) (by omega)).mono ?_
    rintro e w3 ⟨rfl, rfl⟩
    rw [o1.out]
    go_wp2_with fail
    refine (compare_any c ⟨#[48]⟩ _ (by omega) z0).mono ?_
    rintro e w3 ⟨rfl, rfl⟩
    rw [v0.out, o2.out]
    go_wp2_with fail
    refine (compare_any b a _ (by omega) (by omega)).mono ?_
    rintro e w3 ⟨rfl, rfl⟩
    rw [o3.out]
    go_wp2_with fail
    refine (add_any a c _ (by omega) (by omega)).mono ?_
    rintro e w3 ⟨rfl, hb3⟩
    have hB3 := chain hB2 hb3
    rw [hxx1.out]
    go_wp2_with fail
    refine (add_any b c _ (by omega) (by omega)).mono ?_
    rintro e w4 ⟨rfl, hb4⟩
    have hB4 := chain hB3 hb4
    rw [hxx2.out]
    go_wp2_with fail
    refine (compare_any x1 x2 _ (by omega) (by omega)).mono ?_
    rintro e w5 ⟨rfl, rfl⟩
    rw [hvx1.out, hvx2.out, o4.out]
    go_wp2_with fail
    refine (multiply_any a c _ (by omega) (by omega)).mono ?_
    rintro e w5 ⟨rfl, hb5⟩
    have hB5 := chain hB4 hb5
    rw [hxx3.out]
    go_wp2_with fail
    refine (multiply_any b c _ (by omega) (by omega)).mono ?_
    rintro e w6 ⟨rfl, hb6⟩
    have hB6 := chain hB5 hb6
    rw [hxx4.out]
    go_wp2_with fail
    refine (compare_any x3 x4 _ (by omega) (by omega)).mono ?_
    rintro e w7 ⟨rfl, rfl⟩
    rw [hvx3.out, hvx4.out, o5.out]
    go_wp2
    go_ret
    exact ⟨rfl, hB6⟩
  · go_enter Tryd.func12, Tryd.ntmps12
    go_wp2_with fail
    refine (first_any _).mono ?_
    rintro e w1 ⟨rfl, hB1⟩
    go_wp2_with fail
    refine (short_any [a, b, c] w1.heap.size 3 3 _ rfl (by decide) (string_cells w1 [a, b, c] _ rfl) (sizes3 ha hb hc)).mono ?_
    rintro e w2 ⟨rfl, rfl⟩
    rw [hok.out]
    have hB2 := hB1.alloc hB1.size (.cells ([a, b, c].map Value.string).toArray 9)
    go_wp2_with fail
    refine (validR a _ (by unfold maxLen; omega)).mono ?_
    rintro e w3 ⟨rfl, rfl⟩
    rw [hva.out]
    go_wp2_with fail
    refine (validR b _ (by unfold maxLen; omega)).mono ?_
    rintro e w3 ⟨rfl, rfl⟩
    rw [hvb.out]
    go_wp2_with fail
    refine (validR c _ (by unfold maxLen; omega)).mono ?_
    rintro e w3 ⟨rfl, rfl⟩
    rw [hvc.out]
    go_wp2_with fail
    refine (compare_any a b _ (by omega) (by omega)).mono ?_
    rintro e w3 ⟨rfl, rfl⟩
    rw [o1.out]
    go_wp2_with fail
    refine (compare_any c ⟨#[48]⟩ _ (by omega) z0).mono ?_
    rintro e w3 ⟨rfl, rfl⟩
    rw [v0.out, o2.out]
    go_wp2_with fail
    refine (compare_any b a _ (by omega) (by omega)).mono ?_
    rintro e w3 ⟨rfl, rfl⟩
    rw [o3.out]
    go_wp2_with fail
    refine (add_any a c _ (by omega) (by omega)).mono ?_
    rintro e w3 ⟨rfl, hb3⟩
    have hB3 := chain hB2 hb3
    rw [hxx1.out]
    go_wp2_with fail
    refine (add_any b c _ (by omega) (by omega)).mono ?_
    rintro e w4 ⟨rfl, hb4⟩
    have hB4 := chain hB3 hb4
    rw [hxx2.out]
    go_wp2_with fail
    refine (compare_any x1 x2 _ (by omega) (by omega)).mono ?_
    rintro e w5 ⟨rfl, rfl⟩
    rw [hvx1.out, hvx2.out, o4.out]
    go_wp2_with fail
    refine (multiply_any a c _ (by omega) (by omega)).mono ?_
    rintro e w5 ⟨rfl, hb5⟩
    have hB5 := chain hB4 hb5
    rw [hxx3.out]
    go_wp2_with fail
    refine (multiply_any b c _ (by omega) (by omega)).mono ?_
    rintro e w6 ⟨rfl, hb6⟩
    have hB6 := chain hB5 hb6
    rw [hxx4.out]
    go_wp2_with fail
    refine (compare_any x3 x4 _ (by omega) (by omega)).mono ?_
    rintro e w7 ⟨rfl, rfl⟩
    rw [hvx3.out, hvx4.out, o5.out]
    go_wp2
    go_ret
    exact ⟨rfl, hB6⟩
  · go_enter Tryd.func12, Tryd.ntmps12
    go_wp2_with fail
    refine (first_any _).mono ?_
    rintro e w1 ⟨rfl, hB1⟩
    go_wp2_with fail
    refine (short_any [a, b, c] w1.heap.size 3 3 _ rfl (by decide) (string_cells w1 [a, b, c] _ rfl) (sizes3 ha hb hc)).mono ?_
    rintro e w2 ⟨rfl, rfl⟩
    rw [hok.out]
    have hB2 := hB1.alloc hB1.size (.cells ([a, b, c].map Value.string).toArray 9)
    go_wp2_with fail
    refine (validR a _ (by unfold maxLen; omega)).mono ?_
    rintro e w3 ⟨rfl, rfl⟩
    rw [hva.out]
    go_wp2_with fail
    refine (validR b _ (by unfold maxLen; omega)).mono ?_
    rintro e w3 ⟨rfl, rfl⟩
    rw [hvb.out]
    go_wp2_with fail
    refine (validR c _ (by unfold maxLen; omega)).mono ?_
    rintro e w3 ⟨rfl, rfl⟩
    rw [hvc.out]
    go_wp2_with fail
    refine (compare_any a b _ (by omega) (by omega)).mono ?_
    rintro e w3 ⟨rfl, rfl⟩
    rw [o1.out]
    go_wp2_with fail
    refine (compare_any c ⟨#[48]⟩ _ (by omega) z0).mono ?_
    rintro e w3 ⟨rfl, rfl⟩
    rw [v0.out, o2.out]
    go_wp2_with fail
    refine (compare_any b a _ (by omega) (by omega)).mono ?_
    rintro e w3 ⟨rfl, rfl⟩
    rw [o3.out]
    go_wp2_with fail
    refine (add_any a c _ (by omega) (by omega)).mono ?_
    rintro e w3 ⟨rfl, hb3⟩
    have hB3 := chain hB2 hb3
    rw [hxx1.out]
    go_wp2_with fail
    refine (add_any b c _ (by omega) (by omega)).mono ?_
    rintro e w4 ⟨rfl, hb4⟩
    have hB4 := chain hB3 hb4
    rw [hxx2.out]
    go_wp2_with fail
    refine (compare_any x1 x2 _ (by omega) (by omega)).mono ?_
    rintro e w5 ⟨rfl, rfl⟩
    rw [hvx1.out, hvx2.out, o4.out]
    go_wp2_with fail
    refine (multiply_any a c _ (by omega) (by omega)).mono ?_
    rintro e w5 ⟨rfl, hb5⟩
    have hB5 := chain hB4 hb5
    rw [hxx3.out]
    go_wp2_with fail
    refine (multiply_any b c _ (by omega) (by omega)).mono ?_
    rintro e w6 ⟨rfl, hb6⟩
    have hB6 := chain hB5 hb6
    rw [hxx4.out]
    go_wp2_with fail
    refine (compare_any x3 x4 _ (by omega) (by omega)).mono ?_
    rintro e w7 ⟨rfl, rfl⟩
    rw [hvx3.out, hvx4.out, o5.out]
    go_wp2
    go_ret
    exact ⟨rfl, hB6⟩
  · go_enter Tryd.func12, Tryd.ntmps12
    go_wp2_with fail
    refine (first_any _).mono ?_
    rintro e w1 ⟨rfl, hB1⟩
    go_wp2_with fail
    refine (short_any [a, b, c] w1.heap.size 3 3 _ rfl (by decide) (string_cells w1 [a, b, c] _ rfl) (sizes3 ha hb hc)).mono ?_
    rintro e w2 ⟨rfl, rfl⟩
    rw [hok.out]
    have hB2 := hB1.alloc hB1.size (.cells ([a, b, c].map Value.string).toArray 9)
    go_wp2_with fail
    refine (validR a _ (by unfold maxLen; omega)).mono ?_
    rintro e w3 ⟨rfl, rfl⟩
    rw [hva.out]
    go_wp2_with fail
    refine (validR b _ (by unfold maxLen; omega)).mono ?_
    rintro e w3 ⟨rfl, rfl⟩
    rw [hvb.out]
    go_wp2_with fail
    refine (validR c _ (by unfold maxLen; omega)).mono ?_
    rintro e w3 ⟨rfl, rfl⟩
    rw [hvc.out]
    go_wp2_with fail
    refine (compare_any a b _ (by omega) (by omega)).mono ?_
    rintro e w3 ⟨rfl, rfl⟩
    rw [o1.out]
    go_wp2_with fail
    refine (compare_any c ⟨#[48]⟩ _ (by omega) z0).mono ?_
    rintro e w3 ⟨rfl, rfl⟩
    rw [v0.out, o2.out]
    go_wp2_with fail
    refine (compare_any b a _ (by omega) (by omega)).mono ?_
    rintro e w3 ⟨rfl, rfl⟩
    rw [o3.out]
    go_wp2_with fail
    refine (add_any a c _ (by omega) (by omega)).mono ?_
    rintro e w3 ⟨rfl, hb3⟩
    have hB3 := chain hB2 hb3
    rw [hxx1.out]
    go_wp2_with fail
    refine (add_any b c _ (by omega) (by omega)).mono ?_
    rintro e w4 ⟨rfl, hb4⟩
    have hB4 := chain hB3 hb4
    rw [hxx2.out]
    go_wp2_with fail
    refine (compare_any x1 x2 _ (by omega) (by omega)).mono ?_
    rintro e w5 ⟨rfl, rfl⟩
    rw [hvx1.out, hvx2.out, o4.out]
    go_wp2_with fail
    refine (multiply_any a c _ (by omega) (by omega)).mono ?_
    rintro e w5 ⟨rfl, hb5⟩
    have hB5 := chain hB4 hb5
    rw [hxx3.out]
    go_wp2_with fail
    refine (multiply_any b c _ (by omega) (by omega)).mono ?_
    rintro e w6 ⟨rfl, hb6⟩
    have hB6 := chain hB5 hb6
    rw [hxx4.out]
    go_wp2_with fail
    refine (compare_any x3 x4 _ (by omega) (by omega)).mono ?_
    rintro e w7 ⟨rfl, rfl⟩
    rw [hvx3.out, hvx4.out, o5.out]
    go_wp2
    go_ret
    exact ⟨rfl, hB6⟩
  · go_enter Tryd.func12, Tryd.ntmps12
    go_wp2_with fail
    refine (first_any _).mono ?_
    rintro e w1 ⟨rfl, hB1⟩
    go_wp2_with fail
    refine (short_any [a, b, c] w1.heap.size 3 3 _ rfl (by decide) (string_cells w1 [a, b, c] _ rfl) (sizes3 ha hb hc)).mono ?_
    rintro e w2 ⟨rfl, rfl⟩
    rw [hok.out]
    have hB2 := hB1.alloc hB1.size (.cells ([a, b, c].map Value.string).toArray 9)
    go_wp2_with fail
    refine (validR a _ (by unfold maxLen; omega)).mono ?_
    rintro e w3 ⟨rfl, rfl⟩
    rw [hva.out]
    go_wp2_with fail
    refine (validR b _ (by unfold maxLen; omega)).mono ?_
    rintro e w3 ⟨rfl, rfl⟩
    rw [hvb.out]
    go_wp2_with fail
    refine (validR c _ (by unfold maxLen; omega)).mono ?_
    rintro e w3 ⟨rfl, rfl⟩
    rw [hvc.out]
    go_wp2_with fail
    refine (compare_any a b _ (by omega) (by omega)).mono ?_
    rintro e w3 ⟨rfl, rfl⟩
    rw [o1.out]
    go_wp2_with fail
    refine (compare_any c ⟨#[48]⟩ _ (by omega) z0).mono ?_
    rintro e w3 ⟨rfl, rfl⟩
    rw [v0.out, o2.out]
    go_wp2_with fail
    refine (compare_any b a _ (by omega) (by omega)).mono ?_
    rintro e w3 ⟨rfl, rfl⟩
    rw [o3.out]
    go_wp2_with fail
    refine (add_any a c _ (by omega) (by omega)).mono ?_
    rintro e w3 ⟨rfl, hb3⟩
    have hB3 := chain hB2 hb3
    rw [hxx1.out]
    go_wp2_with fail
    refine (add_any b c _ (by omega) (by omega)).mono ?_
    rintro e w4 ⟨rfl, hb4⟩
    have hB4 := chain hB3 hb4
    rw [hxx2.out]
    go_wp2_with fail
    refine (compare_any x1 x2 _ (by omega) (by omega)).mono ?_
    rintro e w5 ⟨rfl, rfl⟩
    rw [hvx1.out, hvx2.out, o4.out]
    go_wp2_with fail
    refine (multiply_any a c _ (by omega) (by omega)).mono ?_
    rintro e w5 ⟨rfl, hb5⟩
    have hB5 := chain hB4 hb5
    rw [hxx3.out]
    go_wp2_with fail
    refine (multiply_any b c _ (by omega) (by omega)).mono ?_
    rintro e w6 ⟨rfl, hb6⟩
    have hB6 := chain hB5 hb6
    rw [hxx4.out]
    go_wp2_with fail
    refine (compare_any x3 x4 _ (by omega) (by omega)).mono ?_
    rintro e w7 ⟨rfl, rfl⟩
    rw [hvx3.out, hvx4.out, o5.out]
    go_wp2
    go_ret
    exact ⟨rfl, hB6⟩
  · go_enter Tryd.func12, Tryd.ntmps12
    go_wp2_with fail
    refine (first_any _).mono ?_
    rintro e w1 ⟨rfl, hB1⟩
    go_wp2_with fail
    refine (short_any [a, b, c] w1.heap.size 3 3 _ rfl (by decide) (string_cells w1 [a, b, c] _ rfl) (sizes3 ha hb hc)).mono ?_
    rintro e w2 ⟨rfl, rfl⟩
    rw [hok.out]
    have hB2 := hB1.alloc hB1.size (.cells ([a, b, c].map Value.string).toArray 9)
    go_wp2_with fail
    refine (validR a _ (by unfold maxLen; omega)).mono ?_
    rintro e w3 ⟨rfl, rfl⟩
    rw [hva.out]
    go_wp2_with fail
    refine (validR b _ (by unfold maxLen; omega)).mono ?_
    rintro e w3 ⟨rfl, rfl⟩
    rw [hvb.out]
    go_wp2_with fail
    refine (validR c _ (by unfold maxLen; omega)).mono ?_
    rintro e w3 ⟨rfl, rfl⟩
    rw [hvc.out]
    go_wp2_with fail
    refine (compare_any a b _ (by omega) (by omega)).mono ?_
    rintro e w3 ⟨rfl, rfl⟩
    rw [o1.out]
    go_wp2_with fail
    refine (compare_any c ⟨#[48]⟩ _ (by omega) z0).mono ?_
    rintro e w3 ⟨rfl, rfl⟩
    rw [v0.out, o2.out]
    go_wp2_with fail
    refine (compare_any b a _ (by omega) (by omega)).mono ?_
    rintro e w3 ⟨rfl, rfl⟩
    rw [o3.out]
    go_wp2_with fail
    refine (add_any a c _ (by omega) (by omega)).mono ?_
    rintro e w3 ⟨rfl, hb3⟩
    have hB3 := chain hB2 hb3
    rw [hxx1.out]
    go_wp2_with fail
    refine (add_any b c _ (by omega) (by omega)).mono ?_
    rintro e w4 ⟨rfl, hb4⟩
    have hB4 := chain hB3 hb4
    rw [hxx2.out]
    go_wp2_with fail
    refine (compare_any x1 x2 _ (by omega) (by omega)).mono ?_
    rintro e w5 ⟨rfl, rfl⟩
    rw [hvx1.out, hvx2.out, o4.out]
    go_wp2_with fail
    refine (multiply_any a c _ (by omega) (by omega)).mono ?_
    rintro e w5 ⟨rfl, hb5⟩
    have hB5 := chain hB4 hb5
    rw [hxx3.out]
    go_wp2_with fail
    refine (multiply_any b c _ (by omega) (by omega)).mono ?_
    rintro e w6 ⟨rfl, hb6⟩
    have hB6 := chain hB5 hb6
    rw [hxx4.out]
    go_wp2_with fail
    refine (compare_any x3 x4 _ (by omega) (by omega)).mono ?_
    rintro e w7 ⟨rfl, rfl⟩
    rw [hvx3.out, hvx4.out, o5.out]
    go_wp2
    go_ret
    exact ⟨rfl, hB6⟩

set_option maxHeartbeats 4000000 in
theorem order_eq (a b c : ByteArray) (w : World) (ha : a.size ≤ maxLen) (hb : b.size ≤ maxLen) (hc : c.size ≤ maxLen) (hok : Hid (sizesOk 60 [a, b, c] = true)) (hva : Hid (valid (LA a) = true)) (hvb : Hid (valid (LA b) = true)) (hvc : Hid (valid (LA c) = true)) (K S : Int)
    (hab : (a.toList == b.toList) = true) (o1 : Hid (ordI (val (LA a)) (val (LA b)) = K)) (o2 : Hid (ordI (val (LA c)) 0 = S)) (o3 : Hid (ordI (val (LA b)) (val (LA a)) = -K)) (o5 : Hid (ordI (val (LA a) * val (LA c)) (val (LA b) * val (LA c)) = K * S)) (hK : K = 0) (hS : S = -1 ∨ S = 0 ∨ S = 1) :
    Calls Tryd.prog 12 #[.string a, .string b, .string c] w (RetV w (.bool true)) := by
  have v0 : Hid (val (LA ⟨#[48]⟩) = 0) := by show _ = _; decide
  have z0 : (⟨#[48]⟩ : ByteArray).size ≤ 400000000 := by decide
  have o4 : Hid (ordI (val (LA a) + val (LA c)) (val (LA b) + val (LA c)) = K) := by show _ = _; rw [ord_add, o1.out]
  obtain ⟨ha6, hb6, hc6⟩ := sizesOk3 hok.out
  have ba := val_62 ha6
  have bb := val_62 hb6
  have bc := val_62 hc6
  obtain ⟨x1, hxx1, hvx1, hzx1, hwx1⟩ := named (val (LA a) + val (LA c)) 62 (natAbs_add_lt ba bc)
  obtain ⟨x2, hxx2, hvx2, hzx2, hwx2⟩ := named (val (LA b) + val (LA c)) 62 (natAbs_add_lt bb bc)
  obtain ⟨x3, hxx3, hvx3, hzx3, hwx3⟩ := named (val (LA a) * val (LA c)) 122 (natAbs_mul_lt ba bc)
  obtain ⟨x4, hxx4, hvx4, hzx4, hwx4⟩ := named (val (LA b) * val (LA c)) 122 (natAbs_mul_lt bb bc)
  clear ba bb bc
  subst hK
  rcases hS with rfl | rfl | rfl
  · go_enter Tryd.func12, Tryd.ntmps12
    go_wp2_with fail
    refine (first_any _).mono ?_
    rintro e w1 ⟨rfl, hB1⟩
    go_wp2_with fail
    refine (short_any [a, b, c] w1.heap.size 3 3 _ rfl (by decide) (string_cells w1 [a, b, c] _ rfl) (sizes3 ha hb hc)).mono ?_
    rintro e w2 ⟨rfl, rfl⟩
    rw [hok.out]
    have hB2 := hB1.alloc hB1.size (.cells ([a, b, c].map Value.string).toArray 9)
    go_wp2_with fail
    refine (validR a _ (by unfold maxLen; omega)).mono ?_
    rintro e w3 ⟨rfl, rfl⟩
    rw [hva.out]
    go_wp2_with fail
    refine (validR b _ (by unfold maxLen; omega)).mono ?_
    rintro e w3 ⟨rfl, rfl⟩
    rw [hvb.out]
    go_wp2_with fail
    refine (validR c _ (by unfold maxLen; omega)).mono ?_
    rintro e w3 ⟨rfl, rfl⟩
    rw [hvc.out]
    go_wp2_with fail
    refine (compare_any a b _ (by omega) (by omega)).mono ?_
    rintro e w3 ⟨rfl, rfl⟩
    rw [o1.out]
    go_wp2_with fail
    refine (compare_any c ⟨#[48]⟩ _ (by omega) z0).mono ?_
    rintro e w3 ⟨rfl, rfl⟩
    rw [v0.out, o2.out]
    go_wp2_with fail
    refine (compare_any b a _ (by omega) (by omega)).mono ?_
    rintro e w3 ⟨rfl, rfl⟩
    rw [o3.out]
    go_wp2_with fail
    refine (add_any a c _ (by omega) (by omega)).mono ?_
    rintro e w3 ⟨rfl, hb3⟩
    have hB3 := chain hB2 hb3
    rw [hxx1.out]
    go_wp2_with fail
    refine (add_any b c _ (by omega) (by omega)).mono ?_
    rintro e w4 ⟨rfl, hb4⟩
    have hB4 := chain hB3 hb4
    rw [hxx2.out]
    go_wp2_with fail
    refine (compare_any x1 x2 _ (by omega) (by omega)).mono ?_
    rintro e w5 ⟨rfl, rfl⟩
    rw [hvx1.out, hvx2.out, o4.out]
    go_wp2_with fail
    refine (multiply_any a c _ (by omega) (by omega)).mono ?_
    rintro e w5 ⟨rfl, hb5⟩
    have hB5 := chain hB4 hb5
    rw [hxx3.out]
    go_wp2_with fail
    refine (multiply_any b c _ (by omega) (by omega)).mono ?_
    rintro e w6 ⟨rfl, hb6⟩
    have hB6 := chain hB5 hb6
    rw [hxx4.out]
    go_wp2_with fail
    refine (compare_any x3 x4 _ (by omega) (by omega)).mono ?_
    rintro e w7 ⟨rfl, rfl⟩
    rw [hvx3.out, hvx4.out, o5.out]
    go_wp2
    go_ret
    exact ⟨rfl, hB6⟩
  · go_enter Tryd.func12, Tryd.ntmps12
    go_wp2_with fail
    refine (first_any _).mono ?_
    rintro e w1 ⟨rfl, hB1⟩
    go_wp2_with fail
    refine (short_any [a, b, c] w1.heap.size 3 3 _ rfl (by decide) (string_cells w1 [a, b, c] _ rfl) (sizes3 ha hb hc)).mono ?_
    rintro e w2 ⟨rfl, rfl⟩
    rw [hok.out]
    have hB2 := hB1.alloc hB1.size (.cells ([a, b, c].map Value.string).toArray 9)
    go_wp2_with fail
    refine (validR a _ (by unfold maxLen; omega)).mono ?_
    rintro e w3 ⟨rfl, rfl⟩
    rw [hva.out]
    go_wp2_with fail
    refine (validR b _ (by unfold maxLen; omega)).mono ?_
    rintro e w3 ⟨rfl, rfl⟩
    rw [hvb.out]
    go_wp2_with fail
    refine (validR c _ (by unfold maxLen; omega)).mono ?_
    rintro e w3 ⟨rfl, rfl⟩
    rw [hvc.out]
    go_wp2_with fail
    refine (compare_any a b _ (by omega) (by omega)).mono ?_
    rintro e w3 ⟨rfl, rfl⟩
    rw [o1.out]
    go_wp2_with fail
    refine (compare_any c ⟨#[48]⟩ _ (by omega) z0).mono ?_
    rintro e w3 ⟨rfl, rfl⟩
    rw [v0.out, o2.out]
    go_wp2_with fail
    refine (compare_any b a _ (by omega) (by omega)).mono ?_
    rintro e w3 ⟨rfl, rfl⟩
    rw [o3.out]
    go_wp2_with fail
    refine (add_any a c _ (by omega) (by omega)).mono ?_
    rintro e w3 ⟨rfl, hb3⟩
    have hB3 := chain hB2 hb3
    rw [hxx1.out]
    go_wp2_with fail
    refine (add_any b c _ (by omega) (by omega)).mono ?_
    rintro e w4 ⟨rfl, hb4⟩
    have hB4 := chain hB3 hb4
    rw [hxx2.out]
    go_wp2_with fail
    refine (compare_any x1 x2 _ (by omega) (by omega)).mono ?_
    rintro e w5 ⟨rfl, rfl⟩
    rw [hvx1.out, hvx2.out, o4.out]
    go_wp2_with fail
    refine (multiply_any a c _ (by omega) (by omega)).mono ?_
    rintro e w5 ⟨rfl, hb5⟩
    have hB5 := chain hB4 hb5
    rw [hxx3.out]
    go_wp2_with fail
    refine (multiply_any b c _ (by omega) (by omega)).mono ?_
    rintro e w6 ⟨rfl, hb6⟩
    have hB6 := chain hB5 hb6
    rw [hxx4.out]
    go_wp2_with fail
    refine (compare_any x3 x4 _ (by omega) (by omega)).mono ?_
    rintro e w7 ⟨rfl, rfl⟩
    rw [hvx3.out, hvx4.out, o5.out]
    go_wp2
    go_ret
    exact ⟨rfl, hB6⟩
  · go_enter Tryd.func12, Tryd.ntmps12
    go_wp2_with fail
    refine (first_any _).mono ?_
    rintro e w1 ⟨rfl, hB1⟩
    go_wp2_with fail
    refine (short_any [a, b, c] w1.heap.size 3 3 _ rfl (by decide) (string_cells w1 [a, b, c] _ rfl) (sizes3 ha hb hc)).mono ?_
    rintro e w2 ⟨rfl, rfl⟩
    rw [hok.out]
    have hB2 := hB1.alloc hB1.size (.cells ([a, b, c].map Value.string).toArray 9)
    go_wp2_with fail
    refine (validR a _ (by unfold maxLen; omega)).mono ?_
    rintro e w3 ⟨rfl, rfl⟩
    rw [hva.out]
    go_wp2_with fail
    refine (validR b _ (by unfold maxLen; omega)).mono ?_
    rintro e w3 ⟨rfl, rfl⟩
    rw [hvb.out]
    go_wp2_with fail
    refine (validR c _ (by unfold maxLen; omega)).mono ?_
    rintro e w3 ⟨rfl, rfl⟩
    rw [hvc.out]
    go_wp2_with fail
    refine (compare_any a b _ (by omega) (by omega)).mono ?_
    rintro e w3 ⟨rfl, rfl⟩
    rw [o1.out]
    go_wp2_with fail
    refine (compare_any c ⟨#[48]⟩ _ (by omega) z0).mono ?_
    rintro e w3 ⟨rfl, rfl⟩
    rw [v0.out, o2.out]
    go_wp2_with fail
    refine (compare_any b a _ (by omega) (by omega)).mono ?_
    rintro e w3 ⟨rfl, rfl⟩
    rw [o3.out]
    go_wp2_with fail
    refine (add_any a c _ (by omega) (by omega)).mono ?_
    rintro e w3 ⟨rfl, hb3⟩
    have hB3 := chain hB2 hb3
    rw [hxx1.out]
    go_wp2_with fail
    refine (add_any b c _ (by omega) (by omega)).mono ?_
    rintro e w4 ⟨rfl, hb4⟩
    have hB4 := chain hB3 hb4
    rw [hxx2.out]
    go_wp2_with fail
    refine (compare_any x1 x2 _ (by omega) (by omega)).mono ?_
    rintro e w5 ⟨rfl, rfl⟩
    rw [hvx1.out, hvx2.out, o4.out]
    go_wp2_with fail
    refine (multiply_any a c _ (by omega) (by omega)).mono ?_
    rintro e w5 ⟨rfl, hb5⟩
    have hB5 := chain hB4 hb5
    rw [hxx3.out]
    go_wp2_with fail
    refine (multiply_any b c _ (by omega) (by omega)).mono ?_
    rintro e w6 ⟨rfl, hb6⟩
    have hB6 := chain hB5 hb6
    rw [hxx4.out]
    go_wp2_with fail
    refine (compare_any x3 x4 _ (by omega) (by omega)).mono ?_
    rintro e w7 ⟨rfl, rfl⟩
    rw [hvx3.out, hvx4.out, o5.out]
    go_wp2
    go_ret
    exact ⟨rfl, hB6⟩

theorem order_main (a b c : ByteArray) (w : World) (ha : a.size ≤ maxLen) (hb : b.size ≤ maxLen) (hc : c.size ≤ maxLen) (hok : sizesOk 60 [a, b, c] = true) (hva : valid (LA a) = true) (hvb : valid (LA b) = true) (hvc : valid (LA c) = true) :
    Calls Tryd.prog 12 #[.string a, .string b, .string c] w (RetV w (.bool true)) := by
  have hS : ordI (val (LA c)) 0 = -1 ∨ ordI (val (LA c)) 0 = 0 ∨ ordI (val (LA c)) 0 = 1 := by
    rcases Int.lt_trichotomy (val (LA c)) 0 with h | h | h
    · exact .inl (ordI_lt h)
    · exact .inr (.inl (ordI_eq h))
    · exact .inr (.inr (ordI_gt h))
  have h5 : ordI (val (LA a) * val (LA c)) (val (LA b) * val (LA c)) = ordI (val (LA a)) (val (LA b)) * ordI (val (LA c)) 0 := by
    rcases Int.lt_trichotomy (val (LA c)) 0 with h | h | h
    · rw [ord_mul_neg h, ordI_lt h]
      rcases Int.lt_trichotomy (val (LA a)) (val (LA b)) with g | g | g
      · rw [ordI_gt g, ordI_lt g]; rfl
      · rw [ordI_eq g, ordI_eq g.symm]; rfl
      · rw [ordI_lt g, ordI_gt g]; rfl
    · rw [h, Int.mul_zero, Int.mul_zero, ordI_eq rfl, Int.mul_zero]
    · rw [ord_mul_pos h, ordI_gt h, Int.mul_one]
  have h3 : ordI (val (LA b)) (val (LA a)) = -ordI (val (LA a)) (val (LA b)) := by
    rcases Int.lt_trichotomy (val (LA a)) (val (LA b)) with g | g | g
    · rw [ordI_gt g, ordI_lt g]; rfl
    · rw [ordI_eq g, ordI_eq g.symm]; rfl
    · rw [ordI_lt g, ordI_gt g]
  by_cases hab : val (LA a) = val (LA b)
  · have hab2 := val_inj hva hvb hab
    have e : (a.toList == b.toList) = true := by rw [hab2]; simp
    exact order_eq a b c w ha hb hc hok hva hvb hvc _ _ e rfl rfl h3 h5 (ordI_eq hab) hS
  · have e := bytes_ne (s := a) (t := b) (fun h => hab (by rw [h]))
    have hK : ordI (val (LA a)) (val (LA b)) = -1 ∨ ordI (val (LA a)) (val (LA b)) = 1 := by
      rcases Int.lt_trichotomy (val (LA a)) (val (LA b)) with g | g | g
      · exact .inl (ordI_lt g)
      · exact absurd g hab
      · exact .inr (ordI_gt g)
    exact order_ne a b c w ha hb hc hok hva hvb hvc _ _ e rfl rfl h3 h5 hK hS

set_option maxHeartbeats 2000000 in
theorem order_walk (a b c : ByteArray) (w : World) (ha : a.size ≤ maxLen) (hb : b.size ≤ maxLen) (hc : c.size ≤ maxLen) :
    Calls Tryd.prog 12 #[.string a, .string b, .string c] w (RetV w (.bool true)) := by
  have v0 : Hid (val (LA ⟨#[48]⟩) = 0) := by show _ = _; decide
  have z0 : (⟨#[48]⟩ : ByteArray).size ≤ 400000000 := by decide
  cases hok : sizesOk 60 [a, b, c] with
  | false =>
    go_enter Tryd.func12, Tryd.ntmps12
    go_wp2_with fail
    refine (first_any _).mono ?_
    rintro e w1 ⟨rfl, hB1⟩
    go_wp2_with fail
    refine (short_any [a, b, c] w1.heap.size 3 3 _ rfl (by decide) (string_cells w1 [a, b, c] _ rfl) (sizes3 ha hb hc)).mono ?_
    rintro e w2 ⟨rfl, rfl⟩
    rw [hok]
    go_wp2
    go_ret
    exact ⟨rfl, hB1.alloc hB1.size _⟩
  | true =>
    cases hva : valid (LA a) with
    | false =>
      replace hva := Lib.hid hva
      obtain ⟨ha6, hb6, hc6⟩ := sizesOk3 hok
      replace hok := Lib.hid hok
      go_enter Tryd.func12, Tryd.ntmps12
      go_wp2_with fail
      refine (first_any _).mono ?_
      rintro e w1 ⟨rfl, hB1⟩
      go_wp2_with fail
      refine (short_any [a, b, c] w1.heap.size 3 3 _ rfl (by decide) (string_cells w1 [a, b, c] _ rfl) (sizes3 ha hb hc)).mono ?_
      rintro e w2 ⟨rfl, rfl⟩
      rw [hok.out]
      have hB2 := hB1.alloc hB1.size (.cells ([a, b, c].map Value.string).toArray 9)
      go_wp2_with fail
      refine (validR a _ (by unfold maxLen; omega)).mono ?_
      rintro e w3 ⟨rfl, rfl⟩
      rw [hva.out]
      go_wp2
      go_ret
      exact ⟨rfl, hB2⟩
    | true =>
      cases hvb : valid (LA b) with
      | false =>
        replace hva := Lib.hid hva
        replace hvb := Lib.hid hvb
        obtain ⟨ha6, hb6, hc6⟩ := sizesOk3 hok
        replace hok := Lib.hid hok
        go_enter Tryd.func12, Tryd.ntmps12
        go_wp2_with fail
        refine (first_any _).mono ?_
        rintro e w1 ⟨rfl, hB1⟩
        go_wp2_with fail
        refine (short_any [a, b, c] w1.heap.size 3 3 _ rfl (by decide) (string_cells w1 [a, b, c] _ rfl) (sizes3 ha hb hc)).mono ?_
        rintro e w2 ⟨rfl, rfl⟩
        rw [hok.out]
        have hB2 := hB1.alloc hB1.size (.cells ([a, b, c].map Value.string).toArray 9)
        go_wp2_with fail
        refine (validR a _ (by unfold maxLen; omega)).mono ?_
        rintro e w3 ⟨rfl, rfl⟩
        rw [hva.out]
        go_wp2_with fail
        refine (validR b _ (by unfold maxLen; omega)).mono ?_
        rintro e w3 ⟨rfl, rfl⟩
        rw [hvb.out]
        go_wp2
        go_ret
        exact ⟨rfl, hB2⟩
      | true =>
        cases hvc : valid (LA c) with
        | false =>
          replace hva := Lib.hid hva
          replace hvb := Lib.hid hvb
          replace hvc := Lib.hid hvc
          obtain ⟨ha6, hb6, hc6⟩ := sizesOk3 hok
          replace hok := Lib.hid hok
          go_enter Tryd.func12, Tryd.ntmps12
          go_wp2_with fail
          refine (first_any _).mono ?_
          rintro e w1 ⟨rfl, hB1⟩
          go_wp2_with fail
          refine (short_any [a, b, c] w1.heap.size 3 3 _ rfl (by decide) (string_cells w1 [a, b, c] _ rfl) (sizes3 ha hb hc)).mono ?_
          rintro e w2 ⟨rfl, rfl⟩
          rw [hok.out]
          have hB2 := hB1.alloc hB1.size (.cells ([a, b, c].map Value.string).toArray 9)
          go_wp2_with fail
          refine (validR a _ (by unfold maxLen; omega)).mono ?_
          rintro e w3 ⟨rfl, rfl⟩
          rw [hva.out]
          go_wp2_with fail
          refine (validR b _ (by unfold maxLen; omega)).mono ?_
          rintro e w3 ⟨rfl, rfl⟩
          rw [hvb.out]
          go_wp2_with fail
          refine (validR c _ (by unfold maxLen; omega)).mono ?_
          rintro e w3 ⟨rfl, rfl⟩
          rw [hvc.out]
          go_wp2
          go_ret
          exact ⟨rfl, hB2⟩
        | true =>
          exact order_main a b c w ha hb hc hok hva hvb hvc

end Go.Proofs.YtclniebhgfodfaaDoor
