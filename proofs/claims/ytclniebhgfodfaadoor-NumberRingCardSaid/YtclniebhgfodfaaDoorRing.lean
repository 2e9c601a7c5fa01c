/- The walk of NumberRing. -/
import Derived.Test.YtclniebhgfodfaaDoorChain
namespace Go.Proofs.YtclniebhgfodfaaDoor
open Go Go.RowKit
set_option linter.unusedVariables false

set_option maxHeartbeats 2000000 in
theorem ring_walk (a b c : ByteArray) (w : World) (ha : a.size ≤ maxLen) (hb : b.size ≤ maxLen) (hc : c.size ≤ maxLen) :
    Calls Tryd.prog 11 #[.string a, .string b, .string c] w (RetV w (.bool true)) := by
  cases hok : sizesOk 60 [a, b, c] with
  | false =>
    go_enter Tryd.func11, Tryd.ntmps11
    go_wp2_with fail
    refine (first_any _).mono ?_
    rintro e w1 ⟨rfl, hB1⟩
    go_wp2_with fail
    refine (short_any [a, b, c] w1.heap.size 3 3 _ rfl (by decide) (string_cells w1 [a, b, c] _ rfl) (sizes3 ha hb hc)).mono ?_
    rintro e w2 ⟨rfl, rfl⟩
    rw [hok]
    go_wp2
    go_ret
    exact ⟨rfl, hB1.alloc hB1.size _⟩
  | true =>
    obtain ⟨ha6, hb6, hc6⟩ := sizesOk3 hok
    replace hok := Lib.hid hok
    have ba := val_62 ha6
    have bb := val_62 hb6
    have bc := val_62 hc6
    obtain ⟨x1, hxx1, hvx1, hzx1, _⟩ := named (val (LA b) + val (LA c)) 62 (natAbs_add_lt bb bc)
    obtain ⟨x2, hxx2, hvx2, hzx2, _⟩ := named (val (LA a) + val (LA b)) 62 (natAbs_add_lt ba bb)
    obtain ⟨x3, hxx3, hvx3, hzx3, _⟩ := named (val (LA a) * val (LA b)) 122 (natAbs_mul_lt ba bb)
    obtain ⟨x4, hxx4, hvx4, hzx4, _⟩ := named (val (LA b) * val (LA c)) 122 (natAbs_mul_lt bb bc)
    obtain ⟨x5, hxx5, hvx5, hzx5, _⟩ := named (val (LA a) * val (LA c)) 122 (natAbs_mul_lt ba bc)
    clear ba bb bc
    go_enter Tryd.func11, Tryd.ntmps11
    go_wp2_with fail
    refine (first_any _).mono ?_
    rintro e w1 ⟨rfl, hB1⟩
    go_wp2_with fail
    refine (short_any [a, b, c] w1.heap.size 3 3 _ rfl (by decide) (string_cells w1 [a, b, c] _ rfl) (sizes3 ha hb hc)).mono ?_
    rintro e w2 ⟨rfl, rfl⟩
    rw [hok.out]
    have hB2 := hB1.alloc hB1.size (.cells ([a, b, c].map Value.string).toArray 9)
    go_wp2_with fail
    refine (add_any b c _ (by omega) (by omega)).mono ?_
    rintro e w3 ⟨rfl, hb3⟩
    have hB3 := chain hB2 hb3
    rw [hxx1.out]
    go_wp2_with fail
    refine (multiply_any a x1 _ (by omega) (by omega)).mono ?_
    rintro e w4 ⟨rfl, hb4⟩
    have hB4 := chain hB3 hb4
    rw [hvx1.out, Int.mul_add]
    go_wp2_with fail
    refine (add_any a b _ (by omega) (by omega)).mono ?_
    rintro e w5 ⟨rfl, hb5⟩
    have hB5 := chain hB4 hb5
    go_wp2_with fail
    refine (add_any b a _ (by omega) (by omega)).mono ?_
    rintro e w6 ⟨rfl, hb6⟩
    have hB6 := chain hB5 hb6
    rw [Int.add_comm (val (LA b)) (val (LA a))]
    go_wp2_with fail
    refine (multiply_any a b _ (by omega) (by omega)).mono ?_
    rintro e w7 ⟨rfl, hb7⟩
    have hB7 := chain hB6 hb7
    go_wp2_with fail
    refine (multiply_any b a _ (by omega) (by omega)).mono ?_
    rintro e w8 ⟨rfl, hb8⟩
    have hB8 := chain hB7 hb8
    rw [Int.mul_comm (val (LA b)) (val (LA a))]
    go_wp2_with fail
    refine (add_any a b _ (by omega) (by omega)).mono ?_
    rintro e w9 ⟨rfl, hb9⟩
    have hB9 := chain hB8 hb9
    rw [hxx2.out]
    go_wp2_with fail
    refine (add_any x2 c _ (by omega) (by omega)).mono ?_
    rintro e w10 ⟨rfl, hb10⟩
    have hB10 := chain hB9 hb10
    rw [hvx2.out, Int.add_assoc]
    go_wp2_with fail
    refine (add_any b c _ (by omega) (by omega)).mono ?_
    rintro e w11 ⟨rfl, hb11⟩
    have hB11 := chain hB10 hb11
    rw [hxx1.out]
    go_wp2_with fail
    refine (add_any a x1 _ (by omega) (by omega)).mono ?_
    rintro e w12 ⟨rfl, hb12⟩
    have hB12 := chain hB11 hb12
    rw [hvx1.out]
    go_wp2_with fail
    refine (multiply_any a b _ (by omega) (by omega)).mono ?_
    rintro e w13 ⟨rfl, hb13⟩
    have hB13 := chain hB12 hb13
    rw [hxx3.out]
    go_wp2_with fail
    refine (multiply_any x3 c _ (by omega) (by omega)).mono ?_
    rintro e w14 ⟨rfl, hb14⟩
    have hB14 := chain hB13 hb14
    rw [hvx3.out, Int.mul_assoc]
    go_wp2_with fail
    refine (multiply_any b c _ (by omega) (by omega)).mono ?_
    rintro e w15 ⟨rfl, hb15⟩
    have hB15 := chain hB14 hb15
    rw [hxx4.out]
    go_wp2_with fail
    refine (multiply_any a x4 _ (by omega) (by omega)).mono ?_
    rintro e w16 ⟨rfl, hb16⟩
    have hB16 := chain hB15 hb16
    rw [hvx4.out]
    go_wp2_with fail
    refine (multiply_any a b _ (by omega) (by omega)).mono ?_
    rintro e w17 ⟨rfl, hb17⟩
    have hB17 := chain hB16 hb17
    rw [hxx3.out]
    go_wp2_with fail
    refine (multiply_any a c _ (by omega) (by omega)).mono ?_
    rintro e w18 ⟨rfl, hb18⟩
    have hB18 := chain hB17 hb18
    rw [hxx5.out]
    go_wp2_with fail
    refine (add_any x3 x5 _ (by omega) (by omega)).mono ?_
    rintro e w19 ⟨rfl, hb19⟩
    have hB19 := chain hB18 hb19
    rw [hvx3.out, hvx5.out]
    go_wp2
    go_ret
    exact ⟨rfl, hB19⟩

end Go.Proofs.YtclniebhgfodfaaDoor
