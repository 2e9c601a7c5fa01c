/- The walk of NumberSums. -/
import Derived.Test.YtclniebhgfodfaaDoorChain
namespace Go.Proofs.YtclniebhgfodfaaDoor
open Go Go.RowKit
set_option linter.unusedVariables false

set_option maxHeartbeats 2000000 in
theorem sums_walk (a b : ByteArray) (w : World) (ha : a.size ≤ maxLen) (hb : b.size ≤ maxLen) :
    Calls Tryd.prog 5 #[.string a, .string b] w (RetV w (.bool true)) := by
  cases hok : sizesOk 60 [a, b] with
  | false =>
    go_enter Tryd.func5, Tryd.ntmps5
    go_wp2_with fail
    refine (first_any _).mono ?_
    rintro e w1 ⟨rfl, hB1⟩
    go_wp2_with fail
    refine (short_any [a, b] w1.heap.size 2 2 _ rfl (by decide) (string_cells w1 [a, b] _ rfl) (sizes2 ha hb)).mono ?_
    rintro e w2 ⟨rfl, rfl⟩
    rw [hok]
    go_wp2
    go_ret
    exact ⟨rfl, hB1.alloc hB1.size _⟩
  | true =>
    obtain ⟨ha6, hb6⟩ := sizesOk2 hok
    replace hok := Lib.hid hok
    go_enter Tryd.func5, Tryd.ntmps5
    go_wp2_with fail
    refine (first_any _).mono ?_
    rintro e w1 ⟨rfl, hB1⟩
    go_wp2_with fail
    refine (short_any [a, b] w1.heap.size 2 2 _ rfl (by decide) (string_cells w1 [a, b] _ rfl) (sizes2 ha hb)).mono ?_
    rintro e w2 ⟨rfl, rfl⟩
    rw [hok.out]
    have hB2 := hB1.alloc hB1.size (.cells ([a, b].map Value.string).toArray 9)
    go_wp2_with fail
    refine (compare_any a b _ (by omega) (by omega)).mono ?_
    rintro e w3 ⟨rfl, rfl⟩
    go_wp2_with fail
    refine (compareR a b _ (by omega) (by omega)).mono ?_
    rintro e w3 ⟨rfl, hb3⟩
    have hB3 := chain hB2 hb3
    go_wp2_with fail
    refine (negate_any a _ (by omega)).mono ?_
    rintro e w4 ⟨rfl, hb4⟩
    have hB4 := chain hB3 hb4
    go_wp2_with fail
    refine (negateR a _ (by omega)).mono ?_
    rintro e w5 ⟨rfl, hb5⟩
    have hB5 := chain hB4 hb5
    go_wp2_with fail
    refine (add_any a b _ (by omega) (by omega)).mono ?_
    rintro e w6 ⟨rfl, hb6⟩
    have hB6 := chain hB5 hb6
    go_wp2_with fail
    refine (addR a b _ (by omega) (by omega)).mono ?_
    rintro e w7 ⟨rfl, hb7⟩
    have hB7 := chain hB6 hb7
    go_wp2_with fail
    refine (subtract_any a b _ (by omega) (by omega)).mono ?_
    rintro e w8 ⟨rfl, hb8⟩
    have hB8 := chain hB7 hb8
    go_wp2_with fail
    refine (subtractR a b _ (by omega) (by omega)).mono ?_
    rintro e w9 ⟨rfl, hb9⟩
    have hB9 := chain hB8 hb9
    go_wp2
    go_ret
    exact ⟨rfl, hB9⟩

end Go.Proofs.YtclniebhgfodfaaDoor
