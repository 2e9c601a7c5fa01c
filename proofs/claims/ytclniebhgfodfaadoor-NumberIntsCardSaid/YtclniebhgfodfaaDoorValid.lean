/- The walk of NumberValid. -/
import Derived.Test.YtclniebhgfodfaaDoorRefS
import Derived.Test.YtclniebhgfodfaaDoorChain
namespace Go.Proofs.YtclniebhgfodfaaDoor
open Go Go.RowKit
set_option linter.unusedVariables false

theorem sizes1 {a : ByteArray} {M : Nat} (ha : a.size ≤ M) : ∀ j (hj : j < [a].length), [a][j].size ≤ M := by
  intro j hj
  match j, hj with
  | 0, _ => exact ha
theorem sizesOk1 {a : ByteArray} (h : sizesOk 60 [a] = true) : a.size ≤ 60 := by
  unfold sizesOk at h
  simpa using h

set_option maxHeartbeats 2000000 in
theorem valid_walk (a : ByteArray) (w : World) (ha : a.size ≤ maxLen) :
    Calls Tryd.prog 3 #[.string a] w (RetV w (.bool true)) := by
  cases hok : sizesOk 60 [a] with
  | false =>
    go_enter Tryd.func3, Tryd.ntmps3
    go_wp2_with fail
    refine (first_any _).mono ?_
    rintro e w1 ⟨rfl, hB1⟩
    go_wp2_with fail
    refine (short_any [a] w1.heap.size 1 1 _ rfl (by decide) (string_cells w1 [a] _ rfl) (sizes1 ha)).mono ?_
    rintro e w2 ⟨rfl, rfl⟩
    rw [hok]
    go_wp2
    go_ret
    exact ⟨rfl, hB1.alloc hB1.size _⟩
  | true =>
    have ha6 := sizesOk1 hok
    replace hok := Lib.hid hok
    obtain ⟨X, hX⟩ : ∃ X, smallVal (LA a) = X := ⟨_, rfl⟩
    obtain ⟨Y, hY⟩ : ∃ Y, isSmall (LA a) = Y := ⟨_, rfl⟩
    obtain ⟨V, hV⟩ : ∃ V, valid (LA a) = V := ⟨_, rfl⟩
    replace hX := Lib.hid hX
    replace hY := Lib.hid hY
    replace hV := Lib.hid hV
    go_enter Tryd.func3, Tryd.ntmps3
    go_wp2_with fail
    refine (first_any _).mono ?_
    rintro e w1 ⟨rfl, hB1⟩
    go_wp2_with fail
    refine (short_any [a] w1.heap.size 1 1 _ rfl (by decide) (string_cells w1 [a] _ rfl) (sizes1 ha)).mono ?_
    rintro e w2 ⟨rfl, rfl⟩
    rw [hok.out]
    have hB2 := hB1.alloc hB1.size (.cells ([a].map Value.string).toArray 9)
    go_wp2_with fail
    refine (small_any a _ (by omega)).mono ?_
    rintro e w3 ⟨rfl, hb3⟩
    have hB3 := chain hB2 hb3
    rw [hX.out, hY.out]
    go_wp2_with fail
    refine (smallR a _ (by omega)).mono ?_
    rintro e w4 ⟨rfl, hb4⟩
    have hB4 := chain hB3 hb4
    rw [hX.out, hY.out]
    go_wp2_with fail
    refine (valid_any a _ (by unfold maxLen; omega)).mono ?_
    rintro e w5 ⟨rfl, rfl⟩
    rw [hV.out]
    go_wp2_with fail
    refine (validR a _ (by unfold maxLen; omega)).mono ?_
    rintro e w5 ⟨rfl, rfl⟩
    rw [hV.out]
    go_wp2_with fail
    refine (digits_any a _ (by omega)).mono ?_
    rintro e w5 ⟨rfl, rfl⟩
    go_wp2_with fail
    refine (digitsCountR a _ (by omega)).mono ?_
    rintro e w6 ⟨rfl, hb6⟩
    have hB6 := chain hB4 hb6
    go_wp2
    go_ret
    exact ⟨rfl, hB6⟩

end Go.Proofs.YtclniebhgfodfaaDoor
