/- The walk of NumberQuotients. -/
import Derived.Test.YtclniebhgfodfaaDoorChain
namespace Go.Proofs.YtclniebhgfodfaaDoor
open Go Go.RowKit
set_option linter.unusedVariables false

set_option maxHeartbeats 2000000 in
theorem quotients_walk (a b : ByteArray) (w : World) (ha : a.size ≤ maxLen) (hb : b.size ≤ maxLen) :
    Calls Tryd.prog 7 #[.string a, .string b] w (RetV w (.bool true)) := by
  cases hok : sizesOk 60 [a, b] with
  | false =>
    go_enter Tryd.func7, Tryd.ntmps7
    go_wp2_with fail
    refine (first_any _).mono ?_
    rintro e w1 ⟨rfl, hB1⟩
    go_wp2_with fail
    refine (short_any [a, b] w1.heap.size 2 2 _ rfl (by decide) (string_cells w1 [a, b] _ rfl) (sizes2 ha hb)).mono ?_
    rintro e w2 ⟨rfl, rfl⟩
    rw [hok]
    go_wp2
    go_ret
    exact ⟨rfl, hB1.alloc hB1.size _⟩
  | true =>
    by_cases h0 : mag (LA b) = 0
    · replace h0 := Lib.hid h0
      obtain ⟨ha6, hb6⟩ := sizesOk2 hok
      replace hok := Lib.hid hok
      go_enter Tryd.func7, Tryd.ntmps7
      go_wp2_with fail
      refine (first_any _).mono ?_
      rintro e w1 ⟨rfl, hB1⟩
      go_wp2_with fail
      refine (short_any [a, b] w1.heap.size 2 2 _ rfl (by decide) (string_cells w1 [a, b] _ rfl) (sizes2 ha hb)).mono ?_
      rintro e w2 ⟨rfl, rfl⟩
      rw [hok.out]
      have hB2 := hB1.alloc hB1.size (.cells ([a, b].map Value.string).toArray 9)
      go_wp2_with fail
      refine (divide_zero a b _ (by omega) (by omega) h0.out).mono ?_
      rintro e w3 ⟨rfl, hb3⟩
      have hB3 := chain hB2 hb3
      go_wp2_with fail
      refine (divideR_zero a b _ (by omega) (by omega) h0.out).mono ?_
      rintro e w4 ⟨rfl, hb4⟩
      have hB4 := chain hB3 hb4
      go_wp2
      go_ret
      exact ⟨rfl, hB4⟩
    · replace h0 := Lib.hid h0
      obtain ⟨ha6, hb6⟩ := sizesOk2 hok
      replace hok := Lib.hid hok
      go_enter Tryd.func7, Tryd.ntmps7
      go_wp2_with fail
      refine (first_any _).mono ?_
      rintro e w1 ⟨rfl, hB1⟩
      go_wp2_with fail
      refine (short_any [a, b] w1.heap.size 2 2 _ rfl (by decide) (string_cells w1 [a, b] _ rfl) (sizes2 ha hb)).mono ?_
      rintro e w2 ⟨rfl, rfl⟩
      rw [hok.out]
      have hB2 := hB1.alloc hB1.size (.cells ([a, b].map Value.string).toArray 9)
      go_wp2_with fail
      refine (divide_any a b _ (by omega) (by omega) h0.out).mono ?_
      rintro e w3 ⟨rfl, hb3⟩
      have hB3 := chain hB2 hb3
      go_wp2_with fail
      refine (divideR a b _ (by omega) (by omega) h0.out).mono ?_
      rintro e w4 ⟨rfl, hb4⟩
      have hB4 := chain hB3 hb4
      go_wp2
      go_ret
      exact ⟨rfl, hB4⟩

end Go.Proofs.YtclniebhgfodfaaDoor
