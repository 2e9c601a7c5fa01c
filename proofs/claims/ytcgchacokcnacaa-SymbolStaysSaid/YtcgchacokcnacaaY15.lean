/- SymbolNames: the walk. -/
import Derived.Test.YtcgchacokcnacaaY14
namespace Go.Proofs.Ytcgchacokcnacaa
open Go Go.RowKit
set_option linter.unusedVariables false

set_option maxHeartbeats 16000000 in
set_option maxRecDepth 100000 in
theorem symbolNames_walk (a p n : ByteArray) (w : World) : Calls Try.prog 3 #[.string a, .agg #[.string p, .string n]] w (RetY w (.bool true)) := by
  have T := SB.new w (.string p) (.string n)
  have hB0 := bAlP w (.cells #[.string p, .string n] 23)
  by_cases h1 : (60 : Int) < (a.size : Int)
  · go_enter Try.func3, Try.ntmps3
    go_wp2_with fail
    generalize w.alloc (.cells #[.string p, .string n] 23) = W0 at T hB0 ⊢
    refine (firstS W0).mono ?_
    rintro e w1 ⟨rfl, hb⟩
    have hB1 := chainY hB0 hb (Nat.le_refl _)
    have hT1 := SB.keep T hb
    clear hb T hB0
    have m0 := hT1.c0
    have m1 := hT1.c1
    go_wp2_with fail
    go_ret
    exact ⟨rfl, hB1⟩
  · by_cases h2 : (60 : Int) < (p.size : Int)
    · go_enter Try.func3, Try.ntmps3
      go_wp2_with fail
      generalize w.alloc (.cells #[.string p, .string n] 23) = W0 at T hB0 ⊢
      refine (firstS W0).mono ?_
      rintro e w1 ⟨rfl, hb⟩
      have hB1 := chainY hB0 hb (Nat.le_refl _)
      have hT1 := SB.keep T hb
      clear hb T hB0
      have m0 := hT1.c0
      have m1 := hT1.c1
      go_wp2_with fail
      go_ret
      exact ⟨rfl, hB1⟩
    · by_cases h3 : (60 : Int) < (n.size : Int)
      · go_enter Try.func3, Try.ntmps3
        go_wp2_with fail
        generalize w.alloc (.cells #[.string p, .string n] 23) = W0 at T hB0 ⊢
        refine (firstS W0).mono ?_
        rintro e w1 ⟨rfl, hb⟩
        have hB1 := chainY hB0 hb (Nat.le_refl _)
        have hT1 := SB.keep T hb
        clear hb T hB0
        have m0 := hT1.c0
        have m1 := hT1.c1
        go_wp2_with fail
        go_ret
        exact ⟨rfl, hB1⟩
      · go_enter Try.func3, Try.ntmps3
        go_wp2_with fail
        generalize w.alloc (.cells #[.string p, .string n] 23) = W0 at T hB0 ⊢
        refine (firstS W0).mono ?_
        rintro e w1 ⟨rfl, hb⟩
        have hB1 := chainY hB0 hb (Nat.le_refl _)
        have hT1 := SB.keep T hb
        clear hb T hB0
        have m0 := hT1.c0
        have m1 := hT1.c1
        go_upto_region 5 with fail
        have hBd := bDrewP hB1
        have hTd : SB w1.drew w.heap.size (.string p) (.string n) := hT1
        clear h1 h2 h3
        go_region_held3 (fun W' => W'.cell? ⟨w.heap.size, 0, none⟩ = some (.string p) ∧ W'.cell? ⟨w.heap.size, 1, none⟩ = some (.string n)) (go_keep)
          ((first
            | (go_at_call 10; refine (validPY a _).mono ?_; rintro e w3 ⟨rfl, hb⟩; have hB := chainY ‹Below w.heap.size w _› hb (Nat.le_refl _); have hS := SB.keep ‹SB _ w.heap.size (.string p) (.string n)› hb; have m0 := hS.c0; have m1 := hS.c1)
            | (go_at_call 11; refine (validPR a _).mono ?_; rintro e w3 ⟨rfl, hb⟩; have hB := chainY ‹Below w.heap.size w _› hb (Nat.le_refl _); have hS := SB.keep ‹SB _ w.heap.size (.string p) (.string n)› hb; have m0 := hS.c0; have m1 := hS.c1)
            | (go_at_call 12; refine (validSY p n _).mono ?_; rintro e w3 ⟨rfl, hb⟩; have hB := chainY ‹Below w.heap.size w _› hb (Nat.le_refl _); have hS := SB.keep ‹SB _ w.heap.size (.string p) (.string n)› hb; have m0 := hS.c0; have m1 := hS.c1)
            | (go_at_call 13; refine (validSR p n _).mono ?_; rintro e w3 ⟨rfl, hb⟩; have hB := chainY ‹Below w.heap.size w _› hb (Nat.le_refl _); have hS := SB.keep ‹SB _ w.heap.size (.string p) (.string n)› hb; have m0 := hS.c0; have m1 := hS.c1)
            | (go_at_call 15; refine (initialY _).mono ?_; rintro e w7 ⟨x1, rfl, hx1, hb⟩; have hB := chainY ‹Below w.heap.size w _› hb (Nat.le_refl _); have hS := SB.keep ‹SB _ w.heap.size (.string p) (.string n)› hb; have m0 := hS.c0; have m1 := hS.c1; try (have hk2 := hx2.keep hb))
            | (go_at_call 16; refine (initialRY _).mono ?_; rintro e w8 ⟨x2, rfl, hx2, hb⟩; have hB := chainY ‹Below w.heap.size w _› hb (Nat.le_refl _); have hS := SB.keep ‹SB _ w.heap.size (.string p) (.string n)› hb; have m0 := hS.c0; have m1 := hS.c1; try (have hk1 := hx1.keep hb))
            | (go_at_call 14; refine (samePY initM _ _ _ ?_ ?_ (by simp [initM]) (fun p hp => by simp [initM] at hp; subst hp; simp)).mono ?_; (first | exact hx1 | exact hk1); (first | exact hx2 | exact hk2); rintro e w9 ⟨rfl, hb⟩; have hB := chainY ‹Below w.heap.size w _› hb (Nat.le_refl _); have hS := SB.keep ‹SB _ w.heap.size (.string p) (.string n)› hb; have m0 := hS.c0; have m1 := hS.c1)
            ))
        all_goals go_wp2_with fail
        all_goals go_ret
        all_goals exact ⟨rfl, ‹Below w.heap.size w _›⟩
end Go.Proofs.Ytcgchacokcnacaa
