/- SymbolVisible: the walk. -/
import Derived.Test.YtcgchacokcnacaaY17
namespace Go.Proofs.Ytcgchacokcnacaa
open Go Go.RowKit
set_option linter.unusedVariables false

set_option maxHeartbeats 8000000 in
set_option maxRecDepth 100000 in
theorem symbolVisible_walk (l : List Pg) (v : Value) (a sp sn : ByteArray) (w : World) (hv : PgV w l v) : Calls Try.prog 7 #[v, .string a, .agg #[.string sp, .string sn]] w (RetY w (.bool true)) := by
  have HV := Lib.hid hv
  clear hv
  have CFW : Hid (∀ X, Below w.heap.size w X → Calls Try.prog 17 #[v] X (RetY X (.bool (fewM l)))) := fun X hX => fewY l v X (HV.out.keep hX)
  cases hf : fewM l with
  | false =>
    go_enter Try.func7, Try.ntmps7
    go_wp2_with fail
    have HT0 : Hid (SB (w.alloc (.cells #[.string sp, .string sn] 23)) w.heap.size (.string sp) (.string sn)) := SB.new w _ _
    have HB0 := Lib.hid (bAlP w (.cells #[.string sp, .string sn] 23))
    generalize w.alloc (.cells #[.string sp, .string sn] 23) = W0 at HT0 HB0 ⊢
    refine (firstS W0).mono ?_
    rintro e w1 ⟨rfl, hb⟩
    have HB1 := Lib.hid (chainY HB0.out hb (Nat.le_refl _))
    have HT1 := Lib.hid (SB.keep HT0.out hb)
    clear hb HB0 HT0
    try clear m0 m1
    have m0 := HT1.out.c0
    have m1 := HT1.out.c1
    go_wp2_with fail
    refine (CFW.out _ HB1.out).mono ?_
    rw [hf]
    rintro e w2 ⟨rfl, hb⟩
    have HB2 := Lib.hid (chainY HB1.out hb (Nat.le_refl _))
    have HT2 := Lib.hid (SB.keep HT1.out hb)
    clear hb HB1 HT1
    try clear m0 m1
    have m0 := HT2.out.c0
    have m1 := HT2.out.c1
    go_wp2_with fail
    go_ret
    exact ⟨rfl, HB2.out⟩
  | true =>
    by_cases h8 : (60 : Int) < (sn.size : Int)
    · go_enter Try.func7, Try.ntmps7
      go_wp2_with fail
      have HT0 : Hid (SB (w.alloc (.cells #[.string sp, .string sn] 23)) w.heap.size (.string sp) (.string sn)) := SB.new w _ _
      have HB0 := Lib.hid (bAlP w (.cells #[.string sp, .string sn] 23))
      generalize w.alloc (.cells #[.string sp, .string sn] 23) = W0 at HT0 HB0 ⊢
      refine (firstS W0).mono ?_
      rintro e w1 ⟨rfl, hb⟩
      have HB1 := Lib.hid (chainY HB0.out hb (Nat.le_refl _))
      have HT1 := Lib.hid (SB.keep HT0.out hb)
      clear hb HB0 HT0
      try clear m0 m1
      have m0 := HT1.out.c0
      have m1 := HT1.out.c1
      go_wp2_with fail
      refine (CFW.out _ HB1.out).mono ?_
      rw [hf]
      rintro e w2 ⟨rfl, hb⟩
      have HB2 := Lib.hid (chainY HB1.out hb (Nat.le_refl _))
      have HT2 := Lib.hid (SB.keep HT1.out hb)
      clear hb HB1 HT1
      try clear m0 m1
      have m0 := HT2.out.c0
      have m1 := HT2.out.c1
      go_wp2_with fail
      go_ret
      exact ⟨rfl, HB2.out⟩
    · obtain ⟨hm1, hm2⟩ := madeM_bd hf
      have CM : Hid (∀ X, Below w.heap.size w X → Calls Try.prog 18 #[v] X (RetPg X (madeM l))) := fun X hX => madeY l v X (HV.out.keep hX) hf
      have HI := Lib.hid hm2
      clear hm2
      go_enter Try.func7, Try.ntmps7
      go_wp2_with fail
      have HT0 : Hid (SB (w.alloc (.cells #[.string sp, .string sn] 23)) w.heap.size (.string sp) (.string sn)) := SB.new w _ _
      have HB0 := Lib.hid (bAlP w (.cells #[.string sp, .string sn] 23))
      generalize w.alloc (.cells #[.string sp, .string sn] 23) = W0 at HT0 HB0 ⊢
      refine (firstS W0).mono ?_
      rintro e w1 ⟨rfl, hb⟩
      have HB1 := Lib.hid (chainY HB0.out hb (Nat.le_refl _))
      have HT1 := Lib.hid (SB.keep HT0.out hb)
      clear hb HB0 HT0
      try clear m0 m1
      have m0 := HT1.out.c0
      have m1 := HT1.out.c1
      go_wp2_with fail
      refine (CFW.out _ HB1.out).mono ?_
      rw [hf]
      rintro e w2 ⟨rfl, hb⟩
      have HB2 := Lib.hid (chainY HB1.out hb (Nat.le_refl _))
      have HT2 := Lib.hid (SB.keep HT1.out hb)
      clear hb HB1 HT1
      try clear m0 m1
      have m0 := HT2.out.c0
      have m1 := HT2.out.c1
      go_wp2_with fail
      refine (CM.out _ HB2.out).mono ?_
      rintro e w3 ⟨x, rfl, hx, hb⟩
      have C1 : Hid (∀ X, Below w3.heap.size w3 X → Calls Try.prog 25 #[x, .agg #[.string sp, .string sn]] X (RetY X (.bool (homeM (madeM l) (sp, sn))))) := fun X hX => homeY (madeM l) x sp sn X (hx.keep hX) (by omega) (fun p hp => by have := HI.out p hp; omega)
      have C2 : Hid (∀ X, Below w3.heap.size w3 X → Calls Try.prog 26 #[x, .agg #[.string sp, .string sn]] X (RetY X (.bool (homeM (madeM l) (sp, sn))))) := fun X hX => homeRY (madeM l) x sp sn X (hx.keep hX) (by omega) (fun p hp => by have := HI.out p hp; omega)
      have C3 : Hid (∀ X, Below w3.heap.size w3 X → Calls Try.prog 27 #[x, .string a, .agg #[.string sp, .string sn]] X (RetY X (.bool (visM (madeM l) a (sp, sn))))) := fun X hX => visibleY (madeM l) x a sp sn X (hx.keep hX) (by omega) (fun p hp => by have := HI.out p hp; omega)
      have C4 : Hid (∀ X, Below w3.heap.size w3 X → Calls Try.prog 28 #[x, .string a, .agg #[.string sp, .string sn]] X (RetY X (.bool (visM (madeM l) a (sp, sn))))) := fun X hX => visibleRY (madeM l) x a sp sn X (hx.keep hX) (by omega) (fun p hp => by have := HI.out p hp; omega)
      generalize homeM (madeM l) (sp, sn) = rh at C1 C2
      generalize visM (madeM l) a (sp, sn) = rv at C3 C4
      have HB3 := Lib.hid (chainY HB2.out hb (Nat.le_refl _))
      have HT3 := Lib.hid (SB.keep HT2.out hb)
      clear hb HB2 HT2
      try clear m0 m1
      have m0 := HT3.out.c0
      have m1 := HT3.out.c1
      clear hx CM CFW HV HI
      go_upto_region 6 with fail
      have hB : Below w3.heap.size w3 w3.drew := bDrewP (Below.refl _ _)
      have hTd : SB w3.drew w.heap.size (.string sp) (.string sn) := HT3.out
      go_region_held3 (fun W' => W'.cell? ⟨w.heap.size, 0, none⟩ = some (.string sp) ∧ W'.cell? ⟨w.heap.size, 1, none⟩ = some (.string sn)) (go_keep)
        ((first
          | (go_at_call 25; refine (C1.out _ ‹Below w3.heap.size w3 _›).mono ?_; rintro e w4 ⟨rfl, hb⟩; have hB := chainY ‹Below w3.heap.size w3 _› hb (Nat.le_refl _); have hS := SB.keep ‹SB _ w.heap.size (.string sp) (.string sn)› hb; have m0 := hS.c0; have m1 := hS.c1)
          | (go_at_call 26; refine (C2.out _ ‹Below w3.heap.size w3 _›).mono ?_; rintro e w4 ⟨rfl, hb⟩; have hB := chainY ‹Below w3.heap.size w3 _› hb (Nat.le_refl _); have hS := SB.keep ‹SB _ w.heap.size (.string sp) (.string sn)› hb; have m0 := hS.c0; have m1 := hS.c1)
          | (go_at_call 27; refine (C3.out _ ‹Below w3.heap.size w3 _›).mono ?_; rintro e w4 ⟨rfl, hb⟩; have hB := chainY ‹Below w3.heap.size w3 _› hb (Nat.le_refl _); have hS := SB.keep ‹SB _ w.heap.size (.string sp) (.string sn)› hb; have m0 := hS.c0; have m1 := hS.c1)
          | (go_at_call 28; refine (C4.out _ ‹Below w3.heap.size w3 _›).mono ?_; rintro e w4 ⟨rfl, hb⟩; have hB := chainY ‹Below w3.heap.size w3 _› hb (Nat.le_refl _); have hS := SB.keep ‹SB _ w.heap.size (.string sp) (.string sn)› hb; have m0 := hS.c0; have m1 := hS.c1)
          ))
      all_goals go_wp2_with fail
      all_goals go_ret
      all_goals exact ⟨rfl, chainY HB3.out ‹Below w3.heap.size w3 _› (Nat.le_refl _)⟩
end Go.Proofs.Ytcgchacokcnacaa
