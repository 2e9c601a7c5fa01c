/- first answers true. -/
import Derived.Test.YtcgchacokcnacaaDoorY13
namespace Go.Proofs.YtcgchacokcnacaaDoor
open Go Go.RowKit
set_option linter.unusedVariables false

theorem oneS {W : World} {g : Nat} {p n : ByteArray} (h : W.heap[g]? = some (.cells #[.string p, .string n] 29 (0, 0))) : SyV W [(p, n)] (.slice (some ⟨g, 0, none⟩) 1 1) :=
  SyV.of_row (row := [.string p, .string n]) (l := [(p, n)]) h (Nat.le_refl _) (by unfold maxLen; omega) (fun i hi => by
    have e : i = 0 := by simp at hi; omega
    subst e
    exact ⟨rfl, rfl⟩)
theorem oneSd (W : World) (p n : ByteArray) : SyV (W.alloc (.cells #[.string p, .string n] 29)).drew [(p, n)] (.slice (some ⟨W.heap.size, 0, none⟩) 1 1) := oneS (heap_alloc_new W _)
theorem firstDefine (X : World) (x u : Value) (hx : PgV X initM x) (hu : SyV X [(⟨#[108, 105, 115, 112]⟩, ⟨#[99, 97, 114]⟩)] u) : Calls Tryd.prog 7 #[x, .agg #[.string ⟨#[97]⟩, u]] X (RetD X (firM, 0)) := by
  have := defineY initM x ⟨#[97]⟩ [(⟨#[108, 105, 115, 112]⟩, ⟨#[99, 97, 114]⟩)] u X hx hu (by simp [initM]) (fun p hp => by simp [initM] at hp; subst hp; simp) (by simp)
  rwa [firDef] at this
set_option maxHeartbeats 16000000 in
set_option maxRecDepth 100000 in
theorem firstS (w : World) : Calls Tryd.prog 4 #[] w (RetY w (.bool true)) := by
  have T := SB.new w (.string ⟨#[108, 105, 115, 112]⟩) (.string ⟨#[99, 97, 114]⟩)
  have hB0 := bAlP w (.cells #[.string ⟨#[108, 105, 115, 112]⟩, .string ⟨#[99, 97, 114]⟩] 29)
  go_enter Tryd.func4, Tryd.ntmps4
  go_wp2_with fail
  go_upto_region 2 with fail
  generalize w.alloc (.cells #[.string ⟨#[108, 105, 115, 112]⟩, .string ⟨#[99, 97, 114]⟩] 29) = W0 at T hB0 ⊢
  have m0 := T.c0
  have m1 := T.c1
  have HT := Lib.hid T
  have HB0 := Lib.hid hB0
  clear T hB0
  go_region_held3 (fun W' => W'.cell? ⟨w.heap.size, 0, none⟩ = some (.string ⟨#[108, 105, 115, 112]⟩) ∧ W'.cell? ⟨w.heap.size, 1, none⟩ = some (.string ⟨#[99, 97, 114]⟩)) (go_keep)
    ((first
      | (go_at_call 8; refine (initialY _).mono ?_; rintro e w3 ⟨x, rfl, hx, hb⟩; have HX3 := Lib.hid hx; have HN3 := Lib.hid hb; have HW3 : Hid (Below W0.heap.size W0 w3) := (by first | exact chainY (bDrewP (Below.refl _ _)) hb (Nat.le_refl _) | exact chainY (Below.refl _ _) hb (Nat.le_refl _) | exact chainY (bDrewP (bAlP _ _)) hb (Nat.le_refl _) | exact chainY (bAlP _ _) hb (Nat.le_refl _)); have HT3 := Lib.hid (SB.keep HT.out HW3.out); clear m0 m1 hx hb; have m0 := HT3.out.c0; have m1 := HT3.out.c1)
      | (go_at_call 7; refine (firstDefine _ _ _ ?_ ?_).mono ?_; (first | exact HX3.out | exact HX3.out.keep (bAlP _ _)); (first | exact oneS (heap_alloc_new _ _) | exact (oneSd _ _ _).keep HN3.out); rintro e w4 ⟨y, rfl, hy, hb⟩; have HY4 := Lib.hid hy; have HW4 : Hid (Below W0.heap.size W0 w4) := (by first | exact chainY HW3.out hb (Nat.le_refl _) | exact chainY (chainY HW3.out (bAlP _ _) (Nat.le_refl _)) hb (Nat.le_refl _)); have HT4 := Lib.hid (SB.keep HT.out HW4.out); clear m0 m1 hy hb; have m0 := HT4.out.c0; have m1 := HT4.out.c1)
      ))
  all_goals
    have CI : Hid (∀ X s, Below w4.heap.size w4 X → Calls Tryd.prog 9 #[y, .string ⟨#[97]⟩, .string s] X (RetN X (internM firM ⟨#[97]⟩ s))) := fun X s hX => internY firM y _ s X (HY4.out.keep hX) (by have := firLen.1; omega) (fun p hp => by have := firLen.2 p hp; omega)
    have CH : Hid (∀ X s1 s2, Below w4.heap.size w4 X → Calls Tryd.prog 10 #[y, .agg #[.string s1, .string s2]] X (RetY X (.bool (homeM firM (s1, s2))))) := fun X s1 s2 hX => homeY firM y s1 s2 X (HY4.out.keep hX) (by have := firLen.1; omega) (fun p hp => by have := firLen.2 p hp; omega)
    have HB4 := Lib.hid (chainY HB0.out HW4.out (Nat.le_refl _))
    clear HB0 HW4 HW3 HN3 HX3 HT3 HT HY4 m0 m1
    go_wp2_with fail
    refine (CI.out _ ⟨#[99, 97, 114]⟩ (Below.refl _ _)).mono ?_
    rw [firCar]
    intro e w5 h5
    obtain ⟨rfl, hb⟩ : e = .returned (.tuple #[.agg #[.string ⟨#[108, 105, 115, 112]⟩, .string ⟨#[99, 97, 114]⟩], .int .i64 0]) ∧ Below w4.heap.size w4 w5 := h5
    go_upto_region 4 with fail
    have T5 : Hid (SB (w5.alloc (.cells #[.string ⟨#[108, 105, 115, 112]⟩, .string ⟨#[99, 97, 114]⟩] 29)) w5.heap.size (.string ⟨#[108, 105, 115, 112]⟩) (.string ⟨#[99, 97, 114]⟩)) := SB.new _ _ _
    have HX5 : Hid (Below w4.heap.size w4 (w5.alloc (.cells #[.string ⟨#[108, 105, 115, 112]⟩, .string ⟨#[99, 97, 114]⟩] 29))) := chainY hb (bAlP _ _) (Nat.le_refl _)
    clear hb
    generalize w5.alloc (.cells #[.string ⟨#[108, 105, 115, 112]⟩, .string ⟨#[99, 97, 114]⟩] 29) = W5 at T5 HX5 ⊢
    go_wp2_with fail
    refine (CI.out _ ⟨#[99, 100, 114]⟩ HX5.out).mono ?_
    rw [firCdr]
    intro e w6 h6
    obtain ⟨rfl, hb⟩ : e = .returned (.tuple #[.agg #[.string ⟨#[97]⟩, .string ⟨#[99, 100, 114]⟩], .int .i64 0]) ∧ Below W5.heap.size W5 w6 := h6
    go_upto_region 5 with fail
    have T6 : Hid (SB (w6.alloc (.cells #[.string ⟨#[97]⟩, .string ⟨#[99, 100, 114]⟩] 29)) w6.heap.size (.string ⟨#[97]⟩) (.string ⟨#[99, 100, 114]⟩)) := SB.new _ _ _
    have HX6 : Hid (Below w4.heap.size w4 (w6.alloc (.cells #[.string ⟨#[97]⟩, .string ⟨#[99, 100, 114]⟩] 29))) := chainY (chainY HX5.out hb (Nat.le_refl _)) (bAlP _ _) (Nat.le_refl _)
    have T5b : Hid (SB (w6.alloc (.cells #[.string ⟨#[97]⟩, .string ⟨#[99, 100, 114]⟩] 29)) w5.heap.size (.string ⟨#[108, 105, 115, 112]⟩) (.string ⟨#[99, 97, 114]⟩)) := SB.keep (SB.keep T5.out hb) (bAlP _ _)
    clear hb T5 HX5
    generalize w6.alloc (.cells #[.string ⟨#[97]⟩, .string ⟨#[99, 100, 114]⟩] 29) = W6 at T6 T5b HX6 ⊢
    have T4b := Lib.hid (SB.keep HT4.out HX6.out)
    have m0 := T4b.out.c0
    have m1 := T4b.out.c1
    have c0 := T5b.out.c0
    have c1 := T5b.out.c1
    have d0 := T6.out.c0
    have d1 := T6.out.c1
    go_wp2_with fail
    refine (CH.out _ ⟨#[108, 105, 115, 112]⟩ ⟨#[99, 97, 114]⟩ HX6.out).mono ?_
    rw [firHome]
    rintro e w7 ⟨rfl, hb⟩
    have HX7 := Lib.hid (chainY HX6.out hb (Nat.le_refl _))
    clear hb m0 m1 c0 c1 d0 d1
    go_wp2_with fail
    refine (CH.out _ ⟨#[97]⟩ ⟨#[99, 97, 114]⟩ HX7.out).mono ?_
    rw [firNo]
    rintro e w8 ⟨rfl, hb⟩
    have HX8 := Lib.hid (chainY HB4.out (chainY HX7.out hb (Nat.le_refl _)) (Nat.le_refl _))
    clear hb
    go_wp2_with fail
    go_ret
    exact ⟨rfl, HX8.out⟩
end Go.Proofs.YtcgchacokcnacaaDoor
