/- Deep: the law. -/
import Derived.Test.YtflnffgohbbhiaaGreatDoorG34
namespace Go.Proofs.YtflnffgohbbhiaaGreatDoor
open Go Go.RowKit
set_option linter.unusedVariables false
set_option maxHeartbeats 8000000
set_option maxRecDepth 100000

theorem lawDeepT (n : Int) (w : World) (hn : -9223372036854775808 ≤ n ∧ n ≤ 9223372036854775807) : Calls Tryz.prog 7 #[.int .i64 n, .bool true] w (Sy.RetY w (.bool true)) := by
 have KM := Lib.hid (fun w => modO n 4 w hn.1 hn.2 (by decide) (by decide))
 have hm0 : 0 ≤ n % 4 := Int.emod_nonneg _ (by decide)
 have hm1 : n % 4 < 4 := Int.emod_lt_of_pos _ (by decide)
 obtain ⟨k, hk⟩ : ∃ k : Nat, 199 + n % 4 = (k : Int) := ⟨(199 + n % 4).toNat, by omega⟩
 have hk2 : k ≤ 202 := by omega
 have hk1 : 199 ≤ k := by omega
 obtain ⟨m, hm⟩ : ∃ m, n % 4 = m := ⟨_, rfl⟩
 rw [hm] at KM hk hm0 hm1
 have hw1 : IntKind.i64.wrap (199 + m) = (k : Int) := by rw [hk]; exact IntWalk.i64_in _ (by omega)
 clear hm hn
 go_enter Tryz.func7, Tryz.ntmps7
 go_wp2_with fail
 refine (firstP5 _).mono ?_
 rintro e w0 ⟨rfl, hb0⟩
 have HB0 := Lib.hid hb0
 clear hb0
 go_wp2_with fail
 refine (KM.out _).mono ?_
 rintro e w1 ⟨rfl, rfl⟩
 clear KM
 go_upto_region 4 with fail
 clear hw1 hm0 hm1
 go_wp2_with fail
 go_loopw [5, 6] (fun sv iv wr => ∃ (i : Nat) (s : ByteArray), i ≤ k ∧ iv = .int .i64 (i : Int) ∧ sv = .string s ∧ s.size = i ∧ Hid (Below w.heap.size w wr)) (fun _ iv _ => k - (intOf iv).toNat)
 case atStart => exact ⟨0, ⟨#[]⟩, Nat.zero_le _, rfl, rfl, rfl, HB0⟩
 case round =>
  clear HB0
  obtain ⟨i, s, hi, rfl, rfl, hs, HB0⟩ := hrel
  obtain ⟨wo, rfl⟩ : ∃ wo : World, wo = wr := ⟨_, rfl⟩
  by_cases hik : i < k
  · have h2 : (i : Int) < (k : Int) := by omega
    have hsm : s.size + 1 ≤ maxLen := by unfold maxLen; omega
    go_wp2_with fail
    go_roundw
    case rel => exact ⟨i + 1, s ++ ⟨#[39]⟩, by omega, by go_num, rfl, by rw [ByteArray.size_append]; show s.size + 1 = _; omega, HB0⟩
    case measure => simp [intOf]; omega
  · have h2 : ¬ (i : Int) < (k : Int) := by omega
    have hs1 : s.size = k := by omega
    have hsa : s.size + 1 ≤ maxLen := by unfold maxLen; omega
    clear hs hi hik
    have hs2 : (s ++ ⟨#[97]⟩ : ByteArray).size ≤ 699 := by
     rw [ByteArray.size_append]
     show s.size + 1 ≤ 699
     rw [hs1]
     omega
    have hk0 : (0 : Int) < (k : Int) := by omega
    go_wp2_with fail
    obtain ⟨t, ht⟩ : ∃ t, s ++ ⟨#[97]⟩ = t := ⟨_, rfl⟩
    rw [ht] at hs2 ⊢
    clear ht
    go_loopw [5, 7] (fun sv iv wr => iv = .int .i64 0 ∧ sv = .string t ∧ Hid (Below w.heap.size w wr)) (fun _ _ _ => 0)
    case atStart => exact ⟨rfl, rfl, HB0⟩
    case round =>
     clear hs1 hsa HB0
     obtain ⟨rfl, rfl, HB0⟩ := hrel
     obtain ⟨wz, rfl⟩ : ∃ wz : World, wz = wr := ⟨_, rfl⟩
     obtain ⟨s, rfl⟩ : ∃ s, s = t := ⟨_, rfl⟩
     obtain ⟨x, p, os, hol, hP, hR⟩ := bothRd s ⟨#[117, 115, 101, 114]⟩ (SmS.of (by omega))
     have KP := Lib.hid hP
     have KR := Lib.hid hR
     have HB := HB0
     clear hol hP hR HB0
     go_wp2_with fail
     refine (packagesR _).mono ?_
     rintro e w1 ⟨x1, rfl, hx1, hb1⟩
     have HX1 := Lib.hid hx1
     replace HB := Lib.hid (chain5 HB.out hb1)
     clear hx1 hb1
     go_wp2_with fail
     refine (KP.out _ _ HX1.out).mono ?_
     rintro e w2 ⟨v2, xs2, rfl, hi2, hf2, hb2⟩
     have hal := Below.alloc (Below.refl w2.heap.size w2) (Nat.le_refl _) (.cells #[.int .i64 x, .int .i64 p] 26)
     replace HB := Lib.hid (chain5 (chain5 HB.out hb2) hal)
     have E2 : Hid (EB (w2.alloc (.cells #[.int .i64 x, .int .i64 p] 26)) w2.heap.size (.int .i64 x) (.int .i64 p)) := EB.new _ _ _
     have V2 := Lib.hid (hi2.keep hal)
     have F2 := Lib.hid hf2
     clear hi2 hf2 hb2 hal HX1
     go_upto_region 17 with fail
     generalize (w2.alloc (.cells #[.int .i64 x, .int .i64 p] 26)) = W3 at HB E2 V2 ⊢
     generalize w2.heap.size = g2 at E2 V2 ⊢
     go_wp2_with fail
     refine (packagesR _).mono ?_
     rintro e w4 ⟨x4, rfl, hx4, hb4⟩
     have HX4 := Lib.hid hx4
     replace HB := Lib.hid (chain5 HB.out hb4)
     replace E2 := Lib.hid (E2.out.keep hb4)
     replace V2 := Lib.hid (V2.out.keep hb4)
     clear hx4 hb4
     go_wp2_with fail
     refine (KR.out _ _ HX4.out).mono ?_
     rintro e w5 ⟨v5, xs5, rfl, hi5, hf5, hb5⟩
     have hal := Below.alloc (Below.refl w5.heap.size w5) (Nat.le_refl _) (.cells #[.int .i64 x, .int .i64 p] 26)
     have hbb := chain5 hb5 hal
     replace HB := Lib.hid (chain5 HB.out hbb)
     replace E2 := Lib.hid (E2.out.keep hbb)
     replace V2 := Lib.hid (V2.out.keep hbb)
     have E5 : Hid (EB (w5.alloc (.cells #[.int .i64 x, .int .i64 p] 26)) w5.heap.size (.int .i64 x) (.int .i64 p)) := EB.new _ _ _
     have V5 := Lib.hid (hi5.keep hal)
     have F5 := Lib.hid hf5
     clear hi5 hf5 hb5 hal hbb HX4
     go_upto_region 18 with fail
     generalize (w5.alloc (.cells #[.int .i64 x, .int .i64 p] 26)) = W6 at HB E2 V2 E5 V5 ⊢
     generalize w5.heap.size = g5 at E5 V5 ⊢
     have c0 := E2.out.c0
     have c1 := E2.out.c1
     have d0 := E5.out.c0
     have d1 := E5.out.c1
     go_wp2
     go_ret
     exact ⟨rfl, HB.out⟩
theorem lawDeepF (n : Int) (w : World) (hn : -9223372036854775808 ≤ n ∧ n ≤ 9223372036854775807) : Calls Tryz.prog 7 #[.int .i64 n, .bool false] w (Sy.RetY w (.bool true)) := by
 have KM := Lib.hid (fun w => modO n 4 w hn.1 hn.2 (by decide) (by decide))
 have hm0 : 0 ≤ n % 4 := Int.emod_nonneg _ (by decide)
 have hm1 : n % 4 < 4 := Int.emod_lt_of_pos _ (by decide)
 obtain ⟨k, hk⟩ : ∃ k : Nat, 199 + n % 4 = (k : Int) := ⟨(199 + n % 4).toNat, by omega⟩
 have hk2 : k ≤ 202 := by omega
 have hk1 : 199 ≤ k := by omega
 obtain ⟨m, hm⟩ : ∃ m, n % 4 = m := ⟨_, rfl⟩
 rw [hm] at KM hk hm0 hm1
 have hw1 : IntKind.i64.wrap (199 + m) = (k : Int) := by rw [hk]; exact IntWalk.i64_in _ (by omega)
 clear hm hn
 go_enter Tryz.func7, Tryz.ntmps7
 go_wp2_with fail
 refine (firstP5 _).mono ?_
 rintro e w0 ⟨rfl, hb0⟩
 have HB0 := Lib.hid hb0
 clear hb0
 go_wp2_with fail
 refine (KM.out _).mono ?_
 rintro e w1 ⟨rfl, rfl⟩
 clear KM
 go_upto_region 4 with fail
 clear hw1 hm0 hm1
 go_wp2_with fail
 go_loopw [5, 6] (fun sv iv wr => ∃ (i : Nat) (s : ByteArray), i ≤ k ∧ iv = .int .i64 (i : Int) ∧ sv = .string s ∧ s.size = i ∧ Hid (Below w.heap.size w wr)) (fun _ iv _ => k - (intOf iv).toNat)
 case atStart => exact ⟨0, ⟨#[]⟩, Nat.zero_le _, rfl, rfl, rfl, HB0⟩
 case round =>
  clear HB0
  obtain ⟨i, s, hi, rfl, rfl, hs, HB0⟩ := hrel
  obtain ⟨wo, rfl⟩ : ∃ wo : World, wo = wr := ⟨_, rfl⟩
  by_cases hik : i < k
  · have h2 : (i : Int) < (k : Int) := by omega
    have hsm : s.size + 1 ≤ maxLen := by unfold maxLen; omega
    go_wp2_with fail
    go_roundw
    case rel => exact ⟨i + 1, s ++ ⟨#[40]⟩, by omega, by go_num, rfl, by rw [ByteArray.size_append]; show s.size + 1 = _; omega, HB0⟩
    case measure => simp [intOf]; omega
  · have h2 : ¬ (i : Int) < (k : Int) := by omega
    have hs1 : s.size = k := by omega
    have hsa : s.size + 1 ≤ maxLen := by unfold maxLen; omega
    clear hs hi hik
    go_wp2_with fail
    go_loopw [5, 7] (fun sv iv wr => ∃ (i : Nat) (s : ByteArray), i ≤ k ∧ iv = .int .i64 (i : Int) ∧ sv = .string s ∧ s.size = k + 1 + i ∧ Hid (Below w.heap.size w wr)) (fun _ iv _ => k - (intOf iv).toNat)
    case atStart => exact ⟨0, s ++ ⟨#[97]⟩, Nat.zero_le _, rfl, rfl, by rw [ByteArray.size_append]; show s.size + 1 = _; omega, HB0⟩
    case round =>
     clear hs1 hsa HB0
     obtain ⟨i, s, hi, rfl, rfl, hs, HB0⟩ := hrel
     obtain ⟨wz, rfl⟩ : ∃ wz : World, wz = wr := ⟨_, rfl⟩
     by_cases hik : i < k
     · have h2 : (i : Int) < (k : Int) := by omega
       have hsm : s.size + 1 ≤ maxLen := by unfold maxLen; omega
       go_wp2_with fail
       go_roundw
       case rel => exact ⟨i + 1, s ++ ⟨#[41]⟩, by omega, by go_num, rfl, by rw [ByteArray.size_append]; show s.size + 1 = _; omega, HB0⟩
       case measure => simp [intOf]; omega
     · have h2 : ¬ (i : Int) < (k : Int) := by omega
       have hs2 : s.size ≤ 699 := by omega
       obtain ⟨x, p, os, hol, hP, hR⟩ := bothRd s ⟨#[117, 115, 101, 114]⟩ (SmS.of (by omega))
       have KP := Lib.hid hP
       have KR := Lib.hid hR
       have HB := HB0
       clear hol hP hR HB0
       go_wp2_with fail
       refine (packagesR _).mono ?_
       rintro e w1 ⟨x1, rfl, hx1, hb1⟩
       have HX1 := Lib.hid hx1
       replace HB := Lib.hid (chain5 HB.out hb1)
       clear hx1 hb1
       go_wp2_with fail
       refine (KP.out _ _ HX1.out).mono ?_
       rintro e w2 ⟨v2, xs2, rfl, hi2, hf2, hb2⟩
       have hal := Below.alloc (Below.refl w2.heap.size w2) (Nat.le_refl _) (.cells #[.int .i64 x, .int .i64 p] 26)
       replace HB := Lib.hid (chain5 (chain5 HB.out hb2) hal)
       have E2 : Hid (EB (w2.alloc (.cells #[.int .i64 x, .int .i64 p] 26)) w2.heap.size (.int .i64 x) (.int .i64 p)) := EB.new _ _ _
       have V2 := Lib.hid (hi2.keep hal)
       have F2 := Lib.hid hf2
       clear hi2 hf2 hb2 hal HX1
       go_upto_region 17 with fail
       generalize (w2.alloc (.cells #[.int .i64 x, .int .i64 p] 26)) = W3 at HB E2 V2 ⊢
       generalize w2.heap.size = g2 at E2 V2 ⊢
       go_wp2_with fail
       refine (packagesR _).mono ?_
       rintro e w4 ⟨x4, rfl, hx4, hb4⟩
       have HX4 := Lib.hid hx4
       replace HB := Lib.hid (chain5 HB.out hb4)
       replace E2 := Lib.hid (E2.out.keep hb4)
       replace V2 := Lib.hid (V2.out.keep hb4)
       clear hx4 hb4
       go_wp2_with fail
       refine (KR.out _ _ HX4.out).mono ?_
       rintro e w5 ⟨v5, xs5, rfl, hi5, hf5, hb5⟩
       have hal := Below.alloc (Below.refl w5.heap.size w5) (Nat.le_refl _) (.cells #[.int .i64 x, .int .i64 p] 26)
       have hbb := chain5 hb5 hal
       replace HB := Lib.hid (chain5 HB.out hbb)
       replace E2 := Lib.hid (E2.out.keep hbb)
       replace V2 := Lib.hid (V2.out.keep hbb)
       have E5 : Hid (EB (w5.alloc (.cells #[.int .i64 x, .int .i64 p] 26)) w5.heap.size (.int .i64 x) (.int .i64 p)) := EB.new _ _ _
       have V5 := Lib.hid (hi5.keep hal)
       have F5 := Lib.hid hf5
       clear hi5 hf5 hb5 hal hbb HX4
       go_upto_region 18 with fail
       generalize (w5.alloc (.cells #[.int .i64 x, .int .i64 p] 26)) = W6 at HB E2 V2 E5 V5 ⊢
       generalize w5.heap.size = g5 at E5 V5 ⊢
       have c0 := E2.out.c0
       have c1 := E2.out.c1
       have d0 := E5.out.c0
       have d1 := E5.out.c1
       go_wp2
       go_ret
       exact ⟨rfl, HB.out⟩
theorem lawDeep (n : Int) (b : Bool) (w : World) (hn : -9223372036854775808 ≤ n ∧ n ≤ 9223372036854775807) : Calls Tryz.prog 7 #[.int .i64 n, .bool b] w (Sy.RetY w (.bool true)) := by
 cases b with
 | false => exact lawDeepF n w hn
 | true => exact lawDeepT n w hn
end Go.Proofs.YtflnffgohbbhiaaGreatDoor
