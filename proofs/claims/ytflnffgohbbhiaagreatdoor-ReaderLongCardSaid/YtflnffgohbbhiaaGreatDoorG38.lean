/- Long: the law. -/
import Derived.Test.YtflnffgohbbhiaaGreatDoorG36
namespace Go.Proofs.YtflnffgohbbhiaaGreatDoor
open Go Go.RowKit
set_option linter.unusedVariables false
set_option maxHeartbeats 8000000
set_option maxRecDepth 100000

theorem skip_spaces : ∀ n : Nat, skipL (List.replicate n 32) = some []
 | 0 => rfl
 | n + 1 => by
  rw [List.replicate_succ, skipL_cons, if_pos (by decide)]
  exact skip_spaces n
theorem SmS.spaces {s : ByteArray} {n : Nat} (h : LA s = List.replicate n 32) (hn : n ≤ 100000) : SmS s := by
 have hs : s.size = n := by rw [← la_length, h, List.length_replicate]
 refine ⟨by omega, fun ts ht => ?_⟩
 unfold scanS at ht
 split at ht
 · cases ht
 · unfold toksS at ht
   rw [toksL_eq, h, skip_spaces] at ht
   injection ht with ht
   rw [← ht]
   simp
theorem lawLong0 (kd n : Int) (w : World) (hkd : -9223372036854775808 ≤ kd ∧ kd ≤ 9223372036854775807) (hn : -9223372036854775808 ≤ n ∧ n ≤ 9223372036854775807) (hm : kd % 5 = 0) : Calls Tryz.prog 8 #[.int .i64 kd, .int .i64 n] w (Sy.RetY w (.bool true)) := by
 have KM := Lib.hid (fun w => modO kd 5 w hkd.1 hkd.2 (by decide) (by decide))
 have KQ := Lib.hid (fun w => modO n 3 w hn.1 hn.2 (by decide) (by decide))
 rw [hm] at KM
 have hq0 : 0 ≤ n % 3 := Int.emod_nonneg _ (by decide)
 have hq1 : n % 3 < 3 := Int.emod_lt_of_pos _ (by decide)
 obtain ⟨k, hk⟩ : ∃ k : Nat, 99 + n % 3 = (k : Int) := ⟨(99 + n % 3).toNat, by omega⟩
 have hk2 : k ≤ 101 := by omega
 obtain ⟨q, hqq⟩ : ∃ q, n % 3 = q := ⟨_, rfl⟩
 rw [hqq] at KQ hk hq0 hq1
 have hw1 : IntKind.i64.wrap (99 + q) = (k : Int) := by rw [hk]; exact IntWalk.i64_in _ (by omega)
 clear hm hn hkd hqq
 go_enter Tryz.func8, Tryz.ntmps8
 go_wp2_with fail
 refine (firstP5 _).mono ?_
 rintro e w0 ⟨rfl, hb0⟩
 have HB0 := Lib.hid hb0
 clear hb0
 go_wp2_with fail
 refine (KM.out _).mono ?_
 rintro e w1 ⟨rfl, rfl⟩
 clear KM
 go_wp2_with fail
 go_loopw [9, 10] (fun sv iv wr => ∃ (i : Nat) (s : ByteArray), i ≤ k ∧ iv = .int .i64 (i : Int) ∧ sv = .string s ∧ s.size = 0 + 2 * i ∧ Hid (Below w.heap.size w wr)) (fun _ iv _ => k - (intOf iv).toNat)
 case atStart => exact ⟨0, ⟨#[]⟩, Nat.zero_le _, rfl, rfl, rfl, HB0⟩
 case round =>
  clear HB0
  obtain ⟨i, s, hi, rfl, rfl, hs, HB0⟩ := hrel
  obtain ⟨wo, rfl⟩ : ∃ wo : World, wo = wr := ⟨_, rfl⟩
  have hsz := hs
  by_cases hik : i < k
  · have h2 : (i : Int) < (k : Int) := by omega
    have hsm : s.size + 2 ≤ maxLen := by unfold maxLen; omega
    go_wp2_with fail
    refine (KQ.out _).mono ?_
    rintro e w1 ⟨rfl, rfl⟩
    go_wp2_with fail
    go_roundw
    case rel => exact ⟨i + 1, s ++ ⟨#[97, 32]⟩, by omega, by go_num, rfl, by rw [ByteArray.size_append]; show s.size + 2 = _; omega, HB0⟩
    case measure => simp [intOf]; omega
  · have h2 : ¬ (i : Int) < (k : Int) := by omega
    have hsm : s.size + 0 ≤ maxLen := by unfold maxLen; omega
    have hs2 : (s ++ ⟨#[]⟩ : ByteArray).size ≤ 699 := by rw [ByteArray.size_append]; show s.size + 0 ≤ _; omega
    go_wp2_with fail
    refine (KQ.out _).mono ?_
    rintro e w1 ⟨rfl, rfl⟩
    go_upto_region 20 with fail
    obtain ⟨t, ht⟩ : ∃ t, s ++ ⟨#[]⟩ = t := ⟨_, rfl⟩
    rw [ht] at hs2
    try rw [ht]
    clear hsm
    obtain ⟨x, p, os, hol, hP, hR⟩ := bothRd t ⟨#[117, 115, 101, 114]⟩ (SmS.of (by omega))
    have HOL := Lib.hid hol
    have KP := Lib.hid hP
    have KR := Lib.hid hR
    have HB := HB0
    clear hol hP hR hs hs2 HB0
    go_wp2_with fail
    refine (packagesR _).mono ?_
    rintro e w1 ⟨x1, rfl, hx1, hb1⟩
    have HX1 := Lib.hid hx1
    replace HB := Lib.hid (chain5 HB.out hb1)
    clear hx1 hb1
    go_wp2_with fail
    refine (KP.out _ _ HX1.out).mono ?_
    rintro e w2 ⟨v2, xs2, rfl, hi2, hf2, hb2⟩
    have hal := Below.alloc (Below.refl w2.heap.size w2) (Nat.le_refl _) (.cells #[.int .i64 x, .int .i64 p] 26)
    replace HB := Lib.hid (chain5 (chain5 HB.out hb2) hal)
    have E2 : Hid (EB (w2.alloc (.cells #[.int .i64 x, .int .i64 p] 26)) w2.heap.size (.int .i64 x) (.int .i64 p)) := EB.new _ _ _
    have V2 := Lib.hid (hi2.keep hal)
    have F2 := Lib.hid hf2
    clear hi2 hf2 hb2 hal HX1
    go_upto_region 21 with fail
    generalize (w2.alloc (.cells #[.int .i64 x, .int .i64 p] 26)) = W3 at HB E2 V2 ⊢
    generalize w2.heap.size = g2 at E2 V2 ⊢
    go_wp2_with fail
    refine (packagesR _).mono ?_
    rintro e w4 ⟨x4, rfl, hx4, hb4⟩
    have HX4 := Lib.hid hx4
    replace HB := Lib.hid (chain5 HB.out hb4)
    replace E2 := Lib.hid (E2.out.keep hb4)
    replace V2 := Lib.hid (V2.out.keep hb4)
    clear hx4 hb4
    go_wp2_with fail
    refine (KR.out _ _ HX4.out).mono ?_
    rintro e w5 ⟨v5, xs5, rfl, hi5, hf5, hb5⟩
    have hal := Below.alloc (Below.refl w5.heap.size w5) (Nat.le_refl _) (.cells #[.int .i64 x, .int .i64 p] 26)
    have hbb := chain5 hb5 hal
    replace HB := Lib.hid (chain5 HB.out hbb)
    replace E2 := Lib.hid (E2.out.keep hbb)
    replace V2 := Lib.hid (V2.out.keep hbb)
    have E5 : Hid (EB (w5.alloc (.cells #[.int .i64 x, .int .i64 p] 26)) w5.heap.size (.int .i64 x) (.int .i64 p)) := EB.new _ _ _
    have V5 := Lib.hid (hi5.keep hal)
    have F5 := Lib.hid hf5
    clear hi5 hf5 hb5 hal hbb HX4
    go_upto_region 22 with fail
    generalize (w5.alloc (.cells #[.int .i64 x, .int .i64 p] 26)) = W6 at HB E2 V2 E5 V5 ⊢
    generalize w5.heap.size = g5 at E5 V5 ⊢
    have c0 := E2.out.c0
    have c1 := E2.out.c1
    have d0 := E5.out.c0
    have d1 := E5.out.c1
    go_wp2_with fail
    refine (sameAllP xs2 xs5 v2 v5 _ _ _ V2.out V5.out (F2.out.trans F5.out.symm) (by rw [← fsts_len, F2.out]; exact HOL.out)).mono ?_
    rintro e w7 ⟨rfl, hb7⟩
    have HB7 := Lib.hid (chain5 HB.out hb7)
    clear hb7 c0 c1 d0 d1
    go_wp2
    go_ret
    exact ⟨rfl, HB7.out⟩
theorem lawLong1 (kd n : Int) (w : World) (hkd : -9223372036854775808 ≤ kd ∧ kd ≤ 9223372036854775807) (hn : -9223372036854775808 ≤ n ∧ n ≤ 9223372036854775807) (hm : kd % 5 = 1) : Calls Tryz.prog 8 #[.int .i64 kd, .int .i64 n] w (Sy.RetY w (.bool true)) := by
 have KM := Lib.hid (fun w => modO kd 5 w hkd.1 hkd.2 (by decide) (by decide))
 have KQ := Lib.hid (fun w => modO n 3 w hn.1 hn.2 (by decide) (by decide))
 rw [hm] at KM
 have hq0 : 0 ≤ n % 3 := Int.emod_nonneg _ (by decide)
 have hq1 : n % 3 < 3 := Int.emod_lt_of_pos _ (by decide)
 obtain ⟨k, hk⟩ : ∃ k : Nat, 39 + n % 3 = (k : Int) := ⟨(39 + n % 3).toNat, by omega⟩
 have hk2 : k ≤ 41 := by omega
 obtain ⟨q, hqq⟩ : ∃ q, n % 3 = q := ⟨_, rfl⟩
 rw [hqq] at KQ hk hq0 hq1
 have hw1 : IntKind.i64.wrap (39 + q) = (k : Int) := by rw [hk]; exact IntWalk.i64_in _ (by omega)
 clear hm hn hkd hqq
 go_enter Tryz.func8, Tryz.ntmps8
 go_wp2_with fail
 refine (firstP5 _).mono ?_
 rintro e w0 ⟨rfl, hb0⟩
 have HB0 := Lib.hid hb0
 clear hb0
 go_wp2_with fail
 refine (KM.out _).mono ?_
 rintro e w1 ⟨rfl, rfl⟩
 clear KM
 go_wp2_with fail
 go_loopw [9, 10] (fun sv iv wr => ∃ (i : Nat) (s : ByteArray), i ≤ k ∧ iv = .int .i64 (i : Int) ∧ sv = .string s ∧ s.size = 0 + 1 * i ∧ Hid (Below w.heap.size w wr)) (fun _ iv _ => k - (intOf iv).toNat)
 case atStart => exact ⟨0, ⟨#[]⟩, Nat.zero_le _, rfl, rfl, rfl, HB0⟩
 case round =>
  clear HB0
  obtain ⟨i, s, hi, rfl, rfl, hs, HB0⟩ := hrel
  obtain ⟨wo, rfl⟩ : ∃ wo : World, wo = wr := ⟨_, rfl⟩
  have hsz := hs
  by_cases hik : i < k
  · have h2 : (i : Int) < (k : Int) := by omega
    have hsm : s.size + 1 ≤ maxLen := by unfold maxLen; omega
    go_wp2_with fail
    refine (KQ.out _).mono ?_
    rintro e w1 ⟨rfl, rfl⟩
    go_wp2_with fail
    go_roundw
    case rel => exact ⟨i + 1, s ++ ⟨#[97]⟩, by omega, by go_num, rfl, by rw [ByteArray.size_append]; show s.size + 1 = _; omega, HB0⟩
    case measure => simp [intOf]; omega
  · have h2 : ¬ (i : Int) < (k : Int) := by omega
    have hsm : s.size + 0 ≤ maxLen := by unfold maxLen; omega
    have hs2 : (s ++ ⟨#[]⟩ : ByteArray).size ≤ 699 := by rw [ByteArray.size_append]; show s.size + 0 ≤ _; omega
    go_wp2_with fail
    refine (KQ.out _).mono ?_
    rintro e w1 ⟨rfl, rfl⟩
    go_upto_region 20 with fail
    obtain ⟨t, ht⟩ : ∃ t, s ++ ⟨#[]⟩ = t := ⟨_, rfl⟩
    rw [ht] at hs2
    try rw [ht]
    clear hsm
    obtain ⟨x, p, os, hol, hP, hR⟩ := bothRd t ⟨#[117, 115, 101, 114]⟩ (SmS.of (by omega))
    have HOL := Lib.hid hol
    have KP := Lib.hid hP
    have KR := Lib.hid hR
    have HB := HB0
    clear hol hP hR hs hs2 HB0
    go_wp2_with fail
    refine (packagesR _).mono ?_
    rintro e w1 ⟨x1, rfl, hx1, hb1⟩
    have HX1 := Lib.hid hx1
    replace HB := Lib.hid (chain5 HB.out hb1)
    clear hx1 hb1
    go_wp2_with fail
    refine (KP.out _ _ HX1.out).mono ?_
    rintro e w2 ⟨v2, xs2, rfl, hi2, hf2, hb2⟩
    have hal := Below.alloc (Below.refl w2.heap.size w2) (Nat.le_refl _) (.cells #[.int .i64 x, .int .i64 p] 26)
    replace HB := Lib.hid (chain5 (chain5 HB.out hb2) hal)
    have E2 : Hid (EB (w2.alloc (.cells #[.int .i64 x, .int .i64 p] 26)) w2.heap.size (.int .i64 x) (.int .i64 p)) := EB.new _ _ _
    have V2 := Lib.hid (hi2.keep hal)
    have F2 := Lib.hid hf2
    clear hi2 hf2 hb2 hal HX1
    go_upto_region 21 with fail
    generalize (w2.alloc (.cells #[.int .i64 x, .int .i64 p] 26)) = W3 at HB E2 V2 ⊢
    generalize w2.heap.size = g2 at E2 V2 ⊢
    go_wp2_with fail
    refine (packagesR _).mono ?_
    rintro e w4 ⟨x4, rfl, hx4, hb4⟩
    have HX4 := Lib.hid hx4
    replace HB := Lib.hid (chain5 HB.out hb4)
    replace E2 := Lib.hid (E2.out.keep hb4)
    replace V2 := Lib.hid (V2.out.keep hb4)
    clear hx4 hb4
    go_wp2_with fail
    refine (KR.out _ _ HX4.out).mono ?_
    rintro e w5 ⟨v5, xs5, rfl, hi5, hf5, hb5⟩
    have hal := Below.alloc (Below.refl w5.heap.size w5) (Nat.le_refl _) (.cells #[.int .i64 x, .int .i64 p] 26)
    have hbb := chain5 hb5 hal
    replace HB := Lib.hid (chain5 HB.out hbb)
    replace E2 := Lib.hid (E2.out.keep hbb)
    replace V2 := Lib.hid (V2.out.keep hbb)
    have E5 : Hid (EB (w5.alloc (.cells #[.int .i64 x, .int .i64 p] 26)) w5.heap.size (.int .i64 x) (.int .i64 p)) := EB.new _ _ _
    have V5 := Lib.hid (hi5.keep hal)
    have F5 := Lib.hid hf5
    clear hi5 hf5 hb5 hal hbb HX4
    go_upto_region 22 with fail
    generalize (w5.alloc (.cells #[.int .i64 x, .int .i64 p] 26)) = W6 at HB E2 V2 E5 V5 ⊢
    generalize w5.heap.size = g5 at E5 V5 ⊢
    have c0 := E2.out.c0
    have c1 := E2.out.c1
    have d0 := E5.out.c0
    have d1 := E5.out.c1
    go_wp2_with fail
    refine (sameAllP xs2 xs5 v2 v5 _ _ _ V2.out V5.out (F2.out.trans F5.out.symm) (by rw [← fsts_len, F2.out]; exact HOL.out)).mono ?_
    rintro e w7 ⟨rfl, hb7⟩
    have HB7 := Lib.hid (chain5 HB.out hb7)
    clear hb7 c0 c1 d0 d1
    go_wp2
    go_ret
    exact ⟨rfl, HB7.out⟩
theorem lawLong2 (kd n : Int) (w : World) (hkd : -9223372036854775808 ≤ kd ∧ kd ≤ 9223372036854775807) (hn : -9223372036854775808 ≤ n ∧ n ≤ 9223372036854775807) (hm : kd % 5 = 2) : Calls Tryz.prog 8 #[.int .i64 kd, .int .i64 n] w (Sy.RetY w (.bool true)) := by
 have KM := Lib.hid (fun w => modO kd 5 w hkd.1 hkd.2 (by decide) (by decide))
 have KQ := Lib.hid (fun w => modO n 3 w hn.1 hn.2 (by decide) (by decide))
 rw [hm] at KM
 have hq0 : 0 ≤ n % 3 := Int.emod_nonneg _ (by decide)
 have hq1 : n % 3 < 3 := Int.emod_lt_of_pos _ (by decide)
 obtain ⟨k, hk⟩ : ∃ k : Nat, 199 + n % 3 = (k : Int) := ⟨(199 + n % 3).toNat, by omega⟩
 have hk2 : k ≤ 201 := by omega
 obtain ⟨q, hqq⟩ : ∃ q, n % 3 = q := ⟨_, rfl⟩
 rw [hqq] at KQ hk hq0 hq1
 have hw1 : IntKind.i64.wrap (199 + q) = (k : Int) := by rw [hk]; exact IntWalk.i64_in _ (by omega)
 clear hm hn hkd hqq
 go_enter Tryz.func8, Tryz.ntmps8
 go_wp2_with fail
 refine (firstP5 _).mono ?_
 rintro e w0 ⟨rfl, hb0⟩
 have HB0 := Lib.hid hb0
 clear hb0
 go_wp2_with fail
 refine (KM.out _).mono ?_
 rintro e w1 ⟨rfl, rfl⟩
 clear KM
 go_wp2_with fail
 go_loopw [9, 10] (fun sv iv wr => ∃ (i : Nat) (s : ByteArray), i ≤ k ∧ iv = .int .i64 (i : Int) ∧ sv = .string s ∧ s.size = 1 + 1 * i ∧ Hid (Below w.heap.size w wr)) (fun _ iv _ => k - (intOf iv).toNat)
 case atStart => exact ⟨0, ⟨#[34]⟩, Nat.zero_le _, rfl, rfl, rfl, HB0⟩
 case round =>
  clear HB0
  obtain ⟨i, s, hi, rfl, rfl, hs, HB0⟩ := hrel
  obtain ⟨wo, rfl⟩ : ∃ wo : World, wo = wr := ⟨_, rfl⟩
  have hsz := hs
  by_cases hik : i < k
  · have h2 : (i : Int) < (k : Int) := by omega
    have hsm : s.size + 1 ≤ maxLen := by unfold maxLen; omega
    go_wp2_with fail
    refine (KQ.out _).mono ?_
    rintro e w1 ⟨rfl, rfl⟩
    go_wp2_with fail
    go_roundw
    case rel => exact ⟨i + 1, s ++ ⟨#[97]⟩, by omega, by go_num, rfl, by rw [ByteArray.size_append]; show s.size + 1 = _; omega, HB0⟩
    case measure => simp [intOf]; omega
  · have h2 : ¬ (i : Int) < (k : Int) := by omega
    have hsm : s.size + 1 ≤ maxLen := by unfold maxLen; omega
    have hs2 : (s ++ ⟨#[34]⟩ : ByteArray).size ≤ 699 := by rw [ByteArray.size_append]; show s.size + 1 ≤ _; omega
    go_wp2_with fail
    refine (KQ.out _).mono ?_
    rintro e w1 ⟨rfl, rfl⟩
    go_upto_region 20 with fail
    obtain ⟨t, ht⟩ : ∃ t, s ++ ⟨#[34]⟩ = t := ⟨_, rfl⟩
    rw [ht] at hs2
    try rw [ht]
    clear hsm
    obtain ⟨x, p, os, hol, hP, hR⟩ := bothRd t ⟨#[117, 115, 101, 114]⟩ (SmS.of (by omega))
    have HOL := Lib.hid hol
    have KP := Lib.hid hP
    have KR := Lib.hid hR
    have HB := HB0
    clear hol hP hR hs hs2 HB0
    go_wp2_with fail
    refine (packagesR _).mono ?_
    rintro e w1 ⟨x1, rfl, hx1, hb1⟩
    have HX1 := Lib.hid hx1
    replace HB := Lib.hid (chain5 HB.out hb1)
    clear hx1 hb1
    go_wp2_with fail
    refine (KP.out _ _ HX1.out).mono ?_
    rintro e w2 ⟨v2, xs2, rfl, hi2, hf2, hb2⟩
    have hal := Below.alloc (Below.refl w2.heap.size w2) (Nat.le_refl _) (.cells #[.int .i64 x, .int .i64 p] 26)
    replace HB := Lib.hid (chain5 (chain5 HB.out hb2) hal)
    have E2 : Hid (EB (w2.alloc (.cells #[.int .i64 x, .int .i64 p] 26)) w2.heap.size (.int .i64 x) (.int .i64 p)) := EB.new _ _ _
    have V2 := Lib.hid (hi2.keep hal)
    have F2 := Lib.hid hf2
    clear hi2 hf2 hb2 hal HX1
    go_upto_region 21 with fail
    generalize (w2.alloc (.cells #[.int .i64 x, .int .i64 p] 26)) = W3 at HB E2 V2 ⊢
    generalize w2.heap.size = g2 at E2 V2 ⊢
    go_wp2_with fail
    refine (packagesR _).mono ?_
    rintro e w4 ⟨x4, rfl, hx4, hb4⟩
    have HX4 := Lib.hid hx4
    replace HB := Lib.hid (chain5 HB.out hb4)
    replace E2 := Lib.hid (E2.out.keep hb4)
    replace V2 := Lib.hid (V2.out.keep hb4)
    clear hx4 hb4
    go_wp2_with fail
    refine (KR.out _ _ HX4.out).mono ?_
    rintro e w5 ⟨v5, xs5, rfl, hi5, hf5, hb5⟩
    have hal := Below.alloc (Below.refl w5.heap.size w5) (Nat.le_refl _) (.cells #[.int .i64 x, .int .i64 p] 26)
    have hbb := chain5 hb5 hal
    replace HB := Lib.hid (chain5 HB.out hbb)
    replace E2 := Lib.hid (E2.out.keep hbb)
    replace V2 := Lib.hid (V2.out.keep hbb)
    have E5 : Hid (EB (w5.alloc (.cells #[.int .i64 x, .int .i64 p] 26)) w5.heap.size (.int .i64 x) (.int .i64 p)) := EB.new _ _ _
    have V5 := Lib.hid (hi5.keep hal)
    have F5 := Lib.hid hf5
    clear hi5 hf5 hb5 hal hbb HX4
    go_upto_region 22 with fail
    generalize (w5.alloc (.cells #[.int .i64 x, .int .i64 p] 26)) = W6 at HB E2 V2 E5 V5 ⊢
    generalize w5.heap.size = g5 at E5 V5 ⊢
    have c0 := E2.out.c0
    have c1 := E2.out.c1
    have d0 := E5.out.c0
    have d1 := E5.out.c1
    go_wp2_with fail
    refine (sameAllP xs2 xs5 v2 v5 _ _ _ V2.out V5.out (F2.out.trans F5.out.symm) (by rw [← fsts_len, F2.out]; exact HOL.out)).mono ?_
    rintro e w7 ⟨rfl, hb7⟩
    have HB7 := Lib.hid (chain5 HB.out hb7)
    clear hb7 c0 c1 d0 d1
    go_wp2
    go_ret
    exact ⟨rfl, HB7.out⟩
theorem lawLong3 (kd n : Int) (w : World) (hkd : -9223372036854775808 ≤ kd ∧ kd ≤ 9223372036854775807) (hn : -9223372036854775808 ≤ n ∧ n ≤ 9223372036854775807) (hm : kd % 5 = 3) : Calls Tryz.prog 8 #[.int .i64 kd, .int .i64 n] w (Sy.RetY w (.bool true)) := by
 have KM := Lib.hid (fun w => modO kd 5 w hkd.1 hkd.2 (by decide) (by decide))
 have KQ := Lib.hid (fun w => modO n 3 w hn.1 hn.2 (by decide) (by decide))
 rw [hm] at KM
 have hq0 : 0 ≤ n % 3 := Int.emod_nonneg _ (by decide)
 have hq1 : n % 3 < 3 := Int.emod_lt_of_pos _ (by decide)
 obtain ⟨k, hk⟩ : ∃ k : Nat, 99 + n % 3 = (k : Int) := ⟨(99 + n % 3).toNat, by omega⟩
 have hk2 : k ≤ 101 := by omega
 obtain ⟨q, hqq⟩ : ∃ q, n % 3 = q := ⟨_, rfl⟩
 rw [hqq] at KQ hk hq0 hq1
 have hw1 : IntKind.i64.wrap (99 + q) = (k : Int) := by rw [hk]; exact IntWalk.i64_in _ (by omega)
 clear hm hn hkd hqq
 go_enter Tryz.func8, Tryz.ntmps8
 go_wp2_with fail
 refine (firstP5 _).mono ?_
 rintro e w0 ⟨rfl, hb0⟩
 have HB0 := Lib.hid hb0
 clear hb0
 go_wp2_with fail
 refine (KM.out _).mono ?_
 rintro e w1 ⟨rfl, rfl⟩
 clear KM
 go_wp2_with fail
 go_loopw [9, 10] (fun sv iv wr => ∃ (i : Nat) (s : ByteArray), i ≤ k ∧ iv = .int .i64 (i : Int) ∧ sv = .string s ∧ s.size = 1 + 1 * i ∧ Hid (Below w.heap.size w wr)) (fun _ iv _ => k - (intOf iv).toNat)
 case atStart => exact ⟨0, ⟨#[45]⟩, Nat.zero_le _, rfl, rfl, rfl, HB0⟩
 case round =>
  clear HB0
  obtain ⟨i, s, hi, rfl, rfl, hs, HB0⟩ := hrel
  obtain ⟨wo, rfl⟩ : ∃ wo : World, wo = wr := ⟨_, rfl⟩
  have hsz := hs
  by_cases hik : i < k
  · have h2 : (i : Int) < (k : Int) := by omega
    have hsm : s.size + 1 ≤ maxLen := by unfold maxLen; omega
    go_wp2_with fail
    refine (KQ.out _).mono ?_
    rintro e w1 ⟨rfl, rfl⟩
    go_wp2_with fail
    go_roundw
    case rel => exact ⟨i + 1, s ++ ⟨#[49]⟩, by omega, by go_num, rfl, by rw [ByteArray.size_append]; show s.size + 1 = _; omega, HB0⟩
    case measure => simp [intOf]; omega
  · have h2 : ¬ (i : Int) < (k : Int) := by omega
    have hsm : s.size + 0 ≤ maxLen := by unfold maxLen; omega
    have hs2 : (s ++ ⟨#[]⟩ : ByteArray).size ≤ 699 := by rw [ByteArray.size_append]; show s.size + 0 ≤ _; omega
    go_wp2_with fail
    refine (KQ.out _).mono ?_
    rintro e w1 ⟨rfl, rfl⟩
    go_upto_region 20 with fail
    obtain ⟨t, ht⟩ : ∃ t, s ++ ⟨#[]⟩ = t := ⟨_, rfl⟩
    rw [ht] at hs2
    try rw [ht]
    clear hsm
    obtain ⟨x, p, os, hol, hP, hR⟩ := bothRd t ⟨#[117, 115, 101, 114]⟩ (SmS.of (by omega))
    have HOL := Lib.hid hol
    have KP := Lib.hid hP
    have KR := Lib.hid hR
    have HB := HB0
    clear hol hP hR hs hs2 HB0
    go_wp2_with fail
    refine (packagesR _).mono ?_
    rintro e w1 ⟨x1, rfl, hx1, hb1⟩
    have HX1 := Lib.hid hx1
    replace HB := Lib.hid (chain5 HB.out hb1)
    clear hx1 hb1
    go_wp2_with fail
    refine (KP.out _ _ HX1.out).mono ?_
    rintro e w2 ⟨v2, xs2, rfl, hi2, hf2, hb2⟩
    have hal := Below.alloc (Below.refl w2.heap.size w2) (Nat.le_refl _) (.cells #[.int .i64 x, .int .i64 p] 26)
    replace HB := Lib.hid (chain5 (chain5 HB.out hb2) hal)
    have E2 : Hid (EB (w2.alloc (.cells #[.int .i64 x, .int .i64 p] 26)) w2.heap.size (.int .i64 x) (.int .i64 p)) := EB.new _ _ _
    have V2 := Lib.hid (hi2.keep hal)
    have F2 := Lib.hid hf2
    clear hi2 hf2 hb2 hal HX1
    go_upto_region 21 with fail
    generalize (w2.alloc (.cells #[.int .i64 x, .int .i64 p] 26)) = W3 at HB E2 V2 ⊢
    generalize w2.heap.size = g2 at E2 V2 ⊢
    go_wp2_with fail
    refine (packagesR _).mono ?_
    rintro e w4 ⟨x4, rfl, hx4, hb4⟩
    have HX4 := Lib.hid hx4
    replace HB := Lib.hid (chain5 HB.out hb4)
    replace E2 := Lib.hid (E2.out.keep hb4)
    replace V2 := Lib.hid (V2.out.keep hb4)
    clear hx4 hb4
    go_wp2_with fail
    refine (KR.out _ _ HX4.out).mono ?_
    rintro e w5 ⟨v5, xs5, rfl, hi5, hf5, hb5⟩
    have hal := Below.alloc (Below.refl w5.heap.size w5) (Nat.le_refl _) (.cells #[.int .i64 x, .int .i64 p] 26)
    have hbb := chain5 hb5 hal
    replace HB := Lib.hid (chain5 HB.out hbb)
    replace E2 := Lib.hid (E2.out.keep hbb)
    replace V2 := Lib.hid (V2.out.keep hbb)
    have E5 : Hid (EB (w5.alloc (.cells #[.int .i64 x, .int .i64 p] 26)) w5.heap.size (.int .i64 x) (.int .i64 p)) := EB.new _ _ _
    have V5 := Lib.hid (hi5.keep hal)
    have F5 := Lib.hid hf5
    clear hi5 hf5 hb5 hal hbb HX4
    go_upto_region 22 with fail
    generalize (w5.alloc (.cells #[.int .i64 x, .int .i64 p] 26)) = W6 at HB E2 V2 E5 V5 ⊢
    generalize w5.heap.size = g5 at E5 V5 ⊢
    have c0 := E2.out.c0
    have c1 := E2.out.c1
    have d0 := E5.out.c0
    have d1 := E5.out.c1
    go_wp2_with fail
    refine (sameAllP xs2 xs5 v2 v5 _ _ _ V2.out V5.out (F2.out.trans F5.out.symm) (by rw [← fsts_len, F2.out]; exact HOL.out)).mono ?_
    rintro e w7 ⟨rfl, hb7⟩
    have HB7 := Lib.hid (chain5 HB.out hb7)
    clear hb7 c0 c1 d0 d1
    go_wp2
    go_ret
    exact ⟨rfl, HB7.out⟩
theorem lawLong4 (kd n : Int) (w : World) (hkd : -9223372036854775808 ≤ kd ∧ kd ≤ 9223372036854775807) (hn : -9223372036854775808 ≤ n ∧ n ≤ 9223372036854775807) (hm : kd % 5 = 4) : Calls Tryz.prog 8 #[.int .i64 kd, .int .i64 n] w (Sy.RetY w (.bool true)) := by
 have KM := Lib.hid (fun w => modO kd 5 w hkd.1 hkd.2 (by decide) (by decide))
 have KQ := Lib.hid (fun w => modO n 3 w hn.1 hn.2 (by decide) (by decide))
 rw [hm] at KM
 have hq0 : 0 ≤ n % 3 := Int.emod_nonneg _ (by decide)
 have hq1 : n % 3 < 3 := Int.emod_lt_of_pos _ (by decide)
 obtain ⟨k, hk⟩ : ∃ k : Nat, 5999 + n % 3 = (k : Int) := ⟨(5999 + n % 3).toNat, by omega⟩
 have hk2 : k ≤ 6001 := by omega
 obtain ⟨q, hqq⟩ : ∃ q, n % 3 = q := ⟨_, rfl⟩
 rw [hqq] at KQ hk hq0 hq1
 have hw1 : IntKind.i64.wrap (5999 + q) = (k : Int) := by rw [hk]; exact IntWalk.i64_in _ (by omega)
 clear hm hn hkd hqq
 go_enter Tryz.func8, Tryz.ntmps8
 go_wp2_with fail
 refine (firstP5 _).mono ?_
 rintro e w0 ⟨rfl, hb0⟩
 have HB0 := Lib.hid hb0
 clear hb0
 go_wp2_with fail
 refine (KM.out _).mono ?_
 rintro e w1 ⟨rfl, rfl⟩
 clear KM
 go_wp2_with fail
 go_loopw [9, 10] (fun sv iv wr => ∃ (i : Nat) (s : ByteArray), i ≤ k ∧ iv = .int .i64 (i : Int) ∧ sv = .string s ∧ LA s = List.replicate i 32 ∧ Hid (Below w.heap.size w wr)) (fun _ iv _ => k - (intOf iv).toNat)
 case atStart => exact ⟨0, ⟨#[]⟩, Nat.zero_le _, rfl, rfl, rfl, HB0⟩
 case round =>
  clear HB0
  obtain ⟨i, s, hi, rfl, rfl, hs, HB0⟩ := hrel
  obtain ⟨wo, rfl⟩ : ∃ wo : World, wo = wr := ⟨_, rfl⟩
  have hsz : s.size = i := by rw [← la_length, hs, List.length_replicate]
  by_cases hik : i < k
  · have h2 : (i : Int) < (k : Int) := by omega
    have hsm : s.size + 1 ≤ maxLen := by unfold maxLen; omega
    go_wp2_with fail
    refine (KQ.out _).mono ?_
    rintro e w1 ⟨rfl, rfl⟩
    go_wp2_with fail
    go_roundw
    case rel => exact ⟨i + 1, s ++ ⟨#[32]⟩, by omega, by go_num, rfl, by rw [la_app, hs, List.replicate_succ']; rfl, HB0⟩
    case measure => simp [intOf]; omega
  · have h2 : ¬ (i : Int) < (k : Int) := by omega
    have hsm : s.size + 0 ≤ maxLen := by unfold maxLen; omega
    have hs2 : LA (s ++ ⟨#[]⟩) = List.replicate i 32 := by rw [la_app, hs]; show List.replicate i 32 ++ [] = _; rw [List.append_nil]
    go_wp2_with fail
    refine (KQ.out _).mono ?_
    rintro e w1 ⟨rfl, rfl⟩
    go_upto_region 20 with fail
    obtain ⟨t, ht⟩ : ∃ t, s ++ ⟨#[]⟩ = t := ⟨_, rfl⟩
    rw [ht] at hs2
    try rw [ht]
    clear hsm
    obtain ⟨x, p, os, hol, hP, hR⟩ := bothRd t ⟨#[117, 115, 101, 114]⟩ (SmS.spaces (n := i) hs2 (by omega))
    have HOL := Lib.hid hol
    have KP := Lib.hid hP
    have KR := Lib.hid hR
    have HB := HB0
    clear hol hP hR hs hs2 HB0
    go_wp2_with fail
    refine (packagesR _).mono ?_
    rintro e w1 ⟨x1, rfl, hx1, hb1⟩
    have HX1 := Lib.hid hx1
    replace HB := Lib.hid (chain5 HB.out hb1)
    clear hx1 hb1
    go_wp2_with fail
    refine (KP.out _ _ HX1.out).mono ?_
    rintro e w2 ⟨v2, xs2, rfl, hi2, hf2, hb2⟩
    have hal := Below.alloc (Below.refl w2.heap.size w2) (Nat.le_refl _) (.cells #[.int .i64 x, .int .i64 p] 26)
    replace HB := Lib.hid (chain5 (chain5 HB.out hb2) hal)
    have E2 : Hid (EB (w2.alloc (.cells #[.int .i64 x, .int .i64 p] 26)) w2.heap.size (.int .i64 x) (.int .i64 p)) := EB.new _ _ _
    have V2 := Lib.hid (hi2.keep hal)
    have F2 := Lib.hid hf2
    clear hi2 hf2 hb2 hal HX1
    go_upto_region 21 with fail
    generalize (w2.alloc (.cells #[.int .i64 x, .int .i64 p] 26)) = W3 at HB E2 V2 ⊢
    generalize w2.heap.size = g2 at E2 V2 ⊢
    go_wp2_with fail
    refine (packagesR _).mono ?_
    rintro e w4 ⟨x4, rfl, hx4, hb4⟩
    have HX4 := Lib.hid hx4
    replace HB := Lib.hid (chain5 HB.out hb4)
    replace E2 := Lib.hid (E2.out.keep hb4)
    replace V2 := Lib.hid (V2.out.keep hb4)
    clear hx4 hb4
    go_wp2_with fail
    refine (KR.out _ _ HX4.out).mono ?_
    rintro e w5 ⟨v5, xs5, rfl, hi5, hf5, hb5⟩
    have hal := Below.alloc (Below.refl w5.heap.size w5) (Nat.le_refl _) (.cells #[.int .i64 x, .int .i64 p] 26)
    have hbb := chain5 hb5 hal
    replace HB := Lib.hid (chain5 HB.out hbb)
    replace E2 := Lib.hid (E2.out.keep hbb)
    replace V2 := Lib.hid (V2.out.keep hbb)
    have E5 : Hid (EB (w5.alloc (.cells #[.int .i64 x, .int .i64 p] 26)) w5.heap.size (.int .i64 x) (.int .i64 p)) := EB.new _ _ _
    have V5 := Lib.hid (hi5.keep hal)
    have F5 := Lib.hid hf5
    clear hi5 hf5 hb5 hal hbb HX4
    go_upto_region 22 with fail
    generalize (w5.alloc (.cells #[.int .i64 x, .int .i64 p] 26)) = W6 at HB E2 V2 E5 V5 ⊢
    generalize w5.heap.size = g5 at E5 V5 ⊢
    have c0 := E2.out.c0
    have c1 := E2.out.c1
    have d0 := E5.out.c0
    have d1 := E5.out.c1
    go_wp2_with fail
    refine (sameAllP xs2 xs5 v2 v5 _ _ _ V2.out V5.out (F2.out.trans F5.out.symm) (by rw [← fsts_len, F2.out]; exact HOL.out)).mono ?_
    rintro e w7 ⟨rfl, hb7⟩
    have HB7 := Lib.hid (chain5 HB.out hb7)
    clear hb7 c0 c1 d0 d1
    go_wp2
    go_ret
    exact ⟨rfl, HB7.out⟩
theorem lawLong (kd n : Int) (w : World) (hkd : -9223372036854775808 ≤ kd ∧ kd ≤ 9223372036854775807) (hn : -9223372036854775808 ≤ n ∧ n ≤ 9223372036854775807) : Calls Tryz.prog 8 #[.int .i64 kd, .int .i64 n] w (Sy.RetY w (.bool true)) := by
 have h0 : 0 ≤ kd % 5 := Int.emod_nonneg _ (by decide)
 have h1 : kd % 5 < 5 := Int.emod_lt_of_pos _ (by decide)
 by_cases e0 : kd % 5 = 0
 · exact lawLong0 kd n w hkd hn e0
 by_cases e1 : kd % 5 = 1
 · exact lawLong1 kd n w hkd hn e1
 by_cases e2 : kd % 5 = 2
 · exact lawLong2 kd n w hkd hn e2
 by_cases e3 : kd % 5 = 3
 · exact lawLong3 kd n w hkd hn e3
 · exact lawLong4 kd n w hkd hn (by omega)
end Go.Proofs.YtflnffgohbbhiaaGreatDoor
