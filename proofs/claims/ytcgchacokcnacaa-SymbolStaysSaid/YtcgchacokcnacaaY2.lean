/- Which names are package names: the reference. -/
import Derived.Test.YtcgchacokcnacaaY1
namespace Go.Proofs.Ytcgchacokcnacaa
open Go Go.RowKit
set_option linter.unusedVariables false

set_option maxHeartbeats 4000000 in
set_option maxRecDepth 100000 in
theorem packageY (s : ByteArray) (w : World) : Calls Try.prog 29 #[.string s] w fun e w' => e = .returned (.bool (pkgOk s)) ∧ w = w' := by
  cases hn : nameOk s with
  | false =>
    have hp : Hid (pkgOk s = false) := by show _ = _; unfold pkgOk; rw [hn]; rfl
    by_cases h1 : (s.size : Int) < 1
    · go_enter Try.func29, Try.ntmps29
      go_wp2
      go_ret
      exact ⟨ret_boolY hp.out.symm, rfl⟩
    · have h2 : 40 < (s.size : Int) := by
        unfold nameOk at hn
        rw [Bool.and_eq_false_iff, decide_eq_false_iff_not, decide_eq_false_iff_not] at hn
        omega
      clear hn
      go_enter Try.func29, Try.ntmps29
      go_wp2
      go_ret
      exact ⟨ret_boolY hp.out.symm, rfl⟩
  | true =>
    have hn' := hn
    unfold nameOk at hn'
    rw [Bool.and_eq_true, decide_eq_true_eq, decide_eq_true_eq] at hn'
    obtain ⟨h1, h2⟩ := hn'
    have h0 : 0 < s.size := h1
    have g1 : ¬ (s.size : Int) < 1 := by omega
    have g2 : ¬ 40 < (s.size : Int) := by omega
    cases hl : letB ((s[0]'h0).toNat : Int) with
    | false =>
      have hp : Hid (pkgOk s = false) := by show _ = _; unfold pkgOk; rw [firstLet_at h0, hl]; simp
      unfold letB at hl
      rw [Bool.and_eq_false_iff, decide_eq_false_iff_not, decide_eq_false_iff_not] at hl
      clear hn
      by_cases k1 : ((s[0]'h0).toNat : Int) < 97
      · clear hl
        go_enter Try.func29, Try.ntmps29
        go_wp2
        go_ret
        exact ⟨ret_boolY hp.out.symm, rfl⟩
      · have k2 : 122 < ((s[0]'h0).toNat : Int) := by omega
        clear hl
        go_enter Try.func29, Try.ntmps29
        go_wp2
        go_ret
        exact ⟨ret_boolY hp.out.symm, rfl⟩
    | true =>
      have hp : pkgOk s = (bl s).all okU := by unfold pkgOk; rw [hn, firstLet_at h0, hl]; simp
      rw [hp]
      obtain ⟨R, hR⟩ : ∃ R, (bl s).all okU = R := ⟨_, rfl⟩
      have H0 : Hid (((bl s).drop 0).all okU = R) := by show _ = _; rw [List.drop_zero, hR]
      rw [hR]
      clear hR hp
      unfold letB at hl
      rw [Bool.and_eq_true, decide_eq_true_eq, decide_eq_true_eq] at hl
      have k1 : ¬ ((s[0]'h0).toNat : Int) < 97 := by omega
      have k2 : ¬ 122 < ((s[0]'h0).toNat : Int) := by omega
      clear hn hl
      go_enter Try.func29, Try.ntmps29
      go_wp2_with fail
      go_loop [3] (fun v => ∃ i : Nat, i ≤ s.size ∧ v = .int .i64 i ∧ Hid (((bl s).drop i).all okU = R)) (fun v => s.size - (intOf v).toNat)
      case atStart => exact ⟨0, by omega, rfl, H0⟩
      case round =>
        obtain ⟨i, hi, rfl, hE⟩ := hrel
        by_cases his : i < s.size
        · have hst := bl_drop his
          have hE1 : (okU (s[i]'his) && ((bl s).drop (i + 1)).all okU) = R := by have := hE.out; rw [hst, List.all_cons] at this; exact this
          clear hst hE
          clear k1 k2 g1 g2
          have hok : okU (s[i]'his) = (letB ((s[i]'his).toNat : Int) || digB ((s[i]'his).toNat : Int) || decide (((s[i]'his).toNat : Int) = 45)) := rfl
          unfold letB digB at hok
          by_cases c1 : ((s[i]'his).toNat : Int) < 48
          · by_cases c2 : ((s[i]'his).toNat : Int) = 45
            · have hk : okU (s[i]'his) = true := by rw [hok, c2]; rfl
              rw [hk, Bool.true_and] at hE1
              replace hE1 := Lib.hid hE1
              clear hk hok c1
              go_wp2
              go_round
              case rel => exact ⟨i + 1, by omega, by go_num, hE1⟩
              case measure => simp [intOf]; omega
            · have hk : okU (s[i]'his) = false := by rw [hok, decide_eq_false (show ¬ (97 : Int) ≤ ((s[i]'his).toNat : Int) by omega), decide_eq_false (show ¬ (48 : Int) ≤ ((s[i]'his).toNat : Int) by omega), decide_eq_false c2]; rfl
              rw [hk, Bool.false_and] at hE1
              replace hE1 := Lib.hid hE1
              have c3 : ((s[i]'his).toNat : Int) < 97 := by omega
              clear hk hok
              go_wp2
              go_ret
              exact ⟨ret_boolY hE1.out, rfl⟩
          · by_cases c2 : 57 < ((s[i]'his).toNat : Int)
            · by_cases c3 : ((s[i]'his).toNat : Int) < 97
              · have hk : okU (s[i]'his) = false := by rw [hok, decide_eq_false (show ¬ (97 : Int) ≤ ((s[i]'his).toNat : Int) by omega), decide_eq_false (show ¬ ((s[i]'his).toNat : Int) ≤ 57 by omega), decide_eq_false (show ¬ ((s[i]'his).toNat : Int) = 45 by omega)]; simp
                rw [hk, Bool.false_and] at hE1
                replace hE1 := Lib.hid hE1
                have c4 : ¬ ((s[i]'his).toNat : Int) = 45 := by omega
                clear hk hok
                go_wp2
                go_ret
                exact ⟨ret_boolY hE1.out, rfl⟩
              · by_cases c4 : 122 < ((s[i]'his).toNat : Int)
                · have hk : okU (s[i]'his) = false := by rw [hok, decide_eq_false (show ¬ ((s[i]'his).toNat : Int) ≤ 122 by omega), decide_eq_false (show ¬ ((s[i]'his).toNat : Int) ≤ 57 by omega), decide_eq_false (show ¬ ((s[i]'his).toNat : Int) = 45 by omega)]; simp
                  rw [hk, Bool.false_and] at hE1
                  replace hE1 := Lib.hid hE1
                  have c5 : ¬ ((s[i]'his).toNat : Int) = 45 := by omega
                  clear hk hok
                  go_wp2
                  go_ret
                  exact ⟨ret_boolY hE1.out, rfl⟩
                · have hk : okU (s[i]'his) = true := by rw [hok, decide_eq_true (show (97 : Int) ≤ ((s[i]'his).toNat : Int) by omega), decide_eq_true (show ((s[i]'his).toNat : Int) ≤ 122 by omega)]; rfl
                  rw [hk, Bool.true_and] at hE1
                  replace hE1 := Lib.hid hE1
                  clear hk hok
                  go_wp2
                  go_round
                  case rel => exact ⟨i + 1, by omega, by go_num, hE1⟩
                  case measure => simp [intOf]; omega
            · have c3 : ((s[i]'his).toNat : Int) < 97 := by omega
              have hk : okU (s[i]'his) = true := by rw [hok, decide_eq_true (show (48 : Int) ≤ ((s[i]'his).toNat : Int) by omega), decide_eq_true (show ((s[i]'his).toNat : Int) ≤ 57 by omega)]; simp
              rw [hk, Bool.true_and] at hE1
              replace hE1 := Lib.hid hE1
              clear hk hok
              go_wp2
              go_round
              case rel => exact ⟨i + 1, by omega, by go_num, hE1⟩
              case measure => simp [intOf]; omega
        · have hiE : i = s.size := by omega
          have hr : Hid (R = true) := by show _ = _; rw [← hE.out, List.drop_eq_nil_of_le (by rw [bl_length]; omega)]; rfl
          clear hE
          go_wp2
          go_ret
          exact ⟨ret_boolY hr.out.symm, rfl⟩
end Go.Proofs.Ytcgchacokcnacaa
