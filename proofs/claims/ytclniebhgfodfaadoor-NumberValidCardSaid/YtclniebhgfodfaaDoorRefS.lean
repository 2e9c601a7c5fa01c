/- The reference's Small. -/
import Derived.Test.YtclniebhgfodfaaDoorSmall
namespace Go.Proofs.YtclniebhgfodfaaDoor
open Go Go.RowKit
set_option linter.unusedVariables false

theorem small_len {l : List UInt8} : isSmall l = decide ((digs (mag l)).length ≤ 9) := by
  unfold isSmall
  rw [body_len]
  by_cases h0 : mag l = 0
  · rw [if_pos h0, h0]; rfl
  · rw [if_neg h0]
theorem tail_lt {n k : Nat} (hn : (digs n).length ≤ 9) : ofD ((digs n).drop k) < 1000000000 := by
  have h1 := ofD_lt ((allDig_digs n).drop k)
  have h2 : ((digs n).drop k).length ≤ 9 := by rw [List.length_drop]; omega
  have h3 : 10 ^ ((digs n).drop k).length ≤ 10 ^ 9 := Nat.pow_le_pow_right (by decide) h2
  omega

set_option maxHeartbeats 2000000 in
theorem smallR (s : ByteArray) (w : World) (hs : s.size ≤ 400000000) :
    Calls Tryd.prog 16 #[.string s] w (RetNB w (smallVal (LA s)) (isSmall (LA s))) := by
  obtain ⟨L, hL⟩ : ∃ L, (digs (mag (LA s))).length = L := ⟨_, rfl⟩
  have hlen := small_len (l := LA s)
  rw [hL] at hlen
  have HL := Lib.hid hL
  by_cases h9 : L ≤ 9
  · have hsm : isSmall (LA s) = true := by rw [hlen]; exact decide_eq_true h9
    have hsv : smallVal (LA s) = val (LA s) := by unfold smallVal; rw [hsm]; rfl
    rw [hsm, hsv]
    have hmag : Hid (ofD ((digs (mag (LA s))).drop 0) = mag (LA s)) := by show _ = _; rw [List.drop_zero, ofD_digs]
    have hm9 : mag (LA s) < 1000000000 := by rw [← hmag.out]; exact tail_lt (by rw [hL]; exact h9)
    clear hsm hsv hlen hL
    cases hn : neg (LA s) with
    | false =>
      have hv : Hid (val (LA s) = (mag (LA s) : Int)) := by show _ = _; rw [val_eq, hn]; rfl
      replace hn := Lib.hid hn
      rw [hv.out]
      go_enter Tryd.func16, Tryd.ntmps16
      go_wp2_with fail
      refine (digitsR s _ (by omega)).mono ?_
      rintro e w1 ⟨A1, c1, rfl, hc1, hR1, hb1⟩
      rw [HL.out, hn.out]
      go_wp2
      go_loop [6, 7] (fun u v => ∃ k : Nat, k ≤ L ∧ v = .int .i64 ((k : Int) - 1) ∧ u = .int .i64 (ofD ((digs (mag (LA s))).drop k) : Nat)) (fun _ v => (intOf v + 1).toNat)
      case atStart => exact ⟨L, Nat.le_refl _, rfl, by rw [List.drop_eq_nil_of_le (by rw [HL.out]; exact Nat.le_refl _)]; rfl⟩
      obtain ⟨k, hk, rfl, rfl⟩ := hrel
      by_cases hk0 : 0 < k
      · obtain ⟨b1, o1, rfl, hB1, hcell1⟩ := hR1 (by rw [HL.out]; omega)
        replace hcell1 := hcell1 (k - 1) (by rw [HL.out]; omega)
        have hp0 : (0 : Int) ≤ (k : Int) - 1 := by omega
        have hp1 : (k : Int) - 1 < L := by omega
        have x0 := dg_nonneg (digs (mag (LA s))) (k - 1)
        have x1 := dg_lt (allDig_digs (mag (LA s))) (k - 1)
        have hstep : Hid (((ofD ((digs (mag (LA s))).drop (k - 1)) : Nat) : Int) = 10 * ((ofD ((digs (mag (LA s))).drop k) : Nat) : Int) + dg (digs (mag (LA s))) (k - 1)) := by
          show _ = _
          rw [drop_cons _ (k - 1) (by rw [HL.out]; omega), show k - 1 + 1 = k from by omega]
          unfold dg
          omega
        have hv1 := tail_lt (n := mag (LA s)) (k := k) (by rw [HL.out]; exact h9)
        go_wp2
        go_round
        case rel => exact ⟨k - 1, by omega, by go_num, by rw [hstep.out]⟩
        case measure => simp [intOf]; omega
      · obtain rfl : k = 0 := by omega
        rw [hmag.out]
        go_wp2
        go_ret2
        exact ⟨rfl, hb1⟩
    | true =>
      have hv : Hid (val (LA s) = -(mag (LA s) : Int)) := by show _ = _; rw [val_eq, hn]; rfl
      replace hn := Lib.hid hn
      rw [hv.out]
      go_enter Tryd.func16, Tryd.ntmps16
      go_wp2_with fail
      refine (digitsR s _ (by omega)).mono ?_
      rintro e w1 ⟨A1, c1, rfl, hc1, hR1, hb1⟩
      rw [HL.out, hn.out]
      go_wp2
      go_loop [6, 7] (fun u v => ∃ k : Nat, k ≤ L ∧ v = .int .i64 ((k : Int) - 1) ∧ u = .int .i64 (ofD ((digs (mag (LA s))).drop k) : Nat)) (fun _ v => (intOf v + 1).toNat)
      case atStart => exact ⟨L, Nat.le_refl _, rfl, by rw [List.drop_eq_nil_of_le (by rw [HL.out]; exact Nat.le_refl _)]; rfl⟩
      obtain ⟨k, hk, rfl, rfl⟩ := hrel
      by_cases hk0 : 0 < k
      · obtain ⟨b1, o1, rfl, hB1, hcell1⟩ := hR1 (by rw [HL.out]; omega)
        replace hcell1 := hcell1 (k - 1) (by rw [HL.out]; omega)
        have hp0 : (0 : Int) ≤ (k : Int) - 1 := by omega
        have hp1 : (k : Int) - 1 < L := by omega
        have x0 := dg_nonneg (digs (mag (LA s))) (k - 1)
        have x1 := dg_lt (allDig_digs (mag (LA s))) (k - 1)
        have hstep : Hid (((ofD ((digs (mag (LA s))).drop (k - 1)) : Nat) : Int) = 10 * ((ofD ((digs (mag (LA s))).drop k) : Nat) : Int) + dg (digs (mag (LA s))) (k - 1)) := by
          show _ = _
          rw [drop_cons _ (k - 1) (by rw [HL.out]; omega), show k - 1 + 1 = k from by omega]
          unfold dg
          omega
        have hv1 := tail_lt (n := mag (LA s)) (k := k) (by rw [HL.out]; exact h9)
        go_wp2
        go_round
        case rel => exact ⟨k - 1, by omega, by go_num, by rw [hstep.out]⟩
        case measure => simp [intOf]; omega
      · obtain rfl : k = 0 := by omega
        rw [hmag.out]
        go_wp2
        go_ret2
        exact ⟨rfl, hb1⟩
  · have hsm : isSmall (LA s) = false := by rw [hlen]; exact decide_eq_false h9
    have hsv : smallVal (LA s) = 0 := by unfold smallVal; rw [hsm]; rfl
    have h10 : 9 < L := by omega
    rw [hsm, hsv]
    clear hsm hsv hlen hL
    go_enter Tryd.func16, Tryd.ntmps16
    go_wp2_with fail
    refine (digitsR s _ (by omega)).mono ?_
    rintro e w1 ⟨A1, c1, rfl, hc1, hR1, hb1⟩
    rw [HL.out]
    go_wp2
    go_ret2
    exact ⟨rfl, hb1⟩

end Go.Proofs.YtclniebhgfodfaaDoor
