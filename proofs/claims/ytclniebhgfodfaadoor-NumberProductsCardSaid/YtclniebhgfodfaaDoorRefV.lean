/- The reference's Valid and digits. -/
import Derived.Test.YtclniebhgfodfaaDoorSplit
import Derived.Test.YtclniebhgfodfaaDoorRef2
namespace Go.Proofs.YtclniebhgfodfaaDoor
open Go Go.RowKit
set_option linter.unusedVariables false

theorem isMinus_at {s : ByteArray} (h : 0 < s.size) : (((s[0]'h).toNat : Int) == 45) = isMinus (LA s) := by
  obtain ⟨r, e⟩ := LA_ne (t := s) h
  rw [e]
  unfold isMinus
  simp only [List.head?_cons]
  rw [Bool.eq_iff_iff, beq_iff_eq, beq_iff_eq, Option.some.injEq]
  constructor
  · intro h1
    exact UInt8.toNat_inj.1 (by simp; omega)
  · intro h1
    rw [h1]; rfl
theorem drop_get {s : ByteArray} {f i : Nat} (hi : i < s.size) (hf : f ≤ i) : ((LA s).drop f)[i - f]? = some s[i] := by
  rw [List.getElem?_drop, show f + (i - f) = i from by omega]
  exact LA_get s i hi
theorem all_drop_step {s : ByteArray} {f i : Nat} (hi : i < s.size) (hf : f ≤ i) (ht : (((LA s).drop f).take (i - f)).all isDig = true) (hd : isDig s[i] = true) : (((LA s).drop f).take (i + 1 - f)).all isDig = true := by
  rw [show i + 1 - f = (i - f) + 1 from by omega, List.take_add_one, drop_get hi hf, List.all_append, ht]
  simp [hd]
theorem all_drop_not {s : ByteArray} {f i : Nat} (hi : i < s.size) (hf : f ≤ i) (hd : isDig s[i] = false) : ((LA s).drop f).all isDig = false := by
  rw [List.all_eq_false]
  exact ⟨s[i], List.mem_of_getElem? (drop_get hi hf), by simpa using hd⟩
theorem good_drop {s : ByteArray} {f : Nat} (h : f < s.size) (h48 : s[f] ≠ 48) : goodDigits ((LA s).drop f) = ((LA s).drop f).all isDig := by
  have hg := drop_get h (Nat.le_refl f)
  rw [Nat.sub_self] at hg
  cases hl : (LA s).drop f with
  | nil => rw [hl] at hg; cases hg
  | cons c r =>
    rw [hl] at hg
    simp only [List.getElem?_cons_zero, Option.some.injEq] at hg
    subst hg
    simp only [goodDigits, List.all_cons]
    rw [show (s[f] != 48) = true from by simpa using h48, Bool.true_and]
theorem good_drop48 {s : ByteArray} {f : Nat} (h : f < s.size) (h48 : s[f] = 48) : goodDigits ((LA s).drop f) = false := by
  have hg := drop_get h (Nat.le_refl f)
  rw [Nat.sub_self, h48] at hg
  cases hl : (LA s).drop f with
  | nil => rw [hl] at hg; cases hg
  | cons c r =>
    rw [hl] at hg
    simp only [List.getElem?_cons_zero, Option.some.injEq] at hg
    subst hg
    simp [goodDigits]
theorem good_drop_nil {s : ByteArray} {f : Nat} (h : s.size ≤ f) : goodDigits ((LA s).drop f) = false := by
  rw [List.drop_eq_nil_of_le (by rw [LA_length]; exact h)]; rfl

set_option maxHeartbeats 1000000 in
theorem validR (s : ByteArray) (w : World) (hs : s.size ≤ maxLen) :
    Calls Tryd.prog 18 #[.string s] w fun e w' => e = .returned (.bool (valid (LA s))) ∧ w = w' := by
  unfold maxLen at hs
  by_cases h48 : LA s = [48]
  · have e48 : (s.toList == [48]) = true := by rw [Lib.toList_data, beq_iff_eq]; exact h48
    have hv : Hid (valid (LA s) = true) := by show _ = _; rw [h48]; decide
    clear h48
    go_enter Tryd.func18, Tryd.ntmps18
    go_wp2_with fail
    go_ret
    exact ⟨ret_bool hv.out.symm, rfl⟩
  · have e48 : (s.toList == [48]) = false := by rw [Lib.toList_data, beq_eq_false_iff_ne]; exact h48
    have hv : valid (LA s) = goodDigits (strip (LA s)) := by
      unfold valid
      rw [show (LA s == [48]) = false from by rw [beq_eq_false_iff_ne]; exact h48, Bool.false_or]
    clear h48
    by_cases h0 : 0 < s.size
    · have hne0 : ¬ s.size = 0 := by omega
      have hmin := isMinus_at h0
      have hne0 : ¬ s.size = 0 := by omega
      have hne1 : decide (s.size = 0) = false := decide_eq_false (by omega)
      have hne2 : decide (s.size ≤ 0) = false := decide_eq_false (by omega)
      cases hm : isMinus (LA s) with
      | true =>
        rw [hm] at hmin
        have hst : Hid (valid (LA s) = goodDigits ((LA s).drop 1)) := by show _ = _; rw [hv]; unfold strip; rw [if_pos hm, List.drop_one]
        clear hv hm
        by_cases hl : 1 < s.size
        · by_cases hz : s[1] = 48
          · have e0 : (((s[1]'hl).toNat : Int) == 48) = true := by rw [byte_ne_48, hz]; rfl
            have hg := Lib.hid (good_drop48 hl hz)
            clear hz
            go_enter Tryd.func18, Tryd.ntmps18
            go_wp2
            go_ret
            exact ⟨ret_bool (by rw [hst.out, hg.out]), rfl⟩
          · have e0 : (((s[1]'hl).toNat : Int) == 48) = false := by rw [byte_ne_48, beq_eq_false_iff_ne]; exact hz
            have hg := Lib.hid (good_drop hl hz)
            clear hz
            go_enter Tryd.func18, Tryd.ntmps18
            go_wp2
            go_loop [4] (fun v => ∃ i : Nat, 1 ≤ i ∧ i ≤ s.size ∧ v = .int .i64 i ∧ Hid ((((LA s).drop 1).take (i - 1)).all isDig = true)) (fun v => s.size - (intOf v).toNat)
            case atStart => exact ⟨1, Nat.le_refl _, by omega, rfl, rfl⟩
            case round =>
              obtain ⟨i, hF, hi, rfl, hall⟩ := hrel
              by_cases hit : i < s.size
              · by_cases hd : isDig (s[i]'hit) = true
                · obtain ⟨b1, b2⟩ := (isDig_iff _).1 hd
                  have hall2 := Lib.hid (all_drop_step hit hF hall.out hd)
                  clear hd hall
                  go_wp2
                  go_round
                  case rel => exact ⟨i + 1, by omega, by omega, by go_num, hall2⟩
                  case measure => simp [intOf]; omega
                · have hn := Lib.hid (all_drop_not hit hF (by simpa using hd))
                  have hd2 : ¬ (48 ≤ ((s[i]'hit).toNat : Int) ∧ ((s[i]'hit).toNat : Int) ≤ 57) := fun h => hd ((isDig_iff _).2 h)
                  clear hd hall
                  by_cases b1 : ((s[i]'hit).toNat : Int) < 48
                  · clear hd2
                    go_wp2
                    go_ret
                    exact ⟨ret_bool (by rw [hst.out, hg.out, hn.out]), rfl⟩
                  · have b2 : 57 < ((s[i]'hit).toNat : Int) := by omega
                    clear hd2
                    go_wp2
                    go_ret
                    exact ⟨ret_bool (by rw [hst.out, hg.out, hn.out]), rfl⟩
              · have hfin : Hid (((LA s).drop 1).all isDig = true) := by
                  have := hall.out
                  rw [List.take_of_length_le (by rw [List.length_drop, LA_length]; omega)] at this
                  exact this
                clear hall
                go_wp2
                go_ret
                exact ⟨ret_bool (by rw [hst.out, hg.out, hfin.out]), rfl⟩
        · have hg := Lib.hid (good_drop_nil (s := s) (f := 1) (by omega))
          go_enter Tryd.func18, Tryd.ntmps18
          go_wp2
          go_ret
          exact ⟨ret_bool (by rw [hst.out, hg.out]), rfl⟩
      | false =>
        rw [hm] at hmin
        have hst : Hid (valid (LA s) = goodDigits ((LA s).drop 0)) := by show _ = _; rw [hv]; unfold strip; rw [hm]; rfl
        clear hv hm
        by_cases hl : 0 < s.size
        · by_cases hz : s[0] = 48
          · have e0 : (((s[0]'hl).toNat : Int) == 48) = true := by rw [byte_ne_48, hz]; rfl
            have hg := Lib.hid (good_drop48 hl hz)
            clear hz
            go_enter Tryd.func18, Tryd.ntmps18
            go_wp2
            go_ret
            exact ⟨ret_bool (by rw [hst.out, hg.out]), rfl⟩
          · have e0 : (((s[0]'hl).toNat : Int) == 48) = false := by rw [byte_ne_48, beq_eq_false_iff_ne]; exact hz
            have hg := Lib.hid (good_drop hl hz)
            clear hz
            go_enter Tryd.func18, Tryd.ntmps18
            go_wp2
            go_loop [4] (fun v => ∃ i : Nat, 0 ≤ i ∧ i ≤ s.size ∧ v = .int .i64 i ∧ Hid ((((LA s).drop 0).take (i - 0)).all isDig = true)) (fun v => s.size - (intOf v).toNat)
            case atStart => exact ⟨0, Nat.le_refl _, by omega, rfl, rfl⟩
            case round =>
              obtain ⟨i, hF, hi, rfl, hall⟩ := hrel
              by_cases hit : i < s.size
              · by_cases hd : isDig (s[i]'hit) = true
                · obtain ⟨b1, b2⟩ := (isDig_iff _).1 hd
                  have hall2 := Lib.hid (all_drop_step hit hF hall.out hd)
                  clear hd hall
                  go_wp2
                  go_round
                  case rel => exact ⟨i + 1, by omega, by omega, by go_num, hall2⟩
                  case measure => simp [intOf]; omega
                · have hn := Lib.hid (all_drop_not hit hF (by simpa using hd))
                  have hd2 : ¬ (48 ≤ ((s[i]'hit).toNat : Int) ∧ ((s[i]'hit).toNat : Int) ≤ 57) := fun h => hd ((isDig_iff _).2 h)
                  clear hd hall
                  by_cases b1 : ((s[i]'hit).toNat : Int) < 48
                  · clear hd2
                    go_wp2
                    go_ret
                    exact ⟨ret_bool (by rw [hst.out, hg.out, hn.out]), rfl⟩
                  · have b2 : 57 < ((s[i]'hit).toNat : Int) := by omega
                    clear hd2
                    go_wp2
                    go_ret
                    exact ⟨ret_bool (by rw [hst.out, hg.out, hn.out]), rfl⟩
              · have hfin : Hid (((LA s).drop 0).all isDig = true) := by
                  have := hall.out
                  rw [List.take_of_length_le (by rw [List.length_drop, LA_length]; omega)] at this
                  exact this
                clear hall
                go_wp2
                go_ret
                exact ⟨ret_bool (by rw [hst.out, hg.out, hfin.out]), rfl⟩
        · exact absurd h0 hl
    · have hz0 : s.size = 0 := by omega
      have hst : Hid (valid (LA s) = false) := by
        show _ = _
        rw [hv, List.length_eq_zero_iff.1 (show (LA s).length = 0 by rw [LA_length]; omega)]; rfl
      clear hv
      go_enter Tryd.func18, Tryd.ntmps18
      go_wp2
      go_ret
      exact ⟨ret_bool hst.out.symm, rfl⟩

end Go.Proofs.YtclniebhgfodfaaDoor
