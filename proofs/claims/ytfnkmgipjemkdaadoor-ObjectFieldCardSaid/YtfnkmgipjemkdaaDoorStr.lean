/- Texts: a minus sign at the head; which texts are decimals. -/
import Derived.Test.YtfnkmgipjemkdaaDoorMem
import Derived.Test.YtfnkmgipjemkdaaDoorChecked
import Derived.WalkKit
import Derived.WalkSpells
import Derived.WalkLawsBesides
import Derived.Lib.Hide
import Derived.Lib.Strings
namespace Go.Proofs.YtfnkmgipjemkdaaDoor
open Go Go.RowKit
set_option linter.unusedVariables false

theorem minus_piece (s : ByteArray) (h1 : 1 ≤ s.size) : ((s.extract 0 1).toList == [45]) = isMinus (LA s) := by
  rw [Lib.toList_data, Lib.extract_data]
  have hl : 0 < (LA s).length := by rw [LA_length]; omega
  unfold isMinus
  show ((((LA s).drop 0).take (1 - 0)) == [45]) = _
  generalize LA s = l at hl ⊢
  cases l with
  | nil => simp at hl
  | cons c r => simp

set_option maxHeartbeats 400000 in
set_option maxRecDepth 100000 in
theorem hasMinus (s : ByteArray) (w : World) (hs : s.size ≤ maxLen) (h1 : 1 ≤ s.size) :
    Calls Tryd.prog 82 #[.string s, .string ⟨#[45]⟩] w fun e w' => e = .returned (.bool (isMinus (LA s))) ∧ w = w' := by
  unfold maxLen at hs
  go_enter Tryd.func82, Tryd.ntmps82
  go_wp2
  go_ret
  exact ⟨ret_bool (minus_piece s h1), rfl⟩

theorem strip_minus_eq {s : ByteArray} (h : isMinus (LA s) = true) : BA (strip (LA s)) = s.extract 1 s.size := by
  unfold strip
  rw [if_pos h, Lib.extract_eq]
  have e : ((LA s).drop 1).take (s.size - 1) = (LA s).tail := by
    rw [List.take_of_length_le (by rw [List.length_drop, LA_length]; exact Nat.le_refl _), List.drop_one]
  show BA _ = BA (((LA s).drop 1).take (s.size - 1))
  rw [e]
theorem strip_plain_eq {s : ByteArray} (h : isMinus (LA s) = false) : BA (strip (LA s)) = s := by
  unfold strip
  rw [h]
  exact BA_LA s

set_option maxHeartbeats 400000 in
set_option maxRecDepth 100000 in
theorem trimMinus (s : ByteArray) (w : World) (hs : s.size ≤ maxLen) :
    Calls Tryd.prog 70 #[.string s, .string ⟨#[45]⟩] w fun e w' => e = .returned (.string (BA (strip (LA s)))) ∧ w = w' := by
  have hs0 := hs
  unfold maxLen at hs
  by_cases h1 : 1 ≤ s.size
  · cases hm : isMinus (LA s) with
    | true =>
      have He := Lib.hid (strip_minus_eq hm)
      go_enter Tryd.func70, Tryd.ntmps70
      go_wp2_with (first | (go_at_call 82; refine (hasMinus s _ hs0 h1).mono ?_; rintro e w' ⟨rfl, rfl⟩) | go_in)
      go_ret
      exact ⟨ret_string He.out.symm, rfl⟩
    | false =>
      have He := Lib.hid (strip_plain_eq hm)
      go_enter Tryd.func70, Tryd.ntmps70
      go_wp2_with (first | (go_at_call 82; refine (hasMinus s _ hs0 h1).mono ?_; rintro e w' ⟨rfl, rfl⟩) | go_in)
      go_ret
      exact ⟨ret_string He.out.symm, rfl⟩
  · have hm : isMinus (LA s) = false := by
      have hl : (LA s).length = 0 := by rw [LA_length]; omega
      rw [List.length_eq_zero_iff.1 hl]; rfl
    have He := Lib.hid (strip_plain_eq hm)
    clear hm
    go_enter Tryd.func70, Tryd.ntmps70
    go_wp2
    go_ret
    exact ⟨ret_string He.out.symm, rfl⟩

theorem LA_get (t : ByteArray) (i : Nat) (h : i < t.size) : (LA t)[i]? = some t[i] := by
  unfold LA
  rw [Array.getElem?_toList, Array.getElem?_eq_getElem h]
  rfl
theorem LA_ne {t : ByteArray} (h : 1 ≤ t.size) : ∃ r, LA t = t[0] :: r := by
  have h1 := LA_get t 0 h
  cases hl : LA t with
  | nil => rw [hl] at h1; cases h1
  | cons c r =>
    rw [hl] at h1
    simp only [List.getElem?_cons_zero, Option.some.injEq] at h1
    exact ⟨r, by rw [h1]⟩
theorem good_of_all {t : ByteArray} (h : 1 ≤ t.size) (h48 : t[0] ≠ 48) : goodDigits (LA t) = (LA t).all isDig := by
  obtain ⟨r, e⟩ := LA_ne h
  rw [e]
  simp only [goodDigits, List.all_cons]
  rw [show (t[0] != 48) = true from by simpa using h48, Bool.true_and]
theorem good_48 {t : ByteArray} (h : 1 ≤ t.size) (h48 : t[0] = 48) : goodDigits (LA t) = false := by
  obtain ⟨r, e⟩ := LA_ne h
  rw [e, h48]
  simp [goodDigits]
theorem all_take {t : ByteArray} {i : Nat} (h : i < t.size) (ht : ((LA t).take i).all isDig = true) (hd : isDig t[i] = true) : ((LA t).take (i + 1)).all isDig = true := by
  rw [List.take_add_one, LA_get t i h, List.all_append, ht]
  simp [hd]
theorem all_not {t : ByteArray} {i : Nat} (h : i < t.size) (hd : isDig t[i] = false) : (LA t).all isDig = false := by
  rw [List.all_eq_false]
  have h1 := LA_get t i h
  exact ⟨t[i], List.mem_of_getElem? h1, by simpa using hd⟩
theorem isDig_iff (c : UInt8) : isDig c = true ↔ 48 ≤ (c.toNat : Int) ∧ (c.toNat : Int) ≤ 57 := by
  simp only [isDig, Bool.and_eq_true, decide_eq_true_eq]
  omega
theorem byte_ne_48 {c : UInt8} : ((c.toNat : Int) == 48) = (c == 48) := by
  rw [Bool.eq_iff_iff, beq_iff_eq, beq_iff_eq]
  constructor
  · intro h
    exact UInt8.toNat_inj.1 (by simp; omega)
  · intro h
    subst h
    rfl

set_option maxHeartbeats 400000 in
set_option maxRecDepth 100000 in
theorem valid_any (s : ByteArray) (w : World) (hs : s.size ≤ maxLen) :
    Calls Tryd.prog 69 #[.string s] w fun e w' => e = .returned (.bool (valid (LA s))) ∧ w = w' := by
  have hs0 := hs
  unfold maxLen at hs
  by_cases h48 : LA s = [48]
  · have e48 : (s.toList == [48]) = true := by rw [Lib.toList_data, beq_iff_eq]; exact h48
    have hv : Hid (valid (LA s) = true) := by show _ = _; rw [h48]; decide
    clear h48
    go_enter Tryd.func69, Tryd.ntmps69
    go_wp2_with fail
    go_ret
    exact ⟨ret_bool hv.out.symm, rfl⟩
  · have e48 : (s.toList == [48]) = false := by rw [Lib.toList_data, beq_eq_false_iff_ne]; exact h48
    have hv : Hid (valid (LA s) = goodDigits (strip (LA s))) := by
      show _ = _
      unfold valid
      rw [show (LA s == [48]) = false from by rw [beq_eq_false_iff_ne]; exact h48, Bool.false_or]
    have hts : (BA (strip (LA s))).size ≤ s.size := by rw [BA_size, ← LA_length s]; exact strip_length _
    clear h48
    go_enter Tryd.func69, Tryd.ntmps69
    go_wp2_with fail
    refine (trimMinus s _ hs0).mono ?_
    rintro e w' ⟨rfl, rfl⟩
    obtain ⟨t, ht⟩ : ∃ t, BA (strip (LA s)) = t := ⟨_, rfl⟩
    have hlt : strip (LA s) = LA t := by rw [← ht]; rfl
    rw [hlt] at hv
    rw [ht] at hts ⊢
    clear ht hlt
    by_cases h0 : 1 ≤ t.size
    · have hp : 0 < t.size := h0
      have hne1 : t.toList.isEmpty = false := by
        rw [Lib.toList_data]
        obtain ⟨r, e⟩ := LA_ne h0
        show (LA t).isEmpty = false
        rw [e]; rfl
      have hne2 : ¬ t.toList = [] := by intro e; rw [e] at hne1; cases hne1
      by_cases hz : t[0] = 48
      · have e0 : (((t[0]'hp).toNat : Int) == 48) = true := by rw [byte_ne_48, hz]; rfl
        have hg := Lib.hid (good_48 h0 hz)
        clear hz
        go_wp2
        go_ret
        exact ⟨ret_bool (by rw [hv.out, hg.out]), rfl⟩
      · have e0 : (((t[0]'hp).toNat : Int) == 48) = false := by rw [byte_ne_48, beq_eq_false_iff_ne]; exact hz
        have hg := Lib.hid (good_of_all h0 hz)
        clear hz
        go_wp2
        go_loop [17] (fun v => ∃ i : Nat, i ≤ t.size ∧ v = .int .i64 i ∧ Hid (((LA t).take i).all isDig = true)) (fun v => t.size - (intOf v).toNat)
        case atStart => exact ⟨0, Nat.zero_le _, rfl, rfl⟩
        case round =>
          obtain ⟨i, hi, rfl, hall⟩ := hrel
          by_cases hit : i < t.size
          · by_cases hd : isDig (t[i]'hit) = true
            · obtain ⟨b1, b2⟩ := (isDig_iff _).1 hd
              have hall2 := Lib.hid (all_take hit hall.out hd)
              clear hd hall
              go_wp2
              go_round
              case rel => exact ⟨i + 1, by omega, by go_num, hall2⟩
              case measure => simp [intOf]; omega
            · have hn := Lib.hid (all_not hit (by simpa using hd))
              have hd2 : ¬ (48 ≤ ((t[i]'hit).toNat : Int) ∧ ((t[i]'hit).toNat : Int) ≤ 57) := fun h => hd ((isDig_iff _).2 h)
              clear hd hall
              by_cases b1 : ((t[i]'hit).toNat : Int) < 48
              · clear hd2
                go_wp2
                go_ret
                exact ⟨ret_bool (by rw [hv.out, hg.out, hn.out]), rfl⟩
              · have b2 : 57 < ((t[i]'hit).toNat : Int) := by omega
                clear hd2
                go_wp2
                go_ret
                exact ⟨ret_bool (by rw [hv.out, hg.out, hn.out]), rfl⟩
          · have hfin : Hid ((LA t).all isDig = true) := by
              have := hall.out
              rw [List.take_of_length_le (by rw [LA_length]; omega)] at this
              exact this
            clear hall
            go_wp2
            go_ret
            exact ⟨ret_bool (by rw [hv.out, hg.out, hfin.out]), rfl⟩
    · have hl : LA t = [] := List.length_eq_zero_iff.1 (by rw [LA_length]; omega)
      have hne2 : t.toList = [] := by rw [Lib.toList_data]; exact hl
      have hv2 : Hid (valid (LA s) = false) := by show _ = _; rw [hv.out, hl]; rfl
      clear hl hv
      go_wp2
      go_ret
      exact ⟨ret_bool hv2.out.symm, rfl⟩

end Go.Proofs.YtfnkmgipjemkdaaDoor
