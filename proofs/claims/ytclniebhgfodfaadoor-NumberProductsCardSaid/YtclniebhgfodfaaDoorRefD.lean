/- The reference's digits: the sign and the digits of a text. -/
import Derived.Test.YtclniebhgfodfaaDoorRefV
namespace Go.Proofs.YtclniebhgfodfaaDoor
open Go Go.RowKit
set_option linter.unusedVariables false

/-- The call returned a sign and a slice of digits. -/
def RetBD (w : World) (b : Bool) (n : Nat) (e : Ending) (w' : World) : Prop :=
  ∃ A c, e = .returned (.tuple #[.bool b, .slice A (digs n).length c]) ∧ (digs n).length ≤ c ∧ Reads w' w'.heap.size .i64 A (digs n) ∧ Below w.heap.size w w'

theorem dig_above {s : ByteArray} {f i : Nat} (hi : i < s.size) (hf : f ≤ i) (h : ((LA s).drop f).all isDig = true) : isDig s[i] = true :=
  List.all_eq_true.1 h _ (List.mem_of_getElem? (drop_get hi hf))
/-- The digits of the last bytes, the last first. -/
def lastDigs (s : ByteArray) (k : Nat) : List Nat := (toDigs (LA s)).take (s.size - k)
theorem lastDigs_start (s : ByteArray) : lastDigs s s.size = [] := by unfold lastDigs; rw [Nat.sub_self, List.take_zero]
theorem lastDigs_length {s : ByteArray} {k : Nat} (hk : k ≤ s.size) : (lastDigs s k).length = s.size - k := by
  unfold lastDigs
  rw [List.length_take, toDigs_length, LA_length]
  omega
theorem lastDigs_step {s : ByteArray} {k : Nat} (h0 : 0 < k) (hk : k - 1 < s.size) : lastDigs s (k - 1) = lastDigs s k ++ [s[k - 1].toNat - 48] := by
  unfold lastDigs
  rw [show s.size - (k - 1) = (s.size - k) + 1 from by omega, List.take_add_one]
  have h := toDigs_get hk
  rw [show s.size - 1 - (k - 1) = s.size - k from by omega, List.getD_eq_getElem?_getD] at h
  have hl : s.size - k < (toDigs (LA s)).length := by rw [toDigs_length, LA_length]; omega
  rw [List.getElem?_eq_getElem hl] at h ⊢
  simp only [Option.getD_some] at h
  rw [h]
  rfl
theorem lastDigs_end {s : ByteArray} {f : Nat} (hf : f ≤ s.size) : lastDigs s f = toDigs ((LA s).drop f) := by
  unfold lastDigs toDigs
  rw [← LA_length s] at hf ⊢
  generalize LA s = l at hf ⊢
  rw [← List.map_take, List.take_reverse, show l.length - (l.length - f) = f from by omega]

set_option maxHeartbeats 2000000 in
theorem digitsR (s : ByteArray) (w : World) (hs : s.size ≤ 1000000000) :
    Calls Tryd.prog 40 #[.string s] w (RetBD w (neg (LA s)) (mag (LA s))) := by
  cases hv : valid (LA s) with
  | false =>
    have h1 : Hid (neg (LA s) = false) := by show _ = _; unfold neg; rw [hv]; rfl
    have h2 : Hid (mag (LA s) = 0) := by show _ = _; unfold mag body; rw [hv]; rfl
    go_enter Tryd.func40, Tryd.ntmps40
    go_wp2_with fail
    refine (validR s _ (by unfold maxLen; omega)).mono ?_
    rintro e w' ⟨rfl, rfl⟩
    go_wp2
    go_ret2
    exact ⟨none, 0, by rw [h1.out, h2.out]; rfl, by rw [h2.out]; exact Nat.le_refl _, by rw [h2.out]; exact Reads.nil_, Below.refl _ _⟩
  | true =>
    by_cases h48 : LA s = [48]
    · have e48 : (s.toList == [48]) = true := by rw [Lib.toList_data, beq_iff_eq]; exact h48
      have h1 : Hid (neg (LA s) = false) := by show _ = _; rw [h48]; decide
      have h2 : Hid (mag (LA s) = 0) := by show _ = _; rw [h48]; decide
      clear h48
      go_enter Tryd.func40, Tryd.ntmps40
      go_wp2_with fail
      refine (validR s _ (by unfold maxLen; omega)).mono ?_
      rintro e w' ⟨rfl, rfl⟩
      go_wp2
      go_ret2
      exact ⟨none, 0, by rw [h1.out, h2.out]; rfl, by rw [h2.out]; exact Nat.le_refl _, by rw [h2.out]; exact Reads.nil_, Below.refl _ _⟩
    · have e48 : (s.toList == [48]) = false := by rw [Lib.toList_data, beq_eq_false_iff_ne]; exact h48
      have hgood : goodDigits (strip (LA s)) = true := by
        unfold valid at hv
        rw [show (LA s == [48]) = false from by rw [beq_eq_false_iff_ne]; exact h48, Bool.false_or] at hv
        exact hv
      have h0 : 0 < s.size := by
        rcases Nat.eq_zero_or_pos s.size with h0 | h0
        · rw [List.length_eq_zero_iff.1 (show (LA s).length = 0 by rw [LA_length]; omega)] at hgood; cases hgood
        · exact h0
      have hbody : body (LA s) = strip (LA s) := by unfold body; rw [if_pos hv]
      have hneg : neg (LA s) = isMinus (LA s) := by unfold neg; rw [hv, Bool.true_and]
      have hmin := isMinus_at h0
      obtain ⟨i0, hi, hz0, hz1, hz2⟩ := info_parts infoI
      replace hi := Lib.hid hi
      replace hz0 := Lib.hid hz0
      replace hz1 := Lib.hid hz1
      replace hz2 := Lib.hid hz2
      have hdm := digs_mag (LA s)
      cases hm : isMinus (LA s) with
      | true =>
        have hdr : strip (LA s) = (LA s).drop 1 := by unfold strip; rw [if_pos hm, List.drop_one]
        rw [hm] at hmin hneg
        rw [hdr] at hgood hbody
        have hne : ¬ (LA s).drop 1 = [48] ∨ True := .inr trivial
        have hall : Hid (((LA s).drop 1).all isDig = true) := good_all hgood
        have hmg : Hid (ofD (lastDigs s 1) = mag (LA s)) := by show _ = _; rw [lastDigs_end (by omega)]; unfold mag; rw [hbody]
        have htr : Hid (Trimmed (lastDigs s 1)) := by show Trimmed _; rw [lastDigs_end (by omega)]; exact trimmed_toDigs hgood
        have had : Hid (AllDig (lastDigs s 1)) := by show AllDig _; rw [lastDigs_end (by omega)]; exact allDig_toDigs hall.out
        have Hneg := Lib.hid hneg
        clear hdr hdm hbody hgood hneg hm h48 hne
        go_enter Tryd.func40, Tryd.ntmps40
        go_wp2_with fail
        refine (validR s _ (by unfold maxLen; omega)).mono ?_
        rintro e w' ⟨rfl, rfl⟩
        go_wp2
        go_loopw [6, 7] (fun u v wr => ∃ k : Nat, 1 ≤ k ∧ k ≤ s.size ∧ v = .int .i64 ((k : Int) - 1) ∧ Hid (Own wr w.heap.size u (lastDigs s k)) ∧ Hid (Below w.heap.size w wr)) (fun _ v _ => (intOf v + 1).toNat)
        case atStart => exact ⟨s.size, by omega, Nat.le_refl _, rfl, by rw [lastDigs_start]; exact Own.nil_ _ _, Below.refl _ _⟩
        case round =>
          obtain ⟨k, hF, hks, rfl, hown, hbel⟩ := hrel
          have hBs : w.heap.size ≤ wr.heap.size := hbel.out.size
          have hzl : Hid ((lastDigs s k).length = s.size - k) := lastDigs_length hks
          by_cases hkF : 1 < k
          · have hit : k - 1 < s.size := by omega
            obtain ⟨b1, b2⟩ := (isDig_iff _).1 (dig_above hit (by omega) hall.out)
            have hp0 : (0 : Int) ≤ (k : Int) - 1 := by omega
            have hp1 : (k : Int) - 1 < s.size := by omega
            have hp2 : ¬ (k : Int) - 1 < 1 := by omega
            have hnew := Lib.hid (cell_one_new wr (.int .i64 (((s[k - 1]'hit).toNat : Int) - 48)) 3)
            have hstep := Lib.hid (lastDigs_step (by omega) hit)
            go_wp2_with (at_builtin; refine wpList_append_own _ rfl (.tmp 27) (.tmp 33) 40 rfl w.heap.size 3 i0 (.int .i64 0) 1 8 Tryd.underlying40 hi.out hz0.out hz1.out hz2.out rfl (by decide) u6 (lastDigs s k).length (ci (lastDigs s k)) rfl ((Own.row hown.out).alloc _) ⟨wr.heap.size, 0, none⟩ 1 1 [.int .i64 (((s[k - 1]'hit).toNat : Int) - 48)] rfl rfl hnew.out (one_cells1 _ _) ?c2 ?c3 ?c4 ?_)
            case c2 => have := hzl.out; unfold maxLen; omega
            case c3 => have := hzl.out; omega
            case c4 => first | omega | (simp; omega)
            intro v1 w1 hown1 hg1 _
            have hown2 : Hid (Own w1 w.heap.size v1 (lastDigs s (k - 1))) := by show Own _ _ _ _; rw [hstep.out]; exact Own.snoc hown1 rfl (by omega)
            have hbel2 := Lib.hid (below_next hbel.out hBs hown.out hg1)
            clear hown1 hg1 hown hbel hnew hstep
            go_wp2
            go_roundw
            case rel => exact ⟨k - 1, by omega, by omega, by go_num, hown2, hbel2⟩
            case measure => simp [intOf]; omega
          · obtain rfl : k = 1 := by omega
            have hp2 : (1 : Int) - 1 < 1 := by omega
            obtain ⟨A2, c2, rfl, hc2, hR2⟩ := hown.out.form
            have hd : Hid (lastDigs s 1 = digs (mag (LA s))) := by show _ = _; rw [← hmg.out]; exact (digs_ofD had.out htr.out).symm
            rw [hd.out] at hc2 hR2 ⊢
            replace hR2 := Lib.hid hR2
            clear hown
            go_wp2
            go_ret2
            exact ⟨A2, c2, by rw [Hneg.out]; rfl, hc2, hR2.out, hbel.out⟩
      | false =>
        have hdr : strip (LA s) = (LA s).drop 0 := by unfold strip; rw [hm]; rfl
        rw [hm] at hmin hneg
        rw [hdr] at hgood hbody
        have hne : ¬ (LA s).drop 0 = [48] ∨ True := .inr trivial
        have hall : Hid (((LA s).drop 0).all isDig = true) := good_all hgood
        have hmg : Hid (ofD (lastDigs s 0) = mag (LA s)) := by show _ = _; rw [lastDigs_end (by omega)]; unfold mag; rw [hbody]
        have htr : Hid (Trimmed (lastDigs s 0)) := by show Trimmed _; rw [lastDigs_end (by omega)]; exact trimmed_toDigs hgood
        have had : Hid (AllDig (lastDigs s 0)) := by show AllDig _; rw [lastDigs_end (by omega)]; exact allDig_toDigs hall.out
        have Hneg := Lib.hid hneg
        clear hdr hdm hbody hgood hneg hm h48 hne
        go_enter Tryd.func40, Tryd.ntmps40
        go_wp2_with fail
        refine (validR s _ (by unfold maxLen; omega)).mono ?_
        rintro e w' ⟨rfl, rfl⟩
        go_wp2
        go_loopw [6, 7] (fun u v wr => ∃ k : Nat, 0 ≤ k ∧ k ≤ s.size ∧ v = .int .i64 ((k : Int) - 1) ∧ Hid (Own wr w.heap.size u (lastDigs s k)) ∧ Hid (Below w.heap.size w wr)) (fun _ v _ => (intOf v + 1).toNat)
        case atStart => exact ⟨s.size, by omega, Nat.le_refl _, rfl, by rw [lastDigs_start]; exact Own.nil_ _ _, Below.refl _ _⟩
        case round =>
          obtain ⟨k, hF, hks, rfl, hown, hbel⟩ := hrel
          have hBs : w.heap.size ≤ wr.heap.size := hbel.out.size
          have hzl : Hid ((lastDigs s k).length = s.size - k) := lastDigs_length hks
          by_cases hkF : 0 < k
          · have hit : k - 1 < s.size := by omega
            obtain ⟨b1, b2⟩ := (isDig_iff _).1 (dig_above hit (by omega) hall.out)
            have hp0 : (0 : Int) ≤ (k : Int) - 1 := by omega
            have hp1 : (k : Int) - 1 < s.size := by omega
            have hp2 : ¬ (k : Int) - 1 < 0 := by omega
            have hnew := Lib.hid (cell_one_new wr (.int .i64 (((s[k - 1]'hit).toNat : Int) - 48)) 3)
            have hstep := Lib.hid (lastDigs_step (by omega) hit)
            go_wp2_with (at_builtin; refine wpList_append_own _ rfl (.tmp 27) (.tmp 33) 40 rfl w.heap.size 3 i0 (.int .i64 0) 1 8 Tryd.underlying40 hi.out hz0.out hz1.out hz2.out rfl (by decide) u6 (lastDigs s k).length (ci (lastDigs s k)) rfl ((Own.row hown.out).alloc _) ⟨wr.heap.size, 0, none⟩ 1 1 [.int .i64 (((s[k - 1]'hit).toNat : Int) - 48)] rfl rfl hnew.out (one_cells1 _ _) ?c2 ?c3 ?c4 ?_)
            case c2 => have := hzl.out; unfold maxLen; omega
            case c3 => have := hzl.out; omega
            case c4 => first | omega | (simp; omega)
            intro v1 w1 hown1 hg1 _
            have hown2 : Hid (Own w1 w.heap.size v1 (lastDigs s (k - 1))) := by show Own _ _ _ _; rw [hstep.out]; exact Own.snoc hown1 rfl (by omega)
            have hbel2 := Lib.hid (below_next hbel.out hBs hown.out hg1)
            clear hown1 hg1 hown hbel hnew hstep
            go_wp2
            go_roundw
            case rel => exact ⟨k - 1, by omega, by omega, by go_num, hown2, hbel2⟩
            case measure => simp [intOf]; omega
          · obtain rfl : k = 0 := by omega
            have hp2 : (0 : Int) - 1 < 0 := by omega
            obtain ⟨A2, c2, rfl, hc2, hR2⟩ := hown.out.form
            have hd : Hid (lastDigs s 0 = digs (mag (LA s))) := by show _ = _; rw [← hmg.out]; exact (digs_ofD had.out htr.out).symm
            rw [hd.out] at hc2 hR2 ⊢
            replace hR2 := Lib.hid hR2
            clear hown
            go_wp2
            go_ret2
            exact ⟨A2, c2, by rw [Hneg.out]; rfl, hc2, hR2.out, hbel.out⟩

end Go.Proofs.YtclniebhgfodfaaDoor
