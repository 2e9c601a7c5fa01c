/- number.takeAway: subtraction in place; number.subtractNaturals. -/
import Derived.Test.YtfnkmgipjemkdaaDoorArith
import Derived.Test.YtfnkmgipjemkdaaDoorTrim
import Derived.Deep.OwnRows
namespace Go.Proofs.YtfnkmgipjemkdaaDoor
open Go Go.RowKit
set_option linter.unusedVariables false

theorem dg_mid {pre ss post : List Nat} {o i : Nat} (ho : pre.length = o) (hi : i < ss.length) : dg (pre ++ ss ++ post) (o + i) = dg ss i := by
  subst ho
  unfold dg
  simp only [List.getD_eq_getElem?_getD]
  rw [List.append_assoc, List.getElem?_append_right (by omega), Nat.add_sub_cancel_left, List.getElem?_append_left hi]
theorem set_mid {pre ss post : List Nat} {o i : Nat} (d : Nat) (ho : pre.length = o) (hi : i < ss.length) : (pre ++ ss ++ post).set (o + i) d = pre ++ ss.set i d ++ post := by
  subst ho
  rw [List.append_assoc, List.set_append_right _ _ (by omega), Nat.add_sub_cancel_left, List.set_append_left _ _ hi, List.append_assoc]

/-- What the subtraction in place leaves. -/
def TakenAway (g : Nat) (zs : List Nat) (m : Nat) (pre post : List Nat) (w : World) (e : Ending) (w' : World) : Prop :=
  e = .returned (.tuple #[]) ∧ ∃ ss, ss.length = zs.length ∧ AllDig ss ∧ ofD ss + m = ofD zs ∧ Row w' g 5 .u8 (pre ++ ss ++ post) ∧ Only g w w'

theorem SubInv.ends {zs ss : List Nat} {i m : Nat} {q : Int} (h : SubInv zs (digs m) ss i q) (hi : (digs m).length ≤ i) (hq : q = 0) : ss.length = zs.length ∧ AllDig ss ∧ ofD ss + m = ofD zs := by
  obtain ⟨h1, h2, h3⟩ := h.done hi hq
  rw [ofD_digs] at h3
  exact ⟨h2, h1, h3⟩

set_option maxHeartbeats 1000000 in
set_option maxRecDepth 100000 in
theorem takeAway_any (g : Nat) (pre zs post : List Nat) (A' : Option Addr) (m o a b c d B : Nat) (w : World) (hpre : Hid (pre.length = o)) (has : Hid (zs.length = a)) (hb : LenIs m b) (hrow : Row w g 5 .u8 (pre ++ zs ++ post))
    (hda : AllDig zs) (h' : Reads w B .u8 A' (digs m)) (hBg : B ≤ g) (hle : m ≤ ofD zs) (h9 : a ≤ 10000000000) :
    Calls Tryd.prog 57 #[.slice (some ⟨g, o, none⟩) a c, .slice A' b d] w (TakenAway g zs m pre post w) := by
  have hba : b ≤ a := by
    have h1 := ofD_lt hda
    have h2 : (digs m).length ≤ zs.length := digs_length_le (Nat.lt_of_le_of_lt hle h1)
    have := has.out
    unfold LenIs at hb
    omega
  go_enter Tryd.func57, Tryd.ntmps57
  go_wp2
  go_loopw [4, 9] (fun u v wr => ∃ (i : Nat) (q : Int) (ss : List Nat), i ≤ a ∧ v = .int .i64 i ∧ u = .int .u8 q ∧ 0 ≤ q ∧ q ≤ 1 ∧ Hid (SubInv zs (digs m) ss i q) ∧ Row wr g 5 .u8 (pre ++ ss ++ post) ∧ Only g w wr) (fun _ v _ => a - (intOf v).toNat)
  case atStart => exact ⟨0, 0, zs, Nat.zero_le _, rfl, rfl, by omega, by omega, SubInv.start hda, hrow, Only.refl _ _⟩
  case round =>
    clear hrow
    obtain ⟨i, q, ss, hi, rfl, rfl, hq0, hq1, hinv, hrow, honly⟩ := hrel
    by_cases hia : i < a
    · have hss : Hid (ss.length = a) := by have := has.out; exact hinv.out.2.1.trans this
      have x0 := dg_nonneg ss i
      have x1 := dg_lt hinv.out.1 i
      have y0 := dg_nonneg (digs m) i
      have y1 := dg_lt (allDig_digs m) i
      have hst : wr.cell? ⟨g, o + i, none⟩ = some (.int .u8 (dg ss i)) := by
        have := hrow.cell (o + i) (by have h1 := hpre.out; have h2 := hss.out; simp only [List.length_append]; omega)
        rwa [dg_mid hpre.out (by have := hss.out; omega)] at this
      have hfz := hrow.frozen (o + i)
      by_cases hib : i < b
      · obtain ⟨b2, o2, rfl, hB2, hcell2⟩ := (h'.below (honly.below hBg)) (by unfold LenIs at hb; omega)
        replace hcell2 := hcell2 i (by unfold LenIs at hb; omega)
        have hd1 : decide (b ≤ i) = false := by simp; omega
        have hd2 : decide (i < b) = true := by simp; omega
        by_cases hbo : dg ss i < q + dg (digs m) i
        · have hn0 : 0 ≤ dg ss i + 10 - (q + dg (digs m) i) := by omega
          have hn1 : dg ss i + 10 - (q + dg (digs m) i) < 10 := by omega
          have hstep := Lib.hid (hinv.out.step (i := i) (q' := 1) (d := (dg ss i + 10 - (q + dg (digs m) i)).toNat) (by have := has.out; omega) (by omega) (by rw [Int.toNat_of_nonneg hn0]; omega))
          have hrow1 := (hrow.set_ (o + i) (dg ss i + 10).toNat (dg ss i + 10) (by omega)).set_ (o + i) (dg ss i + 10 - (q + dg (digs m) i)).toNat (dg ss i + 10 - (q + dg (digs m) i)) (by omega)
          rw [List.set_set, set_mid _ hpre.out (by have := hss.out; omega)] at hrow1
          have honly1 := (honly.setCell (p := ⟨g, o + i, none⟩) rfl (.int .u8 (dg ss i + 10))).setCell (p := ⟨g, o + i, none⟩) rfl (.int .u8 (dg ss i + 10 - (q + dg (digs m) i)))
          replace hrow1 := Lib.hid hrow1
          replace honly1 := Lib.hid honly1
          clear hinv hrow honly h'
          go_wp2
          go_roundw
          case rel => exact ⟨i + 1, 1, _, by omega, by go_num, rfl, by omega, by omega, hstep, hrow1.out, honly1.out⟩
          case measure => simp [intOf]; omega
        · have hn0 : 0 ≤ dg ss i - (q + dg (digs m) i) := by omega
          have hn1 : dg ss i - (q + dg (digs m) i) < 10 := by omega
          have hstep := Lib.hid (hinv.out.step (i := i) (q' := 0) (d := (dg ss i - (q + dg (digs m) i)).toNat) (by have := has.out; omega) (by omega) (by rw [Int.toNat_of_nonneg hn0]; omega))
          have hrow1 := hrow.set_ (o + i) (dg ss i - (q + dg (digs m) i)).toNat (dg ss i - (q + dg (digs m) i)) (by omega)
          rw [set_mid _ hpre.out (by have := hss.out; omega)] at hrow1
          have honly1 := honly.setCell (p := ⟨g, o + i, none⟩) rfl (.int .u8 (dg ss i - (q + dg (digs m) i)))
          replace hrow1 := Lib.hid hrow1
          replace honly1 := Lib.hid honly1
          clear hinv hrow honly h'
          go_wp2
          go_roundw
          case rel => exact ⟨i + 1, 0, _, by omega, by go_num, rfl, by omega, by omega, hstep, hrow1.out, honly1.out⟩
          case measure => simp [intOf]; omega
      · have hd1 : decide (b ≤ i) = true := by simp; omega
        have hd2 : decide (i < b) = false := by simp; omega
        have e0 : dg (digs m) i = 0 := dg_out (by unfold LenIs at hb; omega)
        rcases (show q = 0 ∨ q = 1 by omega) with rfl | rfl
        · have hfin := Lib.hid (hinv.out.ends (by unfold LenIs at hb; omega) rfl)
          clear e0
          replace hrow := Lib.hid hrow
          replace honly := Lib.hid honly
          go_wp2
          refine bodyPost_ret (results_none rfl _ _ _) rfl ?_
          exact ⟨rfl, ss, hfin.out.1, hfin.out.2.1, hfin.out.2.2, hrow.out, honly.out⟩
        · replace e0 := Lib.hid e0
          by_cases hbo : dg ss i < 1
          · have hn0 : 0 ≤ dg ss i + 10 - 1 := by omega
            have hn1 : dg ss i + 10 - 1 < 10 := by omega
            have hstep := Lib.hid (hinv.out.step (i := i) (q' := 1) (d := (dg ss i + 10 - 1).toNat) (by have := has.out; omega) (by omega) (by rw [Int.toNat_of_nonneg hn0]; have := e0.out; omega))
            have hrow1 := (hrow.set_ (o + i) (dg ss i + 10).toNat (dg ss i + 10) (by omega)).set_ (o + i) (dg ss i + 10 - 1).toNat (dg ss i + 10 - 1) (by omega)
            rw [List.set_set, set_mid _ hpre.out (by have := hss.out; omega)] at hrow1
            have honly1 := (honly.setCell (p := ⟨g, o + i, none⟩) rfl (.int .u8 (dg ss i + 10))).setCell (p := ⟨g, o + i, none⟩) rfl (.int .u8 (dg ss i + 10 - 1))
            replace hrow1 := Lib.hid hrow1
            replace honly1 := Lib.hid honly1
            clear hinv hrow honly h'
            go_wp2
            go_roundw
            case rel => exact ⟨i + 1, 1, _, by omega, by go_num, rfl, by omega, by omega, hstep, hrow1.out, honly1.out⟩
            case measure => simp [intOf]; omega
          · have hn0 : 0 ≤ dg ss i - 1 := by omega
            have hn1 : dg ss i - 1 < 10 := by omega
            have hstep := Lib.hid (hinv.out.step (i := i) (q' := 0) (d := (dg ss i - 1).toNat) (by have := has.out; omega) (by omega) (by rw [Int.toNat_of_nonneg hn0]; have := e0.out; omega))
            have hrow1 := hrow.set_ (o + i) (dg ss i - 1).toNat (dg ss i - 1) (by omega)
            rw [set_mid _ hpre.out (by have := hss.out; omega)] at hrow1
            have honly1 := honly.setCell (p := ⟨g, o + i, none⟩) rfl (.int .u8 (dg ss i - 1))
            replace hrow1 := Lib.hid hrow1
            replace honly1 := Lib.hid honly1
            clear hinv hrow honly h'
            go_wp2
            go_roundw
            case rel => exact ⟨i + 1, 0, _, by omega, by go_num, rfl, by omega, by omega, hstep, hrow1.out, honly1.out⟩
            case measure => simp [intOf]; omega
    · obtain rfl : i = a := by omega
      have hq : q = 0 := hinv.out.none_left (by unfold LenIs at hb; omega) has.out.symm (by rw [ofD_digs]; exact hle) hq0 hq1
      have hfin := Lib.hid (hinv.out.ends (by unfold LenIs at hb; omega) hq)
      clear hq
      replace hrow := Lib.hid hrow
      replace honly := Lib.hid honly
      go_wp2
      go_end0
      exact ⟨rfl, ss, hfin.out.1, hfin.out.2.1, hfin.out.2.2, hrow.out, honly.out⟩

end Go.Proofs.YtfnkmgipjemkdaaDoor
