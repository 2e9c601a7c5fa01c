/- Which names are package names, which are names: the program. -/
import Derived.Test.YtcgchacokcnacaaDoorChecked
import Derived.WalkKit
import Derived.WalkSpells
import Derived.WalkLawsBesides
import Derived.Below
import Derived.Laws.OwnMore
import Derived.Laws.Rows
import Derived.Laws.Tables
import Derived.Lib.Hide
import Derived.Lib.Strings
import Derived.KernelRfl
import Derived.Deep.QuietTactic
import Derived.BigQuiet
import Derived.BigRegion
namespace Go.Proofs.YtcgchacokcnacaaDoor
open Go Go.RowKit
set_option linter.unusedVariables false

/-- The call returned this value; what was there before stands. -/
def RetY (w : World) (v : Value) (e : Ending) (w' : World) : Prop := e = .returned v ∧ Below w.heap.size w w'
theorem chainY {B : Nat} {w w1 w2 : World} (h : Below B w w1) (hb : Below w1.heap.size w1 w2) (hB : B ≤ w.heap.size) : Below B w w2 := h.trans (hb.mono (Nat.le_trans hB h.size))
theorem ret_boolY {a b : Bool} (h : a = b) : Ending.returned (.bool a) = .returned (.bool b) := by rw [h]
/-- The bytes of a name. -/
def bl (s : ByteArray) : List UInt8 := s.data.toList
theorem bl_length (s : ByteArray) : (bl s).length = s.size := by unfold bl; rw [Array.length_toList]; rfl
theorem bl_drop {s : ByteArray} {i : Nat} (hi : i < s.size) : (bl s).drop i = s[i] :: (bl s).drop (i + 1) := by
  have h : i < (bl s).length := by rw [bl_length]; exact hi
  rw [List.drop_eq_getElem_cons h]
  rfl
def letB (c : Int) : Bool := decide (97 ≤ c) && decide (c ≤ 122)
def digB (c : Int) : Bool := decide (48 ≤ c) && decide (c ≤ 57)
def okU (c : UInt8) : Bool := letB (c.toNat : Int) || digB (c.toNat : Int) || decide ((c.toNat : Int) = 45)
def nameOk (s : ByteArray) : Bool := decide (1 ≤ s.size) && decide (s.size ≤ 40)
def firstLet (s : ByteArray) : Bool := match bl s with | c :: _ => letB (c.toNat : Int) | [] => false
/-- Whether a name is a package's. -/
def pkgOk (s : ByteArray) : Bool := nameOk s && (firstLet s && (bl s).all okU)
theorem firstLet_at {s : ByteArray} (h : 0 < s.size) : firstLet s = letB ((s[0]'h).toNat : Int) := by
  have := bl_drop h
  rw [List.drop_zero] at this
  unfold firstLet
  rw [this]

set_option maxHeartbeats 1000000 in
theorem isLetterY (c : Int) (b : Bool) (h : letB c = b) (w : World) : Calls Tryd.prog 45 #[.int .u8 c] w fun e w' => e = .returned (.bool b) ∧ w = w' := by
  subst h
  unfold letB
  by_cases h1 : 97 ≤ c
  · by_cases h2 : c ≤ 122
    · rw [decide_eq_true h1, decide_eq_true h2]
      go_enter Tryd.func45, Tryd.ntmps45
      go_wp2
      go_ret
      exact ⟨rfl, rfl⟩
    · rw [decide_eq_true h1, decide_eq_false h2]
      go_enter Tryd.func45, Tryd.ntmps45
      go_wp2
      go_ret
      exact ⟨rfl, rfl⟩
  · rw [decide_eq_false h1]
    go_enter Tryd.func45, Tryd.ntmps45
    go_wp2
    go_ret
    exact ⟨rfl, rfl⟩
set_option maxHeartbeats 1000000 in
theorem isDigitY (c : Int) (b : Bool) (h : digB c = b) (w : World) : Calls Tryd.prog 46 #[.int .u8 c] w fun e w' => e = .returned (.bool b) ∧ w = w' := by
  subst h
  unfold digB
  by_cases h1 : 48 ≤ c
  · by_cases h2 : c ≤ 57
    · rw [decide_eq_true h1, decide_eq_true h2]
      go_enter Tryd.func46, Tryd.ntmps46
      go_wp2
      go_ret
      exact ⟨rfl, rfl⟩
    · rw [decide_eq_true h1, decide_eq_false h2]
      go_enter Tryd.func46, Tryd.ntmps46
      go_wp2
      go_ret
      exact ⟨rfl, rfl⟩
  · rw [decide_eq_false h1]
    go_enter Tryd.func46, Tryd.ntmps46
    go_wp2
    go_ret
    exact ⟨rfl, rfl⟩
set_option maxHeartbeats 1000000 in
theorem isNameY (s : ByteArray) (w : World) : Calls Tryd.prog 40 #[.string s] w fun e w' => e = .returned (.bool (nameOk s)) ∧ w = w' := by
  unfold nameOk
  by_cases h1 : 1 ≤ s.size
  · have h3 : (1 : Int) ≤ (s.size : Int) := by omega
    by_cases h2 : s.size ≤ 40
    · have h4 : (s.size : Int) ≤ 40 := by omega
      rw [decide_eq_true h1, decide_eq_true h2]
      go_enter Tryd.func40, Tryd.ntmps40
      go_wp2
      go_ret
      exact ⟨rfl, rfl⟩
    · have h4 : ¬ (s.size : Int) ≤ 40 := by omega
      rw [decide_eq_true h1, decide_eq_false h2]
      go_enter Tryd.func40, Tryd.ntmps40
      go_wp2
      go_ret
      exact ⟨rfl, rfl⟩
  · have h3 : ¬ (1 : Int) ≤ (s.size : Int) := by omega
    rw [decide_eq_false h1]
    go_enter Tryd.func40, Tryd.ntmps40
    go_wp2
    go_ret
    exact ⟨rfl, rfl⟩
set_option maxHeartbeats 4000000 in
set_option maxRecDepth 100000 in
theorem isPackageY (s : ByteArray) (w : World) : Calls Tryd.prog 39 #[.string s] w fun e w' => e = .returned (.bool (pkgOk s)) ∧ w = w' := by
  cases hn : nameOk s with
  | false =>
    have hp : Hid (pkgOk s = false) := by show _ = _; unfold pkgOk; rw [hn]; rfl
    go_enter Tryd.func39, Tryd.ntmps39
    go_wp2_with fail
    refine (isNameY s _).mono ?_
    rintro e w' ⟨rfl, rfl⟩
    rw [hn]
    go_wp2
    go_ret
    exact ⟨ret_boolY hp.out.symm, rfl⟩
  | true =>
    have hn' := hn
    unfold nameOk at hn'
    rw [Bool.and_eq_true, decide_eq_true_eq, decide_eq_true_eq] at hn'
    obtain ⟨h1, h2⟩ := hn'
    have h0 : 0 < s.size := h1
    cases hl : letB ((s[0]'h0).toNat : Int) with
    | false =>
      have hp : Hid (pkgOk s = false) := by show _ = _; unfold pkgOk; rw [firstLet_at h0, hl]; simp
      go_enter Tryd.func39, Tryd.ntmps39
      go_wp2_with fail
      refine (isNameY s _).mono ?_
      rintro e w' ⟨rfl, rfl⟩
      rw [hn]
      go_wp2_with fail
      refine (isLetterY _ _ hl _).mono ?_
      rintro e w' ⟨rfl, rfl⟩
      go_wp2
      go_ret
      exact ⟨ret_boolY hp.out.symm, rfl⟩
    | true =>
      have hp : pkgOk s = (bl s).all okU := by unfold pkgOk; rw [hn, firstLet_at h0, hl]; simp
      rw [hp]
      obtain ⟨R, hR⟩ : ∃ R, (bl s).all okU = R := ⟨_, rfl⟩
      have H0 : Hid (((bl s).drop 0).all okU = R) := by show _ = _; rw [List.drop_zero, hR]
      rw [hR]
      clear hR hp
      have HN := Lib.hid hn
      have HL := Lib.hid hl
      clear hn hl
      go_enter Tryd.func39, Tryd.ntmps39
      go_wp2_with fail
      refine (isNameY s _).mono ?_
      rintro e w' ⟨rfl, rfl⟩
      rw [HN.out]
      go_wp2_with fail
      refine (isLetterY _ _ HL.out _).mono ?_
      rintro e w' ⟨rfl, rfl⟩
      go_wp2_with fail
      go_loop [15] (fun v => ∃ i : Nat, i ≤ s.size ∧ v = .int .i64 i ∧ Hid (((bl s).drop i).all okU = R)) (fun v => s.size - (intOf v).toNat)
      case atStart => exact ⟨0, by omega, rfl, H0⟩
      case round =>
        obtain ⟨i, hi, rfl, hE⟩ := hrel
        by_cases his : i < s.size
        · have hst := bl_drop his
          have hE1 : (okU (s[i]'his) && ((bl s).drop (i + 1)).all okU) = R := by have := hE.out; rw [hst, List.all_cons] at this; exact this
          clear hst hE
          cases h1 : letB ((s[i]'his).toNat : Int) with
          | true =>
            have hk : okU (s[i]'his) = true := by unfold okU; rw [h1]; rfl
            rw [hk, Bool.true_and] at hE1
            replace hE1 := Lib.hid hE1
            have H1 := Lib.hid h1
            clear hk h1
            go_wp2_with fail
            refine (isLetterY _ _ H1.out _).mono ?_
            rintro e w' ⟨rfl, rfl⟩
            go_wp2
            go_round
            case rel => exact ⟨i + 1, by omega, by go_num, hE1⟩
            case measure => simp [intOf]; omega
          | false =>
            have H1 := Lib.hid h1
            clear h1
            cases h2 : digB ((s[i]'his).toNat : Int) with
            | true =>
              have hk : okU (s[i]'his) = true := by unfold okU; rw [h2]; simp
              rw [hk, Bool.true_and] at hE1
              replace hE1 := Lib.hid hE1
              have H2 := Lib.hid h2
              clear hk h2
              go_wp2_with fail
              refine (isLetterY _ _ H1.out _).mono ?_
              rintro e w' ⟨rfl, rfl⟩
              go_wp2_with fail
              refine (isDigitY _ _ H2.out _).mono ?_
              rintro e w' ⟨rfl, rfl⟩
              go_wp2
              go_round
              case rel => exact ⟨i + 1, by omega, by go_num, hE1⟩
              case measure => simp [intOf]; omega
            | false =>
              have H2 := Lib.hid h2
              clear h2
              by_cases h3 : ((s[i]'his).toNat : Int) = 45
              · have hk : okU (s[i]'his) = true := by unfold okU; rw [h3]; simp
                rw [hk, Bool.true_and] at hE1
                replace hE1 := Lib.hid hE1
                clear hk
                go_wp2_with fail
                refine (isLetterY 45 false (by decide) _).mono ?_
                rintro e w' ⟨rfl, rfl⟩
                go_wp2_with fail
                refine (isDigitY 45 false (by decide) _).mono ?_
                rintro e w' ⟨rfl, rfl⟩
                go_wp2
                go_round
                case rel => exact ⟨i + 1, by omega, by go_num, hE1⟩
                case measure => simp [intOf]; omega
              · have hk : okU (s[i]'his) = false := by unfold okU; rw [H1.out, H2.out]; simp [h3]
                rw [hk, Bool.false_and] at hE1
                replace hE1 := Lib.hid hE1
                clear hk
                go_wp2_with fail
                refine (isLetterY _ _ H1.out _).mono ?_
                rintro e w' ⟨rfl, rfl⟩
                go_wp2_with fail
                refine (isDigitY _ _ H2.out _).mono ?_
                rintro e w' ⟨rfl, rfl⟩
                go_wp2
                go_ret
                exact ⟨ret_boolY hE1.out, rfl⟩
        · have hiE : i = s.size := by omega
          have hr : Hid (R = true) := by show _ = _; rw [← hE.out, List.drop_eq_nil_of_le (by rw [bl_length]; omega)]; rfl
          clear hE
          go_wp2
          go_ret
          exact ⟨ret_boolY hr.out.symm, rfl⟩
end Go.Proofs.YtcgchacokcnacaaDoor
