import Derived.Test.YtlocnkobancjmaaGreatDoorAl
import Derived.Test.YtlocnkobancjmaaGreatDoorChecked
import Derived.WalkKit
import Derived.WalkSpells
import Derived.WalkLawsBesides
import Derived.Below
import Derived.Laws.OwnMore
import Derived.Laws.Rows
import Derived.Laws.Tables
import Derived.Lib.Hide
import Derived.Lib.Strings
import Derived.KernelRfl
import Derived.Deep.QuietTactic
import Derived.BigQuiet
import Derived.BigRegion
import Derived.Laws.CopyOwn
import Derived.Deep.Cut
namespace Go.Proofs.YtlocnkobancjmaaGreatDoor
open Go Go.RowKit
set_option linter.unusedVariables false
set_option maxHeartbeats 32000000
set_option maxRecDepth 100000
namespace Sy
def RetY (w : World) (v : Value) (e : Ending) (w' : World) : Prop := e = .returned v ∧ Below w.heap.size w w'
theorem chainY {B : Nat} {w w1 w2 : World} (h : Below B w w1) (hb : Below w1.heap.size w1 w2) (hB : B ≤ w.heap.size) : Below B w w2 := h.trans (hb.mono (Nat.le_trans hB h.size))
theorem ret_boolY {a b : Bool} (h : a = b) : Ending.returned (.bool a) = .returned (.bool b) := by rw [h]
def bl (s : ByteArray) : List UInt8 := s.data.toList
theorem bl_length (s : ByteArray) : (bl s).length = s.size := by unfold bl; rw [Array.length_toList]; rfl
theorem bl_drop {s : ByteArray} {i : Nat} (hi : i < s.size) : (bl s).drop i = s[i] :: (bl s).drop (i + 1) := by
 have h : i < (bl s).length := by rw [bl_length]; exact hi
 rw [List.drop_eq_getElem_cons h]
 rfl
def letB (c : Int) : Bool := decide (97 ≤ c) && decide (c ≤ 122)
def digB (c : Int) : Bool := decide (48 ≤ c) && decide (c ≤ 57)
def okU (c : UInt8) : Bool := letB (c.toNat : Int) || digB (c.toNat : Int) || decide ((c.toNat : Int) = 45)
def nameOk (s : ByteArray) : Bool := decide (1 ≤ s.size) && decide (s.size ≤ 40)
def firstLet (s : ByteArray) : Bool := match bl s with | c :: _ => letB (c.toNat : Int) | [] => false
def pkgOk (s : ByteArray) : Bool := nameOk s && (firstLet s && (bl s).all okU)
theorem firstLet_at {s : ByteArray} (h : 0 < s.size) : firstLet s = letB ((s[0]'h).toNat : Int) := by
 have := bl_drop h
 rw [List.drop_zero] at this
 unfold firstLet
 rw [this]

theorem isLetterY (c : Int) (b : Bool) (h : letB c = b) (w : World) : Calls Tryz.prog 255 #[.int .u8 c] w fun e w' => e = .returned (.bool b) ∧ w = w' := by
 subst h
 unfold letB
 by_cases h1 : 97 ≤ c
 · by_cases h2 : c ≤ 122
   · rw [decide_eq_true h1, decide_eq_true h2]
     go_enter Tryz.func255, Tryz.ntmps255
     go_wp2
     go_ret
     exact ⟨rfl, rfl⟩
   · rw [decide_eq_true h1, decide_eq_false h2]
     go_enter Tryz.func255, Tryz.ntmps255
     go_wp2
     go_ret
     exact ⟨rfl, rfl⟩
 · rw [decide_eq_false h1]
   go_enter Tryz.func255, Tryz.ntmps255
   go_wp2
   go_ret
   exact ⟨rfl, rfl⟩
theorem isDigitY (c : Int) (b : Bool) (h : digB c = b) (w : World) : Calls Tryz.prog 256 #[.int .u8 c] w fun e w' => e = .returned (.bool b) ∧ w = w' := by
 subst h
 unfold digB
 by_cases h1 : 48 ≤ c
 · by_cases h2 : c ≤ 57
   · rw [decide_eq_true h1, decide_eq_true h2]
     go_enter Tryz.func256, Tryz.ntmps256
     go_wp2
     go_ret
     exact ⟨rfl, rfl⟩
   · rw [decide_eq_true h1, decide_eq_false h2]
     go_enter Tryz.func256, Tryz.ntmps256
     go_wp2
     go_ret
     exact ⟨rfl, rfl⟩
 · rw [decide_eq_false h1]
   go_enter Tryz.func256, Tryz.ntmps256
   go_wp2
   go_ret
   exact ⟨rfl, rfl⟩
theorem isNameY (s : ByteArray) (w : World) : Calls Tryz.prog 224 #[.string s] w fun e w' => e = .returned (.bool (nameOk s)) ∧ w = w' := by
 unfold nameOk
 by_cases h1 : 1 ≤ s.size
 · have h3 : (1 : Int) ≤ (s.size : Int) := by omega
   by_cases h2 : s.size ≤ 40
   · have h4 : (s.size : Int) ≤ 40 := by omega
     rw [decide_eq_true h1, decide_eq_true h2]
     go_enter Tryz.func224, Tryz.ntmps224
     go_wp2
     go_ret
     exact ⟨rfl, rfl⟩
   · have h4 : ¬ (s.size : Int) ≤ 40 := by omega
     rw [decide_eq_true h1, decide_eq_false h2]
     go_enter Tryz.func224, Tryz.ntmps224
     go_wp2
     go_ret
     exact ⟨rfl, rfl⟩
 · have h3 : ¬ (1 : Int) ≤ (s.size : Int) := by omega
   rw [decide_eq_false h1]
   go_enter Tryz.func224, Tryz.ntmps224
   go_wp2
   go_ret
   exact ⟨rfl, rfl⟩
theorem isPackageY (s : ByteArray) (w : World) : Calls Tryz.prog 223 #[.string s] w fun e w' => e = .returned (.bool (pkgOk s)) ∧ w = w' := by
 cases hn : nameOk s with
 | false =>
  have hp : Hid (pkgOk s = false) := by show _ = _; unfold pkgOk; rw [hn]; rfl
  go_enter Tryz.func223, Tryz.ntmps223
  go_wp2_with fail
  refine (isNameY s _).mono ?_
  rintro e w' ⟨rfl, rfl⟩
  rw [hn]
  go_wp2
  go_ret
  exact ⟨ret_boolY hp.out.symm, rfl⟩
 | true =>
  have hn' := hn
  unfold nameOk at hn'
  rw [Bool.and_eq_true, decide_eq_true_eq, decide_eq_true_eq] at hn'
  obtain ⟨h1, h2⟩ := hn'
  have h0 : 0 < s.size := h1
  cases hl : letB ((s[0]'h0).toNat : Int) with
  | false =>
   have hp : Hid (pkgOk s = false) := by show _ = _; unfold pkgOk; rw [firstLet_at h0, hl]; simp
   go_enter Tryz.func223, Tryz.ntmps223
   go_wp2_with fail
   refine (isNameY s _).mono ?_
   rintro e w' ⟨rfl, rfl⟩
   rw [hn]
   go_wp2_with fail
   refine (isLetterY _ _ hl _).mono ?_
   rintro e w' ⟨rfl, rfl⟩
   go_wp2
   go_ret
   exact ⟨ret_boolY hp.out.symm, rfl⟩
  | true =>
   have hp : pkgOk s = (bl s).all okU := by unfold pkgOk; rw [hn, firstLet_at h0, hl]; simp
   rw [hp]
   obtain ⟨R, hR⟩ : ∃ R, (bl s).all okU = R := ⟨_, rfl⟩
   have H0 : Hid (((bl s).drop 0).all okU = R) := by show _ = _; rw [List.drop_zero, hR]
   rw [hR]
   clear hR hp
   have HN := qh9 hn
   have HL := qh9 hl
   clear hn hl
   go_enter Tryz.func223, Tryz.ntmps223
   go_wp2_with fail
   refine (isNameY s _).mono ?_
   rintro e w' ⟨rfl, rfl⟩
   rw [HN.out]
   go_wp2_with fail
   refine (isLetterY _ _ HL.out _).mono ?_
   rintro e w' ⟨rfl, rfl⟩
   go_wp2_with fail
   go_loop [15] (fun v => ∃ i : Nat, i ≤ s.size ∧ v = .int .i64 i ∧ Hid (((bl s).drop i).all okU = R)) (fun v => s.size - (intOf v).toNat)
   case atStart => exact ⟨0, by omega, rfl, H0⟩
   case round =>
    obtain ⟨i, hi, rfl, hE⟩ := hrel
    by_cases his : i < s.size
    · have hst := bl_drop his
      have hE1 : (okU (s[i]'his) && ((bl s).drop (i + 1)).all okU) = R := by have := hE.out; rw [hst, List.all_cons] at this; exact this
      clear hst hE
      cases h1 : letB ((s[i]'his).toNat : Int) with
      | true =>
       have hk : okU (s[i]'his) = true := by unfold okU; rw [h1]; rfl
       rw [hk, Bool.true_and] at hE1
       replace hE1 := qh9 hE1
       have H1 := qh9 h1
       clear hk h1
       go_wp2_with fail
       refine (isLetterY _ _ H1.out _).mono ?_
       rintro e w' ⟨rfl, rfl⟩
       go_wp2
       go_round
       case rel => exact ⟨i + 1, by omega, by go_num, hE1⟩
       case measure => simp [intOf]; omega
      | false =>
       have H1 := qh9 h1
       clear h1
       cases h2 : digB ((s[i]'his).toNat : Int) with
       | true =>
        have hk : okU (s[i]'his) = true := by unfold okU; rw [h2]; simp
        rw [hk, Bool.true_and] at hE1
        replace hE1 := qh9 hE1
        have H2 := qh9 h2
        clear hk h2
        go_wp2_with fail
        refine (isLetterY _ _ H1.out _).mono ?_
        rintro e w' ⟨rfl, rfl⟩
        go_wp2_with fail
        refine (isDigitY _ _ H2.out _).mono ?_
        rintro e w' ⟨rfl, rfl⟩
        go_wp2
        go_round
        case rel => exact ⟨i + 1, by omega, by go_num, hE1⟩
        case measure => simp [intOf]; omega
       | false =>
        have H2 := qh9 h2
        clear h2
        by_cases h3 : ((s[i]'his).toNat : Int) = 45
        · have hk : okU (s[i]'his) = true := by unfold okU; rw [h3]; simp
          rw [hk, Bool.true_and] at hE1
          replace hE1 := qh9 hE1
          clear hk
          go_wp2_with fail
          refine (isLetterY 45 false (by decide) _).mono ?_
          rintro e w' ⟨rfl, rfl⟩
          go_wp2_with fail
          refine (isDigitY 45 false (by decide) _).mono ?_
          rintro e w' ⟨rfl, rfl⟩
          go_wp2
          go_round
          case rel => exact ⟨i + 1, by omega, by go_num, hE1⟩
          case measure => simp [intOf]; omega
        · have hk : okU (s[i]'his) = false := by unfold okU; rw [H1.out, H2.out]; simp [h3]
          rw [hk, Bool.false_and] at hE1
          replace hE1 := qh9 hE1
          clear hk
          go_wp2_with fail
          refine (isLetterY _ _ H1.out _).mono ?_
          rintro e w' ⟨rfl, rfl⟩
          go_wp2_with fail
          refine (isDigitY _ _ H2.out _).mono ?_
          rintro e w' ⟨rfl, rfl⟩
          go_wp2
          go_ret
          exact ⟨ret_boolY hE1.out, rfl⟩
    · have hiE : i = s.size := by omega
      have hr : Hid (R = true) := by show _ = _; rw [← hE.out, List.drop_eq_nil_of_le (by rw [bl_length]; omega)]; rfl
      clear hE
      go_wp2
      go_ret
      exact ⟨ret_boolY hr.out.symm, rfl⟩
end Sy
namespace Sy
theorem packageY (s : ByteArray) (w : World) : Calls Tryz.prog 165 #[.string s] w fun e w' => e = .returned (.bool (pkgOk s)) ∧ w = w' := by
 cases hn : nameOk s with
 | false =>
  have hp : Hid (pkgOk s = false) := by show _ = _; unfold pkgOk; rw [hn]; rfl
  by_cases h1 : (s.size : Int) < 1
  · go_enter Tryz.func165, Tryz.ntmps165
    go_wp2
    go_ret
    exact ⟨ret_boolY hp.out.symm, rfl⟩
  · have h2 : 40 < (s.size : Int) := by
     unfold nameOk at hn
     rw [Bool.and_eq_false_iff, decide_eq_false_iff_not, decide_eq_false_iff_not] at hn
     omega
    clear hn
    go_enter Tryz.func165, Tryz.ntmps165
    go_wp2
    go_ret
    exact ⟨ret_boolY hp.out.symm, rfl⟩
 | true =>
  have hn' := hn
  unfold nameOk at hn'
  rw [Bool.and_eq_true, decide_eq_true_eq, decide_eq_true_eq] at hn'
  obtain ⟨h1, h2⟩ := hn'
  have h0 : 0 < s.size := h1
  have g1 : ¬ (s.size : Int) < 1 := by omega
  have g2 : ¬ 40 < (s.size : Int) := by omega
  cases hl : letB ((s[0]'h0).toNat : Int) with
  | false =>
   have hp : Hid (pkgOk s = false) := by show _ = _; unfold pkgOk; rw [firstLet_at h0, hl]; simp
   unfold letB at hl
   rw [Bool.and_eq_false_iff, decide_eq_false_iff_not, decide_eq_false_iff_not] at hl
   clear hn
   by_cases k1 : ((s[0]'h0).toNat : Int) < 97
   · clear hl
     go_enter Tryz.func165, Tryz.ntmps165
     go_wp2
     go_ret
     exact ⟨ret_boolY hp.out.symm, rfl⟩
   · have k2 : 122 < ((s[0]'h0).toNat : Int) := by omega
     clear hl
     go_enter Tryz.func165, Tryz.ntmps165
     go_wp2
     go_ret
     exact ⟨ret_boolY hp.out.symm, rfl⟩
  | true =>
   have hp : pkgOk s = (bl s).all okU := by unfold pkgOk; rw [hn, firstLet_at h0, hl]; simp
   rw [hp]
   obtain ⟨R, hR⟩ : ∃ R, (bl s).all okU = R := ⟨_, rfl⟩
   have H0 : Hid (((bl s).drop 0).all okU = R) := by show _ = _; rw [List.drop_zero, hR]
   rw [hR]
   clear hR hp
   unfold letB at hl
   rw [Bool.and_eq_true, decide_eq_true_eq, decide_eq_true_eq] at hl
   have k1 : ¬ ((s[0]'h0).toNat : Int) < 97 := by omega
   have k2 : ¬ 122 < ((s[0]'h0).toNat : Int) := by omega
   clear hn hl
   go_enter Tryz.func165, Tryz.ntmps165
   go_wp2_with fail
   go_loop [3] (fun v => ∃ i : Nat, i ≤ s.size ∧ v = .int .i64 i ∧ Hid (((bl s).drop i).all okU = R)) (fun v => s.size - (intOf v).toNat)
   case atStart => exact ⟨0, by omega, rfl, H0⟩
   case round =>
    obtain ⟨i, hi, rfl, hE⟩ := hrel
    by_cases his : i < s.size
    · have hst := bl_drop his
      have hE1 : (okU (s[i]'his) && ((bl s).drop (i + 1)).all okU) = R := by have := hE.out; rw [hst, List.all_cons] at this; exact this
      clear hst hE
      clear k1 k2 g1 g2
      have hok : okU (s[i]'his) = (letB ((s[i]'his).toNat : Int) || digB ((s[i]'his).toNat : Int) || decide (((s[i]'his).toNat : Int) = 45)) := rfl
      unfold letB digB at hok
      by_cases c1 : ((s[i]'his).toNat : Int) < 48
      · by_cases c2 : ((s[i]'his).toNat : Int) = 45
        · have hk : okU (s[i]'his) = true := by rw [hok, c2]; rfl
          rw [hk, Bool.true_and] at hE1
          replace hE1 := qh9 hE1
          clear hk hok c1
          go_wp2
          go_round
          case rel => exact ⟨i + 1, by omega, by go_num, hE1⟩
          case measure => simp [intOf]; omega
        · have hk : okU (s[i]'his) = false := by rw [hok, decide_eq_false (show ¬ (97 : Int) ≤ ((s[i]'his).toNat : Int) by omega), decide_eq_false (show ¬ (48 : Int) ≤ ((s[i]'his).toNat : Int) by omega), decide_eq_false c2]; rfl
          rw [hk, Bool.false_and] at hE1
          replace hE1 := qh9 hE1
          have c3 : ((s[i]'his).toNat : Int) < 97 := by omega
          clear hk hok
          go_wp2
          go_ret
          exact ⟨ret_boolY hE1.out, rfl⟩
      · by_cases c2 : 57 < ((s[i]'his).toNat : Int)
        · by_cases c3 : ((s[i]'his).toNat : Int) < 97
          · have hk : okU (s[i]'his) = false := by rw [hok, decide_eq_false (show ¬ (97 : Int) ≤ ((s[i]'his).toNat : Int) by omega), decide_eq_false (show ¬ ((s[i]'his).toNat : Int) ≤ 57 by omega), decide_eq_false (show ¬ ((s[i]'his).toNat : Int) = 45 by omega)]; simp
            rw [hk, Bool.false_and] at hE1
            replace hE1 := qh9 hE1
            have c4 : ¬ ((s[i]'his).toNat : Int) = 45 := by omega
            clear hk hok
            go_wp2
            go_ret
            exact ⟨ret_boolY hE1.out, rfl⟩
          · by_cases c4 : 122 < ((s[i]'his).toNat : Int)
            · have hk : okU (s[i]'his) = false := by rw [hok, decide_eq_false (show ¬ ((s[i]'his).toNat : Int) ≤ 122 by omega), decide_eq_false (show ¬ ((s[i]'his).toNat : Int) ≤ 57 by omega), decide_eq_false (show ¬ ((s[i]'his).toNat : Int) = 45 by omega)]; simp
              rw [hk, Bool.false_and] at hE1
              replace hE1 := qh9 hE1
              have c5 : ¬ ((s[i]'his).toNat : Int) = 45 := by omega
              clear hk hok
              go_wp2
              go_ret
              exact ⟨ret_boolY hE1.out, rfl⟩
            · have hk : okU (s[i]'his) = true := by rw [hok, decide_eq_true (show (97 : Int) ≤ ((s[i]'his).toNat : Int) by omega), decide_eq_true (show ((s[i]'his).toNat : Int) ≤ 122 by omega)]; rfl
              rw [hk, Bool.true_and] at hE1
              replace hE1 := qh9 hE1
              clear hk hok
              go_wp2
              go_round
              case rel => exact ⟨i + 1, by omega, by go_num, hE1⟩
              case measure => simp [intOf]; omega
        · have c3 : ((s[i]'his).toNat : Int) < 97 := by omega
          have hk : okU (s[i]'his) = true := by rw [hok, decide_eq_true (show (48 : Int) ≤ ((s[i]'his).toNat : Int) by omega), decide_eq_true (show ((s[i]'his).toNat : Int) ≤ 57 by omega)]; simp
          rw [hk, Bool.true_and] at hE1
          replace hE1 := qh9 hE1
          clear hk hok
          go_wp2
          go_round
          case rel => exact ⟨i + 1, by omega, by go_num, hE1⟩
          case measure => simp [intOf]; omega
    · have hiE : i = s.size := by omega
      have hr : Hid (R = true) := by show _ = _; rw [← hE.out, List.drop_eq_nil_of_le (by rw [bl_length]; omega)]; rfl
      clear hE
      go_wp2
      go_ret
      exact ⟨ret_boolY hr.out.symm, rfl⟩
end Sy
namespace Sy
def SyO (W : World) (g : Nat) (p n : ByteArray) : Prop := W.heap[g]? = some (.cells #[.int .i64 2, .string ⟨#[]⟩, .string ⟨#[]⟩, .string p, .string n, .string ⟨#[]⟩, .slice none 0 0] 27 (0, 0))
theorem blk_ltY {W : World} {g : Nat} {o : Obj} (h : W.heap[g]? = some o) : g < W.heap.size := by
 rcases Nat.lt_or_ge g W.heap.size with hlt | hge
 · exact hlt
 · rw [Array.getElem?_eq_none hge] at h; cases h
theorem SyO.c {W : World} {g : Nat} {p n : ByteArray} (h : SyO W g p n) : W.cell? ⟨g, 0, none⟩ = some (.int .i64 2) ∧ W.cell? ⟨g, 1, none⟩ = some (.string ⟨#[]⟩) ∧ W.cell? ⟨g, 2, none⟩ = some (.string ⟨#[]⟩) ∧ W.cell? ⟨g, 3, none⟩ = some (.string p) ∧ W.cell? ⟨g, 4, none⟩ = some (.string n) ∧ W.cell? ⟨g, 5, none⟩ = some (.string ⟨#[]⟩) ∧ W.cell? ⟨g, 6, none⟩ = some (.slice none 0 0) := by
 refine ⟨?_, ?_, ?_, ?_, ?_, ?_, ?_⟩ <;> (rw [cell_of_row _ _ _ _ _ _ h]; rfl)
theorem SyO.keep {W W' : World} {g : Nat} {p n : ByteArray} (h : SyO W g p n) (hb : Below W.heap.size W W') : SyO W' g p n := (hb.block g (blk_ltY h)).trans h
def QuietY (w : World) (v : Value) (e : Ending) (w' : World) : Prop := e = .returned v ∧ ∃ n, w' = w.drewN n
theorem QuietY.below {w w' : World} {v : Value} {e : Ending} (h : QuietY w v e w') : RetY w v e w' := by
 obtain ⟨h1, n, rfl⟩ := h
 exact ⟨h1, rfl, rfl, rfl, Nat.le_refl _, fun _ _ => rfl⟩
theorem symbolY (p n : ByteArray) (w : World) : Calls Tryz.prog 141 #[.agg #[.string p, .string n]] w (RetY w (.agg #[.int .i64 2, .string ⟨#[]⟩, .string ⟨#[]⟩, .string p, .string n, .string ⟨#[]⟩, .slice none 0 0])) := by
 go_enter Tryz.func141, Tryz.ntmps141
 go_wp2_with fail
 refine bodyPost_ret (results_cell_row rfl _ _ (w.heap.size + 1) 27 #[.int .i64 2, .string ⟨#[]⟩, .string ⟨#[]⟩, .string p, .string n, .string ⟨#[]⟩, .slice none 0 0] (0, 0) _ rfl ?_ Tryz.underlying27 rfl (by kernel_rfl)) rfl ⟨rfl, ?_⟩
 · have := heap_alloc_new (w.alloc (.cells #[.string p, .string n] 24)) (.cells #[.int .i64 2, .string ⟨#[]⟩, .string ⟨#[]⟩, .string p, .string n, .string ⟨#[]⟩, .slice none 0 0] 27)
   have s : (w.alloc (.cells #[.string p, .string n] 24)).heap.size = w.heap.size + 1 := by simp
   rw [s] at this
   exact this
 · exact Below.alloc (Below.alloc (Below.refl _ _) (Nat.le_refl _) _) (by simp) _
theorem sameY (b b' : Nat) (w : World) (p n : ByteArray) (h : SyO w b p n) (h' : SyO w b' p n) :
 Calls Tryz.prog 235 #[.pointer (some ⟨b, 0, none⟩), .pointer (some ⟨b', 0, none⟩)] w (QuietY w (.bool true)) := by
 obtain ⟨l0, l1, l2, l3, l4, l5, l6⟩ := h.c
 obtain ⟨m0, m1, m2, m3, m4, m5, m6⟩ := h'.c
 clear h h' l6 m6
 go_enter Tryz.func235, Tryz.ntmps235
 go_wp2_with fail
 go_quiet (fail)
 go_wp2
 go_ret
 exact ⟨rfl, _, rfl⟩
theorem hasOnlyY (b : Nat) (w : World) (p n : ByteArray) (h : SyO w b p n) :
 Calls Tryz.prog 221 #[.pointer (some ⟨b, 0, none⟩), .agg #[.int .i64 0, .string ⟨#[]⟩, .string ⟨#[]⟩, .string p, .string n, .string ⟨#[]⟩, .slice none 0 0]] w (RetY w (.bool true)) := by
 have hlt := blk_ltY h
 have hne : ¬ b = w.heap.size := by omega
 have hb0 := Below.alloc (Below.refl w.heap.size w) (Nat.le_refl _) (.cells #[.int .i64 2, .string ⟨#[]⟩, .string ⟨#[]⟩, .string p, .string n, .string ⟨#[]⟩, .slice none 0 0] 27)
 have hg0 : SyO (w.alloc (.cells #[.int .i64 2, .string ⟨#[]⟩, .string ⟨#[]⟩, .string p, .string n, .string ⟨#[]⟩, .slice none 0 0] 27)) w.heap.size p n := heap_alloc_new w _
 have hk0 := h.keep hb0
 obtain ⟨l0, l1, l2, l3, l4, l5, l6⟩ := h.c
 clear h
 go_enter Tryz.func221, Tryz.ntmps221
 go_wp2_with fail
 generalize w.alloc (.cells #[.int .i64 2, .string ⟨#[]⟩, .string ⟨#[]⟩, .string p, .string n, .string ⟨#[]⟩, .slice none 0 0] 27) = W at hb0 hg0 hk0 ⊢
 clear l0 l1 l2 l3 l4 l5 l6
 obtain ⟨g0, g1, g2, g3, g4, g5, g6⟩ := hg0.c
 obtain ⟨k0, k1, k2, k3, k4, k5, k6⟩ := hk0.c
 have C : Hid (∀ m, Calls Tryz.prog 235 #[.pointer (some ⟨b, 0, none⟩), .pointer (some ⟨w.heap.size, 0, none⟩)] (W.drewN m) (QuietY (W.drewN m) (.bool true))) := fun m => sameY b w.heap.size (W.drewN m) p n (by unfold SyO at hk0 ⊢; simpa using hk0) (by unfold SyO at hg0 ⊢; simpa using hg0)
 have HB := qh9 hb0
 clear hg0 hk0 hb0 k0 k1 k2 k3 k4 k5 g0 g1 g2 g3 g4 g5
 go_quiet ((go_at_call 235; exact Calls.quiet_of (C.out _)))
 go_wp2
 go_ret
 exact ⟨rfl, HB.out.trans (⟨rfl, rfl, rfl, Nat.le_refl _, fun _ _ => rfl⟩ : Below w.heap.size W (W.drewN nq))⟩
theorem countY (b : Nat) (w : World) (p n : ByteArray) (h : SyO w b p n) :
 Calls Tryz.prog 164 #[.pointer (some ⟨b, 0, none⟩), .int .i64 0] w (fun e w' => e = .returned (.int .i64 1) ∧ w = w') := by
 obtain ⟨l0, l1, l2, l3, l4, l5, l6⟩ := h.c
 clear h l0 l1 l2 l3 l4 l5
 go_enter Tryz.func164, Tryz.ntmps164
 go_wp2_with fail
 go_loop [0, 1] (fun u v => u = .pointer (some ⟨b, 0, none⟩) ∧ v = .int .i64 0) (fun _ v => 1 - (intOf v).toNat)
 case atStart => exact ⟨rfl, rfl⟩
 case round =>
  obtain ⟨rfl, rfl⟩ := hrel
  go_wp2
  go_ret
  exact ⟨rfl, rfl⟩
theorem nodesY (p n : ByteArray) (w : World) :
 Calls Tryz.prog 113 #[.agg #[.int .i64 2, .string ⟨#[]⟩, .string ⟨#[]⟩, .string p, .string n, .string ⟨#[]⟩, .slice none 0 0]] w (RetY w (.int .i64 1)) := by
 have hb0 := qh9 (Below.alloc (Below.refl w.heap.size w) (Nat.le_refl _) (.cells #[.int .i64 2, .string ⟨#[]⟩, .string ⟨#[]⟩, .string p, .string n, .string ⟨#[]⟩, .slice none 0 0] 27))
 have hg0 : Hid (SyO (w.alloc (.cells #[.int .i64 2, .string ⟨#[]⟩, .string ⟨#[]⟩, .string p, .string n, .string ⟨#[]⟩, .slice none 0 0] 27)) w.heap.size p n) := heap_alloc_new w _
 go_enter Tryz.func113, Tryz.ntmps113
 go_wp2_with fail
 generalize w.alloc (.cells #[.int .i64 2, .string ⟨#[]⟩, .string ⟨#[]⟩, .string p, .string n, .string ⟨#[]⟩, .slice none 0 0] 27) = W at hb0 hg0 ⊢
 refine (countY _ W p n hg0.out).mono ?_
 rintro e w' ⟨rfl, rfl⟩
 go_wp2
 go_ret
 exact ⟨rfl, hb0.out⟩
theorem wellY (b : Nat) (w : World) (p n : ByteArray) (h : SyO w b p n) :
 Calls Tryz.prog 168 #[.pointer (some ⟨b, 0, none⟩)] w (RetY w (.bool (pkgOk p && nameOk n))) := by
 obtain ⟨l0, l1, l2, l3, l4, l5, l6⟩ := h.c
 have HO := qh9 (hasOnlyY b w p n h)
 have HC : Hid (∀ wd, Below w.heap.size w wd → wd.cell? ⟨b, 3, none⟩ = some (.string p) ∧ wd.cell? ⟨b, 4, none⟩ = some (.string n)) := fun wd hb => ⟨(h.keep hb).c.2.2.2.1, (h.keep hb).c.2.2.2.2.1⟩
 clear h l1 l2 l5 l6
 go_enter Tryz.func168, Tryz.ntmps168
 go_wp2_with fail
 refine HO.out.mono ?_
 rintro e w1 ⟨rfl, hb1⟩
 obtain ⟨j3, j4⟩ := HC.out _ hb1
 have HB := qh9 hb1
 clear hb1 l0 l3 l4
 go_wp2_with fail
 refine (isPackageY p _).mono ?_
 rintro e w2 ⟨rfl, rfl⟩
 cases hp : pkgOk p with
 | false =>
  go_wp2
  go_ret
  exact ⟨ret_boolY (by rw [hp]; rfl), HB.out⟩
 | true =>
  go_wp2_with fail
  refine (isNameY n _).mono ?_
  rintro e w2 ⟨rfl, rfl⟩
  go_wp2
  go_ret
  exact ⟨ret_boolY (by rw [hp]; rfl), HB.out⟩
theorem validOY (p n : ByteArray) (w : World) :
 Calls Tryz.prog 118 #[.agg #[.int .i64 2, .string ⟨#[]⟩, .string ⟨#[]⟩, .string p, .string n, .string ⟨#[]⟩, .slice none 0 0]] w (RetY w (.bool (pkgOk p && nameOk n))) := by
 have hb0 := qh9 (Below.alloc (Below.refl w.heap.size w) (Nat.le_refl _) (.cells #[.int .i64 2, .string ⟨#[]⟩, .string ⟨#[]⟩, .string p, .string n, .string ⟨#[]⟩, .slice none 0 0] 27))
 have hg0 : Hid (SyO (w.alloc (.cells #[.int .i64 2, .string ⟨#[]⟩, .string ⟨#[]⟩, .string p, .string n, .string ⟨#[]⟩, .slice none 0 0] 27)) w.heap.size p n) := heap_alloc_new w _
 go_enter Tryz.func118, Tryz.ntmps118
 go_wp2_with fail
 generalize w.alloc (.cells #[.int .i64 2, .string ⟨#[]⟩, .string ⟨#[]⟩, .string p, .string n, .string ⟨#[]⟩, .slice none 0 0] 27) = W at hb0 hg0 ⊢
 obtain ⟨l0, l1, l2, l3, l4, l5, l6⟩ := hg0.out.c
 go_wp2_with fail
 refine (nodesY p n _).mono ?_
 rintro e w1 ⟨rfl, hb⟩
 have HG := qh9 (hg0.out.keep hb)
 have HB := qh9 (chainY hb0.out hb (Nat.le_refl _))
 clear l0 l1 l2 l3 l4 l5 l6 hb
 go_wp2_with fail
 refine (wellY _ _ p n HG.out).mono ?_
 rintro e w2 ⟨rfl, hb⟩
 have HB2 := qh9 (chainY HB.out hb (Nat.le_refl _))
 clear hb
 go_wp2
 go_ret
 exact ⟨rfl, HB2.out⟩
def symOk (p n : ByteArray) : Bool := pkgOk p && nameOk n
theorem validSY (p n : ByteArray) (w : World) : Calls Tryz.prog 182 #[.agg #[.string p, .string n]] w (RetY w (.bool (symOk p n))) := by
 have hb0 := qh9 (Below.alloc (Below.refl w.heap.size w) (Nat.le_refl _) (.cells #[.string p, .string n] 24))
 go_enter Tryz.func182, Tryz.ntmps182
 go_wp2_with fail
 generalize w.alloc (.cells #[.string p, .string n] 24) = W at hb0 ⊢
 refine (symbolY p n _).mono ?_
 rintro e w1 ⟨rfl, hb⟩
 have HB := qh9 (chainY hb0.out hb (Nat.le_refl _))
 clear hb
 go_wp2_with fail
 refine (validOY p n _).mono ?_
 rintro e w2 ⟨rfl, hb⟩
 have HB2 := qh9 (chainY HB.out hb (Nat.le_refl _))
 clear hb
 go_wp2
 go_ret
 exact ⟨rfl, HB2.out⟩
theorem validPY (p : ByteArray) (w : World) : Calls Tryz.prog 240 #[.string p] w (RetY w (.bool (pkgOk p))) := by
 go_enter Tryz.func240, Tryz.ntmps240
 go_wp2_with fail
 refine (validSY p ⟨#[120]⟩ _).mono ?_
 rintro e w1 ⟨rfl, hb⟩
 have HB := qh9 hb
 clear hb
 have hx : symOk p ⟨#[120]⟩ = pkgOk p := by unfold symOk; rw [show nameOk ⟨#[120]⟩ = true from by decide, Bool.and_true]
 rw [hx]
 clear hx
 go_wp2
 go_ret
 exact ⟨rfl, HB.out⟩
theorem namedY (p n : ByteArray) (w : World) : Calls Tryz.prog 166 #[.agg #[.string p, .string n]] w (RetY w (.bool (symOk p n))) := by
 have hb0 := qh9 (Below.alloc (Below.refl w.heap.size w) (Nat.le_refl _) (.cells #[.string p, .string n] 24))
 unfold symOk
 cases hp : pkgOk p with
 | false =>
  go_enter Tryz.func166, Tryz.ntmps166
  go_wp2_with fail
  refine (packageY p _).mono ?_
  rintro e w1 ⟨rfl, rfl⟩
  rw [hp]
  go_wp2
  go_ret
  exact ⟨ret_boolY (by first | rfl | (rw [hp]; rfl) | exact decide_eq_false (by omega)), hb0.out⟩
 | true =>
  unfold nameOk
  by_cases h1 : 1 ≤ n.size
  · have h3 : (1 : Int) ≤ (n.size : Int) := by omega
    by_cases h2 : n.size ≤ 40
    · have h4 : (n.size : Int) ≤ 40 := by omega
      rw [decide_eq_true h1, decide_eq_true h2]
      go_enter Tryz.func166, Tryz.ntmps166
      go_wp2_with fail
      refine (packageY p _).mono ?_
      rintro e w1 ⟨rfl, rfl⟩
      rw [hp]
      go_wp2
      go_ret
      exact ⟨ret_boolY (by first | rfl | (rw [hp]; rfl) | exact decide_eq_false (by omega)), hb0.out⟩
    · have h4 : ¬ (n.size : Int) ≤ 40 := by omega
      rw [decide_eq_true h1, decide_eq_false h2]
      go_enter Tryz.func166, Tryz.ntmps166
      go_wp2_with fail
      refine (packageY p _).mono ?_
      rintro e w1 ⟨rfl, rfl⟩
      rw [hp]
      go_wp2
      go_ret
      exact ⟨ret_boolY (by first | rfl | (rw [hp]; rfl) | exact decide_eq_false (by omega)), hb0.out⟩
  · have h3 : ¬ (1 : Int) ≤ (n.size : Int) := by omega
    rw [decide_eq_false h1]
    go_enter Tryz.func166, Tryz.ntmps166
    go_wp2_with fail
    refine (packageY p _).mono ?_
    rintro e w1 ⟨rfl, rfl⟩
    rw [hp]
    go_wp2
    go_ret
    exact ⟨ret_boolY (by first | rfl | (rw [hp]; rfl) | exact decide_eq_false (by omega)), hb0.out⟩
theorem validSR (p n : ByteArray) (w : World) : Calls Tryz.prog 116 #[.agg #[.string p, .string n]] w (RetY w (.bool (symOk p n))) := by
 have hb0 := qh9 (Below.alloc (Below.refl w.heap.size w) (Nat.le_refl _) (.cells #[.string p, .string n] 24))
 go_enter Tryz.func116, Tryz.ntmps116
 go_wp2_with fail
 generalize w.alloc (.cells #[.string p, .string n] 24) = W at hb0 ⊢
 refine (namedY p n _).mono ?_
 rintro e w1 ⟨rfl, hb⟩
 have HB := qh9 (chainY hb0.out hb (Nat.le_refl _))
 clear hb
 go_wp2
 go_ret
 exact ⟨rfl, HB.out⟩
theorem validPR (p : ByteArray) (w : World) : Calls Tryz.prog 114 #[.string p] w (RetY w (.bool (pkgOk p))) := by
 go_enter Tryz.func114, Tryz.ntmps114
 go_wp2_with fail
 refine (packageY p _).mono ?_
 rintro e w1 ⟨rfl, rfl⟩
 go_wp2
 go_ret
 exact ⟨rfl, Below.refl _ _⟩
end Sy
namespace Sy
abbrev Sy := ByteArray × ByteArray
abbrev Pg := ByteArray × List Sy
def sv (s : Sy) : Value := .agg #[.string s.1, .string s.2]
def SyV (w : World) (l : List Sy) (v : Value) : Prop := ∃ A c, v = .slice A l.length c ∧ l.length ≤ c ∧ c ≤ maxLen ∧
 (0 < l.length → ∃ b o, A = some ⟨b, o, none⟩ ∧ b < w.heap.size ∧ ∀ i (hi : i < l.length), w.cell? ⟨b, o + i * 2, none⟩ = some (.string l[i].1) ∧ w.cell? ⟨b, o + i * 2 + 1, none⟩ = some (.string l[i].2))
theorem SyV.keep {w w' : World} {l : List Sy} {v : Value} (h : SyV w l v) (hb : Below w.heap.size w w') : SyV w' l v := by
 obtain ⟨A, c, h1, h2, h3, h4⟩ := h
 refine ⟨A, c, h1, h2, h3, fun hl => ?_⟩
 obtain ⟨b, o, h5, h6, h7⟩ := h4 hl
 exact ⟨b, o, h5, Nat.lt_of_lt_of_le h6 hb.size, fun i hi => ⟨(hb.cell (p := ⟨b, _, none⟩) h6).trans (h7 i hi).1, (hb.cell (p := ⟨b, _, none⟩) h6).trans (h7 i hi).2⟩⟩
theorem SyV.nil (w : World) : SyV w [] (.slice none 0 0) := ⟨none, 0, rfl, Nat.le_refl _, Nat.zero_le _, fun h => by simp at h⟩
def PgV (w : World) (l : List Pg) (v : Value) : Prop := ∃ A c, v = .slice A l.length c ∧ l.length ≤ c ∧ c ≤ maxLen ∧
 (0 < l.length → ∃ b o, A = some ⟨b, o, none⟩ ∧ b < w.heap.size ∧ ∀ i (hi : i < l.length), w.cell? ⟨b, o + i * 2, none⟩ = some (.string l[i].1) ∧ ∃ u, w.cell? ⟨b, o + i * 2 + 1, none⟩ = some u ∧ SyV w l[i].2 u)
theorem PgV.keep {w w' : World} {l : List Pg} {v : Value} (h : PgV w l v) (hb : Below w.heap.size w w') : PgV w' l v := by
 obtain ⟨A, c, h1, h2, h3, h4⟩ := h
 refine ⟨A, c, h1, h2, h3, fun hl => ?_⟩
 obtain ⟨b, o, h5, h6, h7⟩ := h4 hl
 refine ⟨b, o, h5, Nat.lt_of_lt_of_le h6 hb.size, fun i hi => ?_⟩
 obtain ⟨k1, u, k2, k3⟩ := h7 i hi
 exact ⟨(hb.cell (p := ⟨b, _, none⟩) h6).trans k1, u, (hb.cell (p := ⟨b, _, none⟩) h6).trans k2, k3.keep hb⟩
theorem PgV.nil (w : World) : PgV w [] (.slice none 0 0) := ⟨none, 0, rfl, Nat.le_refl _, Nat.zero_le _, fun h => by simp at h⟩
def PB (W : World) (g : Nat) (x y : Value) : Prop := W.heap[g]? = some (.cells #[x, y] 96 (0, 0))
def SB (W : World) (g : Nat) (x y : Value) : Prop := W.heap[g]? = some (.cells #[x, y] 24 (0, 0))
theorem PB.lt {W : World} {g : Nat} {x y : Value} (h : PB W g x y) : g < W.heap.size := blk_ltY h
theorem PB.keep {W W' : World} {g : Nat} {x y : Value} (h : PB W g x y) (hb : Below W.heap.size W W') : PB W' g x y := (hb.block g h.lt).trans h
theorem PB.new (w : World) (x y : Value) : PB (w.alloc (.cells #[x, y] 96)) w.heap.size x y := heap_alloc_new w _
theorem PB.c0 {W : World} {g : Nat} {x y : Value} (h : PB W g x y) : W.cell? ⟨g, 0, none⟩ = some x := by rw [cell_of_row _ _ _ _ _ _ h]; rfl
theorem PB.c1 {W : World} {g : Nat} {x y : Value} (h : PB W g x y) : W.cell? ⟨g, 1, none⟩ = some y := by rw [cell_of_row _ _ _ _ _ _ h]; rfl
theorem PB.set {W : World} {g : Nat} {x y : Value} (h : PB W g x y) (u v : Value) : PB (W.setRow g #[u, v]) g u v := setRow_heap _ _ _ _ _ _ h
theorem PB.store {ops : Array Oper} {rest : List Oper} {o : Oper} {a : Act} {w : World} {Q : Exit → Act → World → Prop} (x y : Operand) (ho : o.op = .store 96 x y) (hgd : o.guard = none)
 (g : Nat) (u v u0 v0 : Value) (hx : a.eval x = .pointer (some ⟨g, 0, none⟩)) (hy : a.eval y = .agg #[u, v]) (hg : PB w g u0 v0) (h1 : u.oneCell' = true) (h2 : v.oneCell' = true)
 (h : wpList Tryz.prog ops Q rest (a.put o.dst undef) (w.setRow g #[u, v])) : wpList Tryz.prog ops Q (o :: rest) a w :=
 wpList_store_row hgd 96 x y ho g #[u, v] hx hy 96 #[u0, v0] hg (by kernel_rfl) rfl (by simp [h1, h2]) h
theorem SB.lt {W : World} {g : Nat} {x y : Value} (h : SB W g x y) : g < W.heap.size := blk_ltY h
theorem SB.keep {W W' : World} {g : Nat} {x y : Value} (h : SB W g x y) (hb : Below W.heap.size W W') : SB W' g x y := (hb.block g h.lt).trans h
theorem SB.new (w : World) (x y : Value) : SB (w.alloc (.cells #[x, y] 24)) w.heap.size x y := heap_alloc_new w _
theorem SB.c0 {W : World} {g : Nat} {x y : Value} (h : SB W g x y) : W.cell? ⟨g, 0, none⟩ = some x := by rw [cell_of_row _ _ _ _ _ _ h]; rfl
theorem SB.c1 {W : World} {g : Nat} {x y : Value} (h : SB W g x y) : W.cell? ⟨g, 1, none⟩ = some y := by rw [cell_of_row _ _ _ _ _ _ h]; rfl
theorem SB.set {W : World} {g : Nat} {x y : Value} (h : SB W g x y) (u v : Value) : SB (W.setRow g #[u, v]) g u v := setRow_heap _ _ _ _ _ _ h
theorem SB.store {ops : Array Oper} {rest : List Oper} {o : Oper} {a : Act} {w : World} {Q : Exit → Act → World → Prop} (x y : Operand) (ho : o.op = .store 24 x y) (hgd : o.guard = none)
 (g : Nat) (u v u0 v0 : Value) (hx : a.eval x = .pointer (some ⟨g, 0, none⟩)) (hy : a.eval y = .agg #[u, v]) (hg : SB w g u0 v0) (h1 : u.oneCell' = true) (h2 : v.oneCell' = true)
 (h : wpList Tryz.prog ops Q rest (a.put o.dst undef) (w.setRow g #[u, v])) : wpList Tryz.prog ops Q (o :: rest) a w :=
 wpList_store_row hgd 24 x y ho g #[u, v] hx hy 24 #[u0, v0] hg (by kernel_rfl) rfl (by simp [h1, h2]) h
theorem PB.run {w : World} {g : Nat} {x y : Value} (hg : PB w g x y) : (loadVar 96 ⟨g, 0, none⟩).run Tryz.prog w = .ok (.agg #[x, y]) w :=
 run_loadVar_row w g 96 96 #[x, y] (0, 0) _ hg Tryz.underlying96 rfl (by kernel_rfl)
theorem retPB {fn : Func} {r0 r1 : Tmp} {tmps : Array Value} {w : World} {g : Nat} {u v x : Value} {Q : Ending → World → Prop} (h : fn.results = #[.cell r0 96, .tmp r1]) (h0 : tmps.getD r0 undef = .pointer (some ⟨g, 0, none⟩)) (h1 : tmps.getD r1 undef = x)
 (hg : PB w g u v) (hQ : Q (.returned (.tuple #[.agg #[u, v], x])) w) : bodyPost Tryz.prog fn Q Exit.ret ⟨tmps, []⟩ w := by
 subst h1
 have h0' : tmps[r0]?.getD undef = .pointer (some ⟨g, 0, none⟩) := by simpa using h0
 exact bodyPost_ret (v := .tuple #[.agg #[u, v], tmps.getD r1 undef]) (by simp [results, h, h0', asAddr, hg.run]) rfl hQ
theorem SB.run {w : World} {g : Nat} {x y : Value} (hg : SB w g x y) : (loadVar 24 ⟨g, 0, none⟩).run Tryz.prog w = .ok (.agg #[x, y]) w :=
 run_loadVar_row w g 24 24 #[x, y] (0, 0) _ hg Tryz.underlying24 rfl (by kernel_rfl)
theorem retSB {fn : Func} {r0 r1 : Tmp} {tmps : Array Value} {w : World} {g : Nat} {u v x : Value} {Q : Ending → World → Prop} (h : fn.results = #[.cell r0 24, .tmp r1]) (h0 : tmps.getD r0 undef = .pointer (some ⟨g, 0, none⟩)) (h1 : tmps.getD r1 undef = x)
 (hg : SB w g u v) (hQ : Q (.returned (.tuple #[.agg #[u, v], x])) w) : bodyPost Tryz.prog fn Q Exit.ret ⟨tmps, []⟩ w := by
 subst h1
 have h0' : tmps[r0]?.getD undef = .pointer (some ⟨g, 0, none⟩) := by simpa using h0
 exact bodyPost_ret (v := .tuple #[.agg #[u, v], tmps.getD r1 undef]) (by simp [results, h, h0', asAddr, hg.run]) rfl hQ
def findM : List Pg → ByteArray → Option Pg
 | [], _ => none
 | p :: r, n => if (p.1.toList == n.toList) = true then some p else findM r n
def impM : List Sy → ByteArray → Option Sy
 | [], _ => none
 | s :: r, n => if (s.2.toList == n.toList) = true then some s else impM r n
theorem findM_drop {l : List Pg} {i : Nat} (hi : i < l.length) (n : ByteArray) : findM (l.drop i) n = if (l[i].1.toList == n.toList) = true then some l[i] else findM (l.drop (i + 1)) n := by rw [List.drop_eq_getElem_cons hi]; rfl
theorem impM_drop {l : List Sy} {i : Nat} (hi : i < l.length) (n : ByteArray) : impM (l.drop i) n = if (l[i].2.toList == n.toList) = true then some l[i] else impM (l.drop (i + 1)) n := by rw [List.drop_eq_getElem_cons hi]; rfl
def RetF (w : World) (m : Option Pg) (e : Ending) (w' : World) : Prop := match m with
 | some p => ∃ u, e = .returned (.tuple #[.agg #[.string p.1, u], .bool true]) ∧ SyV w' p.2 u ∧ Below w.heap.size w w'
 | none => e = .returned (.tuple #[.agg #[.string ⟨#[]⟩, .slice none 0 0], .bool false]) ∧ Below w.heap.size w w'
def RetS (w : World) (m : Option Sy) (e : Ending) (w' : World) : Prop := match m with
 | some s => e = .returned (.tuple #[.agg #[.string s.1, .string s.2], .bool true]) ∧ Below w.heap.size w w'
 | none => e = .returned (.tuple #[.agg #[.string ⟨#[]⟩, .string ⟨#[]⟩], .bool false]) ∧ Below w.heap.size w w'
def FinW (w W wr : World) (g : Nat) (l : List Pg) (n : ByteArray) (i : Nat) (R : Option Pg) : Prop := findM (l.drop i) n = R ∧ Below w.heap.size w wr ∧ PB wr g (.string ⟨#[]⟩) (.slice none 0 0)
def ImpW (w W wr : World) (g : Nat) (l : List Sy) (n : ByteArray) (i : Nat) (R : Option Sy) : Prop := impM (l.drop i) n = R ∧ Below w.heap.size w wr ∧ SB wr g (.string ⟨#[]⟩) (.string ⟨#[]⟩)
theorem findY (l : List Pg) (v : Value) (n : ByteArray) (w : World) (hv : PgV w l v) (hl : l.length ≤ 1000000) : Calls Tryz.prog 169 #[v, .string n] w (RetF w (findM l n)) := by
 obtain ⟨A, c, rfl, hlc, hcm, hA⟩ := hv
 have HA := qh9 hA
 clear hA
 obtain ⟨L, hL⟩ : ∃ L, l.length = L := ⟨_, rfl⟩
 rw [hL] at hl hlc ⊢
 have HL := qh9 hL
 clear hL
 obtain ⟨R, hR⟩ : ∃ R, findM l n = R := ⟨_, rfl⟩
 rw [hR]
 have T := PB.new w (.string ⟨#[]⟩) (.slice none 0 0)
 have H0 : Hid (FinW w w (w.alloc (.cells #[.string ⟨#[]⟩, .slice none 0 0] 96)) w.heap.size l n 0 R) := ⟨by rw [List.drop_zero]; exact hR, Below.alloc (Below.refl _ _) (Nat.le_refl _) _, T⟩
 clear hR T
 go_enter Tryz.func169, Tryz.ntmps169
 go_wp2_with fail
 generalize w.alloc (.cells #[.string ⟨#[]⟩, .slice none 0 0] 96) = W0 at H0 ⊢
 go_loopw [10] (fun v wr => ∃ (i : Nat), i ≤ L ∧ v = .int .i64 i ∧ Hid (FinW w W0 wr w.heap.size l n i R)) (fun v _ => L - (intOf v).toNat)
 case atStart => exact ⟨0, Nat.zero_le _, rfl, H0⟩
 case round =>
  obtain ⟨i, hi, rfl, hE⟩ := hrel
  obtain ⟨wo, rfl⟩ : ∃ wo : World, wo = wr := ⟨_, rfl⟩
  obtain ⟨hf, hb, hg⟩ := hE.out
  clear hE H0
  have HG := qh9 hg
  have HB := qh9 hb
  have HF := qh9 hf
  clear hg hb hf
  by_cases hiL : i < L
  · have hil : i < l.length := by rw [HL.out]; exact hiL
    obtain ⟨b, o, rfl, hbw, hcell⟩ := HA.out (by omega)
    obtain ⟨k0, u, k1, hu⟩ := hcell i hil
    have step := findM_drop hil n
    have HS := qh9 hu
    obtain ⟨A1, c1, rfl, _, _, _⟩ := hu
    have l0 := (HB.out.cell (p := ⟨b, o + i * 2, none⟩) hbw).trans k0
    have l1 := (HB.out.cell (p := ⟨b, o + i * 2 + 1, none⟩) hbw).trans k1
    clear k0 k1 hcell
    rw [HF.out] at step
    cases hq : (l[i].1.toList == n.toList) with
    | true =>
     rw [hq, if_pos rfl] at step
     subst step
     generalize hp : l[i].2 = p2 at HS l1
     have HP := qh9 hp
     clear hp HF
     generalize hp1 : l[i].1 = p1 at l0 hq
     have HP1 := qh9 hp1
     clear hp1
     go_wp2_with ((with_reducible refine PB.store (.tmp 4) (.tmp 18) ?_ ?_ w.heap.size (.string p1) (.slice A1 p2.length c1) (.string ⟨#[]⟩) (.slice none 0 0) ?_ ?_ ?_ ?_ ?_ ?_); rfl; rfl; rfl; rfl; exact HG.out.keep (Below.alloc (Below.refl _ _) (Nat.le_refl _) _); rfl; rfl)
     refine retPB rfl rfl rfl ((HG.out.keep (Below.alloc (Below.refl _ _) (Nat.le_refl _) _)).set _ _) ?_
     have hx : Below w.heap.size w (wo.alloc (.cells #[.string p1, .slice A1 p2.length c1] 96)) := chainY HB.out (Below.alloc (Below.refl _ _) (Nat.le_refl _) _) (Nat.le_refl _)
     have hy := below_setRow hx (Nat.le_refl _) #[.string p1, .slice A1 p2.length c1]
     exact ⟨_, by rw [HP1.out]; rfl, by rw [HP.out]; exact HS.out.keep hy, hy⟩
    | false =>
     rw [hq, if_neg (by simp)] at step
     replace step := qh9 step
     generalize l[i].1 = p1 at l0 hq
     generalize l[i].2 = p2 at HS l1
     go_wp2_with fail
     go_roundw
     case rel => exact ⟨i + 1, by omega, by go_num, ⟨step.out.symm, chainY HB.out (Below.alloc (Below.refl _ _) (Nat.le_refl _) _) (Nat.le_refl _), HG.out.keep (Below.alloc (Below.refl _ _) (Nat.le_refl _) _)⟩⟩
     case measure => simp [intOf]; omega
  · have hiE : i = L := by omega
    have hr : Hid (R = none) := by
     show _ = _
     rw [← HF.out, List.drop_eq_nil_of_le (by rw [HL.out]; omega)]
     rfl
    clear HF
    go_wp2_with ((with_reducible refine PB.store (.tmp 4) (.tmp 20) ?_ ?_ w.heap.size (.string ⟨#[]⟩) (.slice none 0 0) (.string ⟨#[]⟩) (.slice none 0 0) ?_ ?_ HG.out ?_ ?_ ?_); rfl; rfl; rfl; rfl; rfl; rfl)
    refine retPB rfl rfl rfl (HG.out.set _ _) ?_
    rw [hr.out]
    exact ⟨rfl, below_setRow HB.out (Nat.le_refl _) _⟩
theorem findRY (l : List Pg) (v : Value) (n : ByteArray) (w : World) (hv : PgV w l v) (hl : l.length ≤ 1000000) : Calls Tryz.prog 115 #[v, .string n] w (RetF w (findM l n)) := by
 obtain ⟨A, c, rfl, hlc, hcm, hA⟩ := hv
 have HA := qh9 hA
 clear hA
 obtain ⟨L, hL⟩ : ∃ L, l.length = L := ⟨_, rfl⟩
 rw [hL] at hl hlc ⊢
 have HL := qh9 hL
 clear hL
 obtain ⟨R, hR⟩ : ∃ R, findM l n = R := ⟨_, rfl⟩
 rw [hR]
 have T := PB.new w (.string ⟨#[]⟩) (.slice none 0 0)
 have H0 : Hid (FinW w w (w.alloc (.cells #[.string ⟨#[]⟩, .slice none 0 0] 96)) w.heap.size l n 0 R) := ⟨by rw [List.drop_zero]; exact hR, Below.alloc (Below.refl _ _) (Nat.le_refl _) _, T⟩
 clear hR T
 go_enter Tryz.func115, Tryz.ntmps115
 go_wp2_with fail
 generalize w.alloc (.cells #[.string ⟨#[]⟩, .slice none 0 0] 96) = W0 at H0 ⊢
 go_loopw [6] (fun v wr => ∃ (i : Nat), i ≤ L ∧ v = .int .i64 i ∧ Hid (FinW w W0 wr w.heap.size l n i R)) (fun v _ => L - (intOf v).toNat)
 case atStart => exact ⟨0, Nat.zero_le _, rfl, H0⟩
 case round =>
  obtain ⟨i, hi, rfl, hE⟩ := hrel
  obtain ⟨wo, rfl⟩ : ∃ wo : World, wo = wr := ⟨_, rfl⟩
  obtain ⟨hf, hb, hg⟩ := hE.out
  clear hE H0
  have HG := qh9 hg
  have HB := qh9 hb
  have HF := qh9 hf
  clear hg hb hf
  by_cases hiL : i < L
  · have hil : i < l.length := by rw [HL.out]; exact hiL
    obtain ⟨b, o, rfl, hbw, hcell⟩ := HA.out (by omega)
    obtain ⟨k0, u, k1, hu⟩ := hcell i hil
    have step := findM_drop hil n
    have HS := qh9 hu
    obtain ⟨A1, c1, rfl, _, _, _⟩ := hu
    have l0 := (HB.out.cell (p := ⟨b, o + i * 2, none⟩) hbw).trans k0
    have l1 := (HB.out.cell (p := ⟨b, o + i * 2 + 1, none⟩) hbw).trans k1
    clear k0 k1 hcell
    rw [HF.out] at step
    cases hq : (l[i].1.toList == n.toList) with
    | true =>
     rw [hq, if_pos rfl] at step
     subst step
     generalize hp : l[i].2 = p2 at HS l1
     have HP := qh9 hp
     clear hp HF
     generalize hp1 : l[i].1 = p1 at l0 hq
     have HP1 := qh9 hp1
     clear hp1
     go_wp2_with ((with_reducible refine PB.store (.tmp 4) (.tmp 23) ?_ ?_ w.heap.size (.string p1) (.slice A1 p2.length c1) (.string ⟨#[]⟩) (.slice none 0 0) ?_ ?_ ?_ ?_ ?_ ?_); rfl; rfl; rfl; rfl; exact HG.out; rfl; rfl)
     refine retPB rfl rfl rfl (HG.out.set _ _) ?_
     have hx : Below w.heap.size w wo := HB.out
     have hy := below_setRow hx (Nat.le_refl _) #[.string p1, .slice A1 p2.length c1]
     exact ⟨_, by rw [HP1.out]; rfl, by rw [HP.out]; exact HS.out.keep hy, hy⟩
    | false =>
     rw [hq, if_neg (by simp)] at step
     replace step := qh9 step
     generalize l[i].1 = p1 at l0 hq
     generalize l[i].2 = p2 at HS l1
     go_wp2_with fail
     go_roundw
     case rel => exact ⟨i + 1, by omega, by go_num, ⟨step.out.symm, HB.out, HG.out⟩⟩
     case measure => simp [intOf]; omega
  · have hiE : i = L := by omega
    have hr : Hid (R = none) := by
     show _ = _
     rw [← HF.out, List.drop_eq_nil_of_le (by rw [HL.out]; omega)]
     rfl
    clear HF
    go_wp2_with ((with_reducible refine PB.store (.tmp 4) (.tmp 24) ?_ ?_ w.heap.size (.string ⟨#[]⟩) (.slice none 0 0) (.string ⟨#[]⟩) (.slice none 0 0) ?_ ?_ HG.out ?_ ?_ ?_); rfl; rfl; rfl; rfl; rfl; rfl)
    refine retPB rfl rfl rfl (HG.out.set _ _) ?_
    rw [hr.out]
    exact ⟨rfl, below_setRow HB.out (Nat.le_refl _) _⟩
theorem importedY (l : List Sy) (v : Value) (n : ByteArray) (w : World) (hv : SyV w l v) (hl : l.length ≤ 1000000) : Calls Tryz.prog 251 #[v, .string n] w (RetS w (impM l n)) := by
 obtain ⟨A, c, rfl, hlc, hcm, hA⟩ := hv
 have HA := qh9 hA
 clear hA
 obtain ⟨L, hL⟩ : ∃ L, l.length = L := ⟨_, rfl⟩
 rw [hL] at hl hlc ⊢
 have HL := qh9 hL
 clear hL
 obtain ⟨R, hR⟩ : ∃ R, impM l n = R := ⟨_, rfl⟩
 rw [hR]
 have T := SB.new w (.string ⟨#[]⟩) (.string ⟨#[]⟩)
 have H0 : Hid (ImpW w w (w.alloc (.cells #[.string ⟨#[]⟩, .string ⟨#[]⟩] 24)) w.heap.size l n 0 R) := ⟨by rw [List.drop_zero]; exact hR, Below.alloc (Below.refl _ _) (Nat.le_refl _) _, T⟩
 clear hR T
 go_enter Tryz.func251, Tryz.ntmps251
 go_wp2_with fail
 generalize w.alloc (.cells #[.string ⟨#[]⟩, .string ⟨#[]⟩] 24) = W0 at H0 ⊢
 go_loopw [10] (fun v wr => ∃ (i : Nat), i ≤ L ∧ v = .int .i64 i ∧ Hid (ImpW w W0 wr w.heap.size l n i R)) (fun v _ => L - (intOf v).toNat)
 case atStart => exact ⟨0, Nat.zero_le _, rfl, H0⟩
 case round =>
  obtain ⟨i, hi, rfl, hE⟩ := hrel
  obtain ⟨wo, rfl⟩ : ∃ wo : World, wo = wr := ⟨_, rfl⟩
  obtain ⟨hf, hb, hg⟩ := hE.out
  clear hE H0
  have HG := qh9 hg
  have HB := qh9 hb
  have HF := qh9 hf
  clear hg hb hf
  by_cases hiL : i < L
  · have hil : i < l.length := by rw [HL.out]; exact hiL
    obtain ⟨b, o, rfl, hbw, hcell⟩ := HA.out (by omega)
    obtain ⟨k0, k1⟩ := hcell i hil
    have step := impM_drop hil n
    have l0 := (HB.out.cell (p := ⟨b, o + i * 2, none⟩) hbw).trans k0
    have l1 := (HB.out.cell (p := ⟨b, o + i * 2 + 1, none⟩) hbw).trans k1
    clear k0 k1 hcell
    rw [HF.out] at step
    cases hq : (l[i].2.toList == n.toList) with
    | true =>
     rw [hq, if_pos rfl] at step
     subst step
     clear HF
     generalize hp : l[i].2 = p2 at l1 hq
     have HP := qh9 hp
     generalize hp1 : l[i].1 = p1 at l0
     have HP1 := qh9 hp1
     clear hp1 hp
     go_wp2_with ((with_reducible refine SB.store (.tmp 4) (.tmp 18) ?_ ?_ w.heap.size (.string p1) (.string p2) (.string ⟨#[]⟩) (.string ⟨#[]⟩) ?_ ?_ ?_ ?_ ?_ ?_); rfl; rfl; rfl; rfl; exact HG.out.keep (Below.alloc (Below.refl _ _) (Nat.le_refl _) _); rfl; rfl)
     refine retSB rfl rfl rfl ((HG.out.keep (Below.alloc (Below.refl _ _) (Nat.le_refl _) _)).set _ _) ?_
     have hx : Below w.heap.size w (wo.alloc (.cells #[.string p1, .string p2] 24)) := chainY HB.out (Below.alloc (Below.refl _ _) (Nat.le_refl _) _) (Nat.le_refl _)
     have hy := below_setRow hx (Nat.le_refl _) #[.string p1, .string p2]
     exact ⟨by rw [HP1.out, HP.out]; rfl, hy⟩
    | false =>
     rw [hq, if_neg (by simp)] at step
     replace step := qh9 step
     generalize l[i].2 = p2 at l1 hq
     generalize l[i].1 = p1 at l0
     go_wp2_with fail
     go_roundw
     case rel => exact ⟨i + 1, by omega, by go_num, ⟨step.out.symm, chainY HB.out (Below.alloc (Below.refl _ _) (Nat.le_refl _) _) (Nat.le_refl _), HG.out.keep (Below.alloc (Below.refl _ _) (Nat.le_refl _) _)⟩⟩
     case measure => simp [intOf]; omega
  · have hiE : i = L := by omega
    have hr : Hid (R = none) := by
     show _ = _
     rw [← HF.out, List.drop_eq_nil_of_le (by rw [HL.out]; omega)]
     rfl
    clear HF
    go_wp2_with ((with_reducible refine SB.store (.tmp 4) (.tmp 20) ?_ ?_ w.heap.size (.string ⟨#[]⟩) (.string ⟨#[]⟩) (.string ⟨#[]⟩) (.string ⟨#[]⟩) ?_ ?_ HG.out ?_ ?_ ?_); rfl; rfl; rfl; rfl; rfl; rfl)
    refine retSB rfl rfl rfl (HG.out.set _ _) ?_
    rw [hr.out]
    exact ⟨rfl, below_setRow HB.out (Nat.le_refl _) _⟩
end Sy
namespace Sy
theorem findM_mem : ∀ {l : List Pg} {n : ByteArray} {p : Pg}, findM l n = some p → p ∈ l
 | q :: r, n, p, h => by
  unfold findM at h
  split at h
  · injection h with h; subst h; simp
  · exact List.mem_cons_of_mem _ (findM_mem h)
def internM (l : List Pg) (cur n : ByteArray) : Sy × Int := match findM l cur with
 | none => ((⟨#[]⟩, ⟨#[]⟩), 13)
 | some p => if nameOk n = true then (match impM p.2 n with
  | some s => (s, 0)
  | none => ((cur, n), 0)) else ((⟨#[]⟩, ⟨#[]⟩), 3)
def RetN (w : World) (r : Sy × Int) (e : Ending) (w' : World) : Prop := e = .returned (.tuple #[.agg #[.string r.1.1, .string r.1.2], .int .i64 r.2]) ∧ Below w.heap.size w w'
theorem nameOk_no {n : ByteArray} (h : nameOk n = false) : (n.size : Int) < 1 ∨ (¬ (n.size : Int) < 1 ∧ 40 < (n.size : Int)) := by
 unfold nameOk at h
 rw [Bool.and_eq_false_iff, decide_eq_false_iff_not, decide_eq_false_iff_not] at h
 omega
theorem nameOk_yes {n : ByteArray} (h : nameOk n = true) : ¬ (n.size : Int) < 1 ∧ ¬ 40 < (n.size : Int) := by
 unfold nameOk at h
 rw [Bool.and_eq_true, decide_eq_true_eq, decide_eq_true_eq] at h
 omega
def IntW (w wr : World) (g g8 : Nat) (p1 : ByteArray) (u : Value) (l : List Sy) (n : ByteArray) (i : Nat) (R : Option Sy) : Prop :=
 impM (l.drop i) n = R ∧ Below w.heap.size w wr ∧ SB wr g (.string ⟨#[]⟩) (.string ⟨#[]⟩) ∧ PB wr g8 (.string p1) u ∧ SyV wr l u
theorem internY (l : List Pg) (v : Value) (cur n : ByteArray) (w : World) (hv : PgV w l v) (hl : l.length ≤ 1000000) (hi : ∀ p ∈ l, p.2.length ≤ 1000000) : Calls Tryz.prog 218 #[v, .string cur, .string n] w (RetN w (internM l cur n)) := by
 have T := SB.new w (.string ⟨#[]⟩) (.string ⟨#[]⟩)
 have hB0 := Below.alloc (Below.refl w.heap.size w) (Nat.le_refl _) (.cells #[.string ⟨#[]⟩, .string ⟨#[]⟩] 24)
 have CF : Hid (∀ X, Below w.heap.size w X → Calls Tryz.prog 169 #[v, .string cur] X (RetF X (findM l cur))) := fun X hX => findY l v cur X (hv.keep hX) hl
 clear hv
 obtain ⟨r, hr⟩ : ∃ r, internM l cur n = r := ⟨_, rfl⟩
 rw [hr]
 unfold internM at hr
 cases hf : findM l cur with
 | none =>
  rw [hf] at hr CF
  have HR := qh9 hr
  clear hr hf hi
  go_enter Tryz.func218, Tryz.ntmps218
  go_wp2_with fail
  generalize w.alloc (.cells #[.string ⟨#[]⟩, .string ⟨#[]⟩] 24) = W0 at T hB0 ⊢
  refine (CF.out W0 hB0).mono ?_
  rintro e w1 ⟨rfl, hb⟩
  have HG := qh9 (SB.keep T hb)
  have HB := qh9 (chainY hB0 hb (Nat.le_refl _))
  clear hb T hB0
  go_wp2_with ((with_reducible refine SB.store (.tmp 6) (.tmp 20) ?_ ?_ w.heap.size (.string ⟨#[]⟩) (.string ⟨#[]⟩) (.string ⟨#[]⟩) (.string ⟨#[]⟩) ?_ ?_ ?_ ?_ ?_ ?_); rfl; rfl; rfl; rfl; exact (HG.out.keep (Below.alloc (Below.refl _ _) (Nat.le_refl _) _)); rfl; rfl)
  refine retSB rfl rfl rfl ((HG.out.keep (Below.alloc (Below.refl _ _) (Nat.le_refl _) _)).set _ _) ?_
  rw [← HR.out]
  exact ⟨rfl, below_setRow (chainY HB.out (Below.alloc (Below.refl _ _) (Nat.le_refl _) _) (Nat.le_refl _)) (Nat.le_refl _) _⟩
 | some p =>
  have hip := hi p (findM_mem hf)
  rw [hf] at hr CF
  clear hf hi
  cases hn : nameOk n with
  | false =>
   rw [hn] at hr
   replace hr : ((⟨#[]⟩, ⟨#[]⟩), 3) = r := hr
   have HR := qh9 hr
   have hno := nameOk_no hn
   clear hr hn
   rcases hno with h1 | ⟨h1, h2⟩
   all_goals
    go_enter Tryz.func218, Tryz.ntmps218
    go_wp2_with fail
    generalize w.alloc (.cells #[.string ⟨#[]⟩, .string ⟨#[]⟩] 24) = W0 at T hB0 ⊢
    refine (CF.out W0 hB0).mono ?_
    rintro e w1 ⟨u, rfl, hu, hb⟩
    have HG := qh9 (SB.keep T hb)
    have HB := qh9 (chainY hB0 hb (Nat.le_refl _))
    clear hb T hB0
    obtain ⟨A1, c1, rfl, _, _, _⟩ := hu
    go_wp2_with ((with_reducible refine SB.store (.tmp 6) (.tmp 29) ?_ ?_ w.heap.size (.string ⟨#[]⟩) (.string ⟨#[]⟩) (.string ⟨#[]⟩) (.string ⟨#[]⟩) ?_ ?_ ?_ ?_ ?_ ?_); rfl; rfl; rfl; rfl; exact (HG.out.keep (Below.alloc (Below.refl _ _) (Nat.le_refl _) _)); rfl; rfl)
    refine retSB rfl rfl rfl ((HG.out.keep (Below.alloc (Below.refl _ _) (Nat.le_refl _) _)).set _ _) ?_
    rw [← HR.out]
    exact ⟨rfl, below_setRow (chainY HB.out (Below.alloc (Below.refl _ _) (Nat.le_refl _) _) (Nat.le_refl _)) (Nat.le_refl _) _⟩
  | true =>
   rw [hn] at hr
   replace hr : (match impM p.2 n with
    | some s => (s, 0)
    | none => ((cur, n), 0)) = r := hr
   obtain ⟨h1, h2⟩ := nameOk_yes hn
   clear hn
   cases hm : impM p.2 n with
   | none =>
    rw [hm] at hr
    have HR := qh9 hr
    have HM := qh9 hm
    clear hr hm
    go_enter Tryz.func218, Tryz.ntmps218
    go_wp2_with fail
    generalize w.alloc (.cells #[.string ⟨#[]⟩, .string ⟨#[]⟩] 24) = W0 at T hB0 ⊢
    refine (CF.out W0 hB0).mono ?_
    rintro e w1 ⟨u, rfl, hu, hb⟩
    have HG := qh9 (SB.keep T hb)
    have HB := qh9 (chainY hB0 hb (Nat.le_refl _))
    have HU := qh9 hu
    clear hb T hB0
    obtain ⟨A1, c1, rfl, _, _, _⟩ := hu
    go_wp2_with fail
    refine (importedY p.2 _ n _ (HU.out.keep (Below.alloc (Below.refl _ _) (Nat.le_refl _) _)) hip).mono ?_
    rw [HM.out]
    rintro e w2 ⟨rfl, hb⟩
    replace HB := qh9 (chainY (chainY HB.out (Below.alloc (Below.refl _ _) (Nat.le_refl _) _) (Nat.le_refl _)) hb (Nat.le_refl _))
    replace HG := qh9 (SB.keep (SB.keep HG.out (Below.alloc (Below.refl _ _) (Nat.le_refl _) _)) hb)
    clear hb HU HM
    go_wp2_with ((with_reducible refine SB.store (.tmp 6) (.tmp 41) ?_ ?_ w.heap.size (.string cur) (.string n) (.string ⟨#[]⟩) (.string ⟨#[]⟩) ?_ ?_ ?_ ?_ ?_ ?_); rfl; rfl; rfl; rfl; exact (HG.out.keep (Below.alloc (Below.refl _ _) (Nat.le_refl _) _)); rfl; rfl)
    refine retSB rfl rfl rfl ((HG.out.keep (Below.alloc (Below.refl _ _) (Nat.le_refl _) _)).set _ _) ?_
    rw [← HR.out]
    exact ⟨rfl, below_setRow (chainY HB.out (Below.alloc (Below.refl _ _) (Nat.le_refl _) _) (Nat.le_refl _)) (Nat.le_refl _) _⟩
   | some s =>
    rw [hm] at hr
    have HR := qh9 hr
    have HM := qh9 hm
    clear hr hm
    go_enter Tryz.func218, Tryz.ntmps218
    go_wp2_with fail
    generalize w.alloc (.cells #[.string ⟨#[]⟩, .string ⟨#[]⟩] 24) = W0 at T hB0 ⊢
    refine (CF.out W0 hB0).mono ?_
    rintro e w1 ⟨u, rfl, hu, hb⟩
    have HG := qh9 (SB.keep T hb)
    have HB := qh9 (chainY hB0 hb (Nat.le_refl _))
    have HU := qh9 hu
    clear hb T hB0
    obtain ⟨A1, c1, rfl, _, _, _⟩ := hu
    go_wp2_with fail
    refine (importedY p.2 _ n _ (HU.out.keep (Below.alloc (Below.refl _ _) (Nat.le_refl _) _)) hip).mono ?_
    rw [HM.out]
    rintro e w2 ⟨rfl, hb⟩
    replace HB := qh9 (chainY (chainY HB.out (Below.alloc (Below.refl _ _) (Nat.le_refl _) _) (Nat.le_refl _)) hb (Nat.le_refl _))
    replace HG := qh9 (SB.keep (SB.keep HG.out (Below.alloc (Below.refl _ _) (Nat.le_refl _) _)) hb)
    clear hb HU HM
    obtain ⟨s1, s2⟩ := s
    go_wp2_with ((with_reducible refine SB.store (.tmp 6) (.tmp 38) ?_ ?_ w.heap.size (.string s1) (.string s2) (.string ⟨#[]⟩) (.string ⟨#[]⟩) ?_ ?_ ?_ ?_ ?_ ?_); rfl; rfl; rfl; rfl; exact (HG.out.keep (Below.alloc (Below.refl _ _) (Nat.le_refl _) _)); rfl; rfl)
    refine retSB rfl rfl rfl ((HG.out.keep (Below.alloc (Below.refl _ _) (Nat.le_refl _) _)).set _ _) ?_
    rw [← HR.out]
    exact ⟨rfl, below_setRow (chainY HB.out (Below.alloc (Below.refl _ _) (Nat.le_refl _) _) (Nat.le_refl _)) (Nat.le_refl _) _⟩
theorem internRY (l : List Pg) (v : Value) (cur n : ByteArray) (w : World) (hv : PgV w l v) (hl : l.length ≤ 1000000) (hi : ∀ p ∈ l, p.2.length ≤ 1000000) : Calls Tryz.prog 220 #[v, .string cur, .string n] w (RetN w (internM l cur n)) := by
 have T := SB.new w (.string ⟨#[]⟩) (.string ⟨#[]⟩)
 have hB0 := Below.alloc (Below.refl w.heap.size w) (Nat.le_refl _) (.cells #[.string ⟨#[]⟩, .string ⟨#[]⟩] 24)
 have CF : Hid (∀ X, Below w.heap.size w X → Calls Tryz.prog 115 #[v, .string cur] X (RetF X (findM l cur))) := fun X hX => findRY l v cur X (hv.keep hX) hl
 clear hv
 obtain ⟨r, hr⟩ : ∃ r, internM l cur n = r := ⟨_, rfl⟩
 rw [hr]
 unfold internM at hr
 cases hf : findM l cur with
 | none =>
  rw [hf] at hr CF
  have HR := qh9 hr
  clear hr hf hi
  go_enter Tryz.func220, Tryz.ntmps220
  go_wp2_with fail
  generalize w.alloc (.cells #[.string ⟨#[]⟩, .string ⟨#[]⟩] 24) = W0 at T hB0 ⊢
  refine (CF.out W0 hB0).mono ?_
  rintro e w1 ⟨rfl, hb⟩
  have HG := qh9 (SB.keep T hb)
  have HB := qh9 (chainY hB0 hb (Nat.le_refl _))
  clear hb T hB0
  go_wp2_with ((with_reducible refine SB.store (.tmp 6) (.tmp 19) ?_ ?_ w.heap.size (.string ⟨#[]⟩) (.string ⟨#[]⟩) (.string ⟨#[]⟩) (.string ⟨#[]⟩) ?_ ?_ ?_ ?_ ?_ ?_); rfl; rfl; rfl; rfl; exact (HG.out.keep (Below.alloc (Below.refl _ _) (Nat.le_refl _) _)); rfl; rfl)
  refine retSB rfl rfl rfl ((HG.out.keep (Below.alloc (Below.refl _ _) (Nat.le_refl _) _)).set _ _) ?_
  rw [← HR.out]
  exact ⟨rfl, below_setRow (chainY HB.out (Below.alloc (Below.refl _ _) (Nat.le_refl _) _) (Nat.le_refl _)) (Nat.le_refl _) _⟩
 | some p =>
  have hip := hi p (findM_mem hf)
  rw [hf] at hr CF
  clear hf hi
  cases hn : nameOk n with
  | false =>
   rw [hn] at hr
   replace hr : ((⟨#[]⟩, ⟨#[]⟩), 3) = r := hr
   have HR := qh9 hr
   have hno := nameOk_no hn
   clear hr hn
   rcases hno with h1 | ⟨h1, h2⟩
   all_goals
    go_enter Tryz.func220, Tryz.ntmps220
    go_wp2_with fail
    generalize w.alloc (.cells #[.string ⟨#[]⟩, .string ⟨#[]⟩] 24) = W0 at T hB0 ⊢
    refine (CF.out W0 hB0).mono ?_
    rintro e w1 ⟨u, rfl, hu, hb⟩
    have HG := qh9 (SB.keep T hb)
    have HB := qh9 (chainY hB0 hb (Nat.le_refl _))
    clear hb T hB0
    obtain ⟨A1, c1, rfl, _, _, _⟩ := hu
    go_wp2_with ((with_reducible refine SB.store (.tmp 6) (.tmp 28) ?_ ?_ w.heap.size (.string ⟨#[]⟩) (.string ⟨#[]⟩) (.string ⟨#[]⟩) (.string ⟨#[]⟩) ?_ ?_ ?_ ?_ ?_ ?_); rfl; rfl; rfl; rfl; exact (HG.out.keep (Below.alloc (Below.refl _ _) (Nat.le_refl _) _)); rfl; rfl)
    refine retSB rfl rfl rfl ((HG.out.keep (Below.alloc (Below.refl _ _) (Nat.le_refl _) _)).set _ _) ?_
    rw [← HR.out]
    exact ⟨rfl, below_setRow (chainY HB.out (Below.alloc (Below.refl _ _) (Nat.le_refl _) _) (Nat.le_refl _)) (Nat.le_refl _) _⟩
  | true =>
   rw [hn] at hr
   replace hr : (match impM p.2 n with
    | some s => (s, 0)
    | none => ((cur, n), 0)) = r := hr
   obtain ⟨h1, h2⟩ := nameOk_yes hn
   clear hn
   obtain ⟨R, hR⟩ : ∃ R, impM p.2 n = R := ⟨_, rfl⟩
   rw [hR] at hr
   have HR := qh9 hr
   clear hr
   go_enter Tryz.func220, Tryz.ntmps220
   go_wp2_with fail
   generalize w.alloc (.cells #[.string ⟨#[]⟩, .string ⟨#[]⟩] 24) = W0 at T hB0 ⊢
   refine (CF.out W0 hB0).mono ?_
   rintro e w1 ⟨u, rfl, hu, hb⟩
   have HG := qh9 (SB.keep T hb)
   have HB := qh9 (chainY hB0 hb (Nat.le_refl _))
   have HU := qh9 hu
   clear hb T hB0
   obtain ⟨A1, c1, rfl, hlc, _, hA⟩ := hu
   obtain ⟨p1, p2⟩ := p
   obtain ⟨L, hL⟩ : ∃ L, p2.length = L := ⟨_, rfl⟩
   change p2.length ≤ 1000000 at hip
   change p2.length ≤ c1 at hlc
   change 0 < p2.length → _ at hA
   change Hid (SyV w1 p2 (.slice A1 p2.length c1)) at HU
   rw [hL] at hip hlc HU
   have HL := qh9 hL
   have HA := qh9 hA
   clear hA
   have H0 : Hid (IntW w (w1.alloc (.cells #[.string p1, .slice A1 L c1] 96)) w.heap.size w1.heap.size p1 (.slice A1 L c1) p2 n 0 R) := ⟨by rw [List.drop_zero]; exact hR, chainY HB.out (Below.alloc (Below.refl _ _) (Nat.le_refl _) _) (Nat.le_refl _), HG.out.keep (Below.alloc (Below.refl _ _) (Nat.le_refl _) _), PB.new _ _ _, HU.out.keep (Below.alloc (Below.refl _ _) (Nat.le_refl _) _)⟩
   have hsz : w1.heap.size < (w1.alloc (.cells #[.string p1, .slice A1 L c1] 96)).heap.size := by simp
   clear hR HU HB HG
   change _ at H0
   simp only [] at *
   rw [hL]
   clear hL
   go_wp2_with fail
   generalize w1.alloc (.cells #[.string p1, .slice A1 L c1] 96) = W1 at H0 hsz ⊢
   go_loopw [10] (fun v wr => ∃ (i : Nat), i ≤ L ∧ v = .int .i64 i ∧ Hid (IntW w wr w.heap.size w1.heap.size p1 (.slice A1 L c1) p2 n i R)) (fun v _ => L - (intOf v).toNat)
   case atStart => exact ⟨0, Nat.zero_le _, rfl, H0⟩
   case round =>
    obtain ⟨i, hi, rfl, hE⟩ := hrel
    obtain ⟨wo, rfl⟩ : ∃ wo : World, wo = wr := ⟨_, rfl⟩
    obtain ⟨hf, hb, hg, hg8, hsy⟩ := hE.out
    clear hE H0 hsz
    have HG := qh9 hg
    have HB := qh9 hb
    have HF := qh9 hf
    have m8 := hg8.c1
    have H8 := qh9 hg8
    obtain ⟨A2, c2, e2, _, _, hA2⟩ := hsy
    rw [HL.out] at e2
    obtain ⟨rfl, _, rfl⟩ : A1 = A2 ∧ L = L ∧ c1 = c2 := by injection e2 with e1 e2 e3; exact ⟨e1, rfl, e3⟩
    have HA2 := qh9 hA2
    clear hg hb hf hg8 hA2 e2
    by_cases hiL : i < L
    · have hil : i < p2.length := by rw [HL.out]; exact hiL
      obtain ⟨b, o, rfl, hbw, hcell⟩ := HA2.out (by omega)
      obtain ⟨l0, l1⟩ := hcell i hil
      have step := impM_drop hil n
      clear hcell
      rw [HF.out] at step
      cases hq : (p2[i].2.toList == n.toList) with
      | true =>
       rw [hq, if_pos rfl] at step
       subst step
       have HR2 := HR.out
       clear HF
       generalize hp2 : p2[i].2 = q2 at l1 hq
       generalize hp1 : p2[i].1 = q1 at l0
       have HQ : Hid (r = ((q1, q2), 0)) := by show _ = _; rw [← HR2, ← hp1, ← hp2]
       clear hp1 hp2 HR2 HR
       go_wp2_with ((with_reducible refine SB.store (.tmp 6) (.tmp 48) ?_ ?_ w.heap.size (.string q1) (.string q2) (.string ⟨#[]⟩) (.string ⟨#[]⟩) ?_ ?_ ?_ ?_ ?_ ?_); rfl; rfl; rfl; rfl; exact HG.out; rfl; rfl)
       refine retSB rfl rfl rfl (HG.out.set _ _) ?_
       rw [HQ.out]
       exact ⟨rfl, below_setRow HB.out (Nat.le_refl _) _⟩
      | false =>
       rw [hq, if_neg (by simp)] at step
       replace step := qh9 step
       generalize p2[i].2 = q2 at l1 hq
       generalize p2[i].1 = q1 at l0
       go_wp2_with fail
       go_roundw
       case rel => exact ⟨i + 1, by omega, by go_num, ⟨step.out.symm, HB.out, HG.out, H8.out, ⟨_, _, by rw [HL.out], by rw [HL.out]; omega, by assumption, HA2.out⟩⟩⟩
       case measure => simp [intOf]; omega
    · have hiE : i = L := by omega
      have hr : Hid (R = none) := by
       show _ = _
       rw [← HF.out, List.drop_eq_nil_of_le (by rw [HL.out]; omega)]
       rfl
      have HQ : Hid (r = ((cur, n), 0)) := by
       show _ = _
       rw [← HR.out, hr.out]
      clear HF HR hr
      go_wp2_with ((with_reducible refine SB.store (.tmp 6) (.tmp 51) ?_ ?_ w.heap.size (.string cur) (.string n) (.string ⟨#[]⟩) (.string ⟨#[]⟩) ?_ ?_ ?_ ?_ ?_ ?_); rfl; rfl; rfl; rfl; exact HG.out; rfl; rfl)
      refine retSB rfl rfl rfl (HG.out.set _ _) ?_
      rw [HQ.out]
      exact ⟨rfl, below_setRow HB.out (Nat.le_refl _) _⟩
def visM (l : List Pg) (cur : ByteArray) (s : Sy) : Bool := (internM l cur s.2).2 == 0 && ((internM l cur s.2).1.1.toList == s.1.toList && (internM l cur s.2).1.2.toList == s.2.toList)
def homeM (l : List Pg) (s : Sy) : Bool := visM l s.1 s
theorem visibleY (l : List Pg) (v : Value) (cur : ByteArray) (s1 s2 : ByteArray) (w : World) (hv : PgV w l v) (hl : l.length ≤ 1000000) (hi : ∀ p ∈ l, p.2.length ≤ 1000000) : Calls Tryz.prog 174 #[v, .string cur, .agg #[.string s1, .string s2]] w (RetY w (.bool (visM l cur (s1, s2)))) := by
 have T := SB.new w (.string s1) (.string s2)
 have hB0 := Below.alloc (Below.refl w.heap.size w) (Nat.le_refl _) (.cells #[.string s1, .string s2] 24)
 have CI : Hid (∀ X, Below w.heap.size w X → Calls Tryz.prog 218 #[v, .string cur, .string s2] X (RetN X (internM l cur s2))) := fun X hX => internY l v cur s2 X (hv.keep hX) hl hi
 clear hv hi
 unfold visM
 show Calls _ _ _ _ (RetY w (.bool ((internM l cur s2).2 == 0 && ((internM l cur s2).1.1.toList == s1.toList && (internM l cur s2).1.2.toList == s2.toList))))
 generalize internM l cur s2 = r at CI ⊢
 obtain ⟨⟨r1, r2⟩, k⟩ := r
 show Calls _ _ _ _ (RetY w (.bool (k == 0 && (r1.toList == s1.toList && r2.toList == s2.toList))))
 cases hk : (k == 0) with
 | false =>
  go_enter Tryz.func174, Tryz.ntmps174
  go_wp2_with fail
  generalize w.alloc (.cells #[.string s1, .string s2] 24) = W0 at T hB0 ⊢
  have m0 := T.c0
  have m1 := T.c1
  go_wp2_with fail
  refine (CI.out W0 hB0).mono ?_
  rintro e w1 ⟨rfl, hb⟩
  have HT := qh9 (SB.keep T hb)
  have HB := qh9 (chainY hB0 hb (Nat.le_refl _))
  clear hb T hB0 m0 m1
  go_wp2
  go_ret
  exact ⟨rfl, chainY HB.out (Below.alloc (Below.refl _ _) (Nat.le_refl _) _) (Nat.le_refl _)⟩
 | true =>
  have hk0 : k = 0 := by simpa using hk
  subst hk0
  clear hk
  cases h1 : (r1.toList == s1.toList) with
  | false =>
   go_enter Tryz.func174, Tryz.ntmps174
   go_wp2_with fail
   generalize w.alloc (.cells #[.string s1, .string s2] 24) = W0 at T hB0 ⊢
   have m0 := T.c0
   have m1 := T.c1
   go_wp2_with fail
   refine (CI.out W0 hB0).mono ?_
   rintro e w1 ⟨rfl, hb⟩
   have HT := qh9 (SB.keep T hb)
   have HB := qh9 (chainY hB0 hb (Nat.le_refl _))
   clear hb T hB0 m0 m1
   go_upto_region 2 with fail
   have HN := qh9 (SB.new w1 (.string r1) (.string r2))
   have HT2 : Hid (SB (w1.alloc (.cells #[.string r1, .string r2] 24)) w.heap.size (.string s1) (.string s2)) := HT.out.keep (Below.alloc (Below.refl _ _) (Nat.le_refl _) _)
   have HB2 : Hid (Below w.heap.size w (w1.alloc (.cells #[.string r1, .string r2] 24))) := chainY HB.out (Below.alloc (Below.refl _ _) (Nat.le_refl _) _) (Nat.le_refl _)
   generalize w1.alloc (.cells #[.string r1, .string r2] 24) = X2 at HN HT2 HB2 ⊢
   have k0 := HT2.out.c0
   have k1 := HT2.out.c1
   have j0 := HN.out.c0
   have j1 := HN.out.c1
   go_wp2
   go_ret
   exact ⟨rfl, HB2.out⟩
  | true =>
   cases h2 : (r2.toList == s2.toList) with
   | false =>
    go_enter Tryz.func174, Tryz.ntmps174
    go_wp2_with fail
    generalize w.alloc (.cells #[.string s1, .string s2] 24) = W0 at T hB0 ⊢
    have m0 := T.c0
    have m1 := T.c1
    go_wp2_with fail
    refine (CI.out W0 hB0).mono ?_
    rintro e w1 ⟨rfl, hb⟩
    have HT := qh9 (SB.keep T hb)
    have HB := qh9 (chainY hB0 hb (Nat.le_refl _))
    clear hb T hB0 m0 m1
    go_upto_region 2 with fail
    have HN := qh9 (SB.new w1 (.string r1) (.string r2))
    have HT2 : Hid (SB (w1.alloc (.cells #[.string r1, .string r2] 24)) w.heap.size (.string s1) (.string s2)) := HT.out.keep (Below.alloc (Below.refl _ _) (Nat.le_refl _) _)
    have HB2 : Hid (Below w.heap.size w (w1.alloc (.cells #[.string r1, .string r2] 24))) := chainY HB.out (Below.alloc (Below.refl _ _) (Nat.le_refl _) _) (Nat.le_refl _)
    generalize w1.alloc (.cells #[.string r1, .string r2] 24) = X2 at HN HT2 HB2 ⊢
    have k0 := HT2.out.c0
    have k1 := HT2.out.c1
    have j0 := HN.out.c0
    have j1 := HN.out.c1
    go_wp2
    go_ret
    exact ⟨rfl, HB2.out⟩
   | true =>
    go_enter Tryz.func174, Tryz.ntmps174
    go_wp2_with fail
    generalize w.alloc (.cells #[.string s1, .string s2] 24) = W0 at T hB0 ⊢
    have m0 := T.c0
    have m1 := T.c1
    go_wp2_with fail
    refine (CI.out W0 hB0).mono ?_
    rintro e w1 ⟨rfl, hb⟩
    have HT := qh9 (SB.keep T hb)
    have HB := qh9 (chainY hB0 hb (Nat.le_refl _))
    clear hb T hB0 m0 m1
    go_upto_region 2 with fail
    have HN := qh9 (SB.new w1 (.string r1) (.string r2))
    have HT2 : Hid (SB (w1.alloc (.cells #[.string r1, .string r2] 24)) w.heap.size (.string s1) (.string s2)) := HT.out.keep (Below.alloc (Below.refl _ _) (Nat.le_refl _) _)
    have HB2 : Hid (Below w.heap.size w (w1.alloc (.cells #[.string r1, .string r2] 24))) := chainY HB.out (Below.alloc (Below.refl _ _) (Nat.le_refl _) _) (Nat.le_refl _)
    generalize w1.alloc (.cells #[.string r1, .string r2] 24) = X2 at HN HT2 HB2 ⊢
    have k0 := HT2.out.c0
    have k1 := HT2.out.c1
    have j0 := HN.out.c0
    have j1 := HN.out.c1
    go_wp2
    go_ret
    exact ⟨rfl, HB2.out⟩
theorem homeY (l : List Pg) (v : Value) (s1 s2 : ByteArray) (w : World) (hv : PgV w l v) (hl : l.length ≤ 1000000) (hi : ∀ p ∈ l, p.2.length ≤ 1000000) : Calls Tryz.prog 170 #[v, .agg #[.string s1, .string s2]] w (RetY w (.bool (homeM l (s1, s2)))) := by
 have T := SB.new w (.string s1) (.string s2)
 have hB0 := Below.alloc (Below.refl w.heap.size w) (Nat.le_refl _) (.cells #[.string s1, .string s2] 24)
 have CV : Hid (∀ X, Below w.heap.size w X → Calls Tryz.prog 174 #[v, .string s1, .agg #[.string s1, .string s2]] X (RetY X (.bool (visM l s1 (s1, s2))))) := fun X hX => visibleY l v s1 s1 s2 X (hv.keep hX) hl hi
 clear hv hi
 show Calls _ _ _ _ (RetY w (.bool (visM l s1 (s1, s2))))
 generalize visM l s1 (s1, s2) = r at CV ⊢
 go_enter Tryz.func170, Tryz.ntmps170
 go_wp2_with fail
 generalize w.alloc (.cells #[.string s1, .string s2] 24) = W0 at T hB0 ⊢
 have m0 := T.c0
 have m1 := T.c1
 go_wp2_with fail
 refine (CV.out W0 hB0).mono ?_
 rintro e w1 ⟨rfl, hb⟩
 have HB := qh9 (chainY hB0 hb (Nat.le_refl _))
 clear hb T hB0 m0 m1
 go_wp2
 go_ret
 exact ⟨rfl, HB.out⟩
theorem visibleRY (l : List Pg) (v : Value) (cur : ByteArray) (s1 s2 : ByteArray) (w : World) (hv : PgV w l v) (hl : l.length ≤ 1000000) (hi : ∀ p ∈ l, p.2.length ≤ 1000000) : Calls Tryz.prog 167 #[v, .string cur, .agg #[.string s1, .string s2]] w (RetY w (.bool (visM l cur (s1, s2)))) := by
 have T := SB.new w (.string s1) (.string s2)
 have hB0 := Below.alloc (Below.refl w.heap.size w) (Nat.le_refl _) (.cells #[.string s1, .string s2] 24)
 have CI : Hid (∀ X, Below w.heap.size w X → Calls Tryz.prog 220 #[v, .string cur, .string s2] X (RetN X (internM l cur s2))) := fun X hX => internRY l v cur s2 X (hv.keep hX) hl hi
 clear hv hi
 unfold visM
 show Calls _ _ _ _ (RetY w (.bool ((internM l cur s2).2 == 0 && ((internM l cur s2).1.1.toList == s1.toList && (internM l cur s2).1.2.toList == s2.toList))))
 generalize internM l cur s2 = r at CI ⊢
 obtain ⟨⟨r1, r2⟩, k⟩ := r
 show Calls _ _ _ _ (RetY w (.bool (k == 0 && (r1.toList == s1.toList && r2.toList == s2.toList))))
 cases hk : (k == 0) with
 | false =>
  go_enter Tryz.func167, Tryz.ntmps167
  go_wp2_with fail
  generalize w.alloc (.cells #[.string s1, .string s2] 24) = W0 at T hB0 ⊢
  have m0 := T.c0
  have m1 := T.c1
  go_wp2_with fail
  refine (CI.out W0 hB0).mono ?_
  rintro e w1 ⟨rfl, hb⟩
  have HT := qh9 (SB.keep T hb)
  have HB := qh9 (chainY hB0 hb (Nat.le_refl _))
  clear hb T hB0 m0 m1
  go_wp2
  go_ret
  exact ⟨rfl, chainY HB.out (Below.alloc (Below.refl _ _) (Nat.le_refl _) _) (Nat.le_refl _)⟩
 | true =>
  have hk0 : k = 0 := by simpa using hk
  subst hk0
  clear hk
  cases h1 : (r1.toList == s1.toList) with
  | false =>
   go_enter Tryz.func167, Tryz.ntmps167
   go_wp2_with fail
   generalize w.alloc (.cells #[.string s1, .string s2] 24) = W0 at T hB0 ⊢
   have m0 := T.c0
   have m1 := T.c1
   go_wp2_with fail
   refine (CI.out W0 hB0).mono ?_
   rintro e w1 ⟨rfl, hb⟩
   have HT := qh9 (SB.keep T hb)
   have HB := qh9 (chainY hB0 hb (Nat.le_refl _))
   clear hb T hB0 m0 m1
   go_upto_region 2 with fail
   have HN := qh9 (SB.new w1 (.string r1) (.string r2))
   have HT2 : Hid (SB (w1.alloc (.cells #[.string r1, .string r2] 24)) w.heap.size (.string s1) (.string s2)) := HT.out.keep (Below.alloc (Below.refl _ _) (Nat.le_refl _) _)
   have HB2 : Hid (Below w.heap.size w (w1.alloc (.cells #[.string r1, .string r2] 24))) := chainY HB.out (Below.alloc (Below.refl _ _) (Nat.le_refl _) _) (Nat.le_refl _)
   generalize w1.alloc (.cells #[.string r1, .string r2] 24) = X2 at HN HT2 HB2 ⊢
   have k0 := HT2.out.c0
   have k1 := HT2.out.c1
   have j0 := HN.out.c0
   have j1 := HN.out.c1
   go_wp2
   go_ret
   exact ⟨rfl, HB2.out⟩
  | true =>
   cases h2 : (r2.toList == s2.toList) with
   | false =>
    go_enter Tryz.func167, Tryz.ntmps167
    go_wp2_with fail
    generalize w.alloc (.cells #[.string s1, .string s2] 24) = W0 at T hB0 ⊢
    have m0 := T.c0
    have m1 := T.c1
    go_wp2_with fail
    refine (CI.out W0 hB0).mono ?_
    rintro e w1 ⟨rfl, hb⟩
    have HT := qh9 (SB.keep T hb)
    have HB := qh9 (chainY hB0 hb (Nat.le_refl _))
    clear hb T hB0 m0 m1
    go_upto_region 2 with fail
    have HN := qh9 (SB.new w1 (.string r1) (.string r2))
    have HT2 : Hid (SB (w1.alloc (.cells #[.string r1, .string r2] 24)) w.heap.size (.string s1) (.string s2)) := HT.out.keep (Below.alloc (Below.refl _ _) (Nat.le_refl _) _)
    have HB2 : Hid (Below w.heap.size w (w1.alloc (.cells #[.string r1, .string r2] 24))) := chainY HB.out (Below.alloc (Below.refl _ _) (Nat.le_refl _) _) (Nat.le_refl _)
    generalize w1.alloc (.cells #[.string r1, .string r2] 24) = X2 at HN HT2 HB2 ⊢
    have k0 := HT2.out.c0
    have k1 := HT2.out.c1
    have j0 := HN.out.c0
    have j1 := HN.out.c1
    go_wp2
    go_ret
    exact ⟨rfl, HB2.out⟩
   | true =>
    go_enter Tryz.func167, Tryz.ntmps167
    go_wp2_with fail
    generalize w.alloc (.cells #[.string s1, .string s2] 24) = W0 at T hB0 ⊢
    have m0 := T.c0
    have m1 := T.c1
    go_wp2_with fail
    refine (CI.out W0 hB0).mono ?_
    rintro e w1 ⟨rfl, hb⟩
    have HT := qh9 (SB.keep T hb)
    have HB := qh9 (chainY hB0 hb (Nat.le_refl _))
    clear hb T hB0 m0 m1
    go_upto_region 2 with fail
    have HN := qh9 (SB.new w1 (.string r1) (.string r2))
    have HT2 : Hid (SB (w1.alloc (.cells #[.string r1, .string r2] 24)) w.heap.size (.string s1) (.string s2)) := HT.out.keep (Below.alloc (Below.refl _ _) (Nat.le_refl _) _)
    have HB2 : Hid (Below w.heap.size w (w1.alloc (.cells #[.string r1, .string r2] 24))) := chainY HB.out (Below.alloc (Below.refl _ _) (Nat.le_refl _) _) (Nat.le_refl _)
    generalize w1.alloc (.cells #[.string r1, .string r2] 24) = X2 at HN HT2 HB2 ⊢
    have k0 := HT2.out.c0
    have k1 := HT2.out.c1
    have j0 := HN.out.c0
    have j1 := HN.out.c1
    go_wp2
    go_ret
    exact ⟨rfl, HB2.out⟩
theorem homeRY (l : List Pg) (v : Value) (s1 s2 : ByteArray) (w : World) (hv : PgV w l v) (hl : l.length ≤ 1000000) (hi : ∀ p ∈ l, p.2.length ≤ 1000000) : Calls Tryz.prog 117 #[v, .agg #[.string s1, .string s2]] w (RetY w (.bool (homeM l (s1, s2)))) := by
 have T := SB.new w (.string s1) (.string s2)
 have hB0 := Below.alloc (Below.refl w.heap.size w) (Nat.le_refl _) (.cells #[.string s1, .string s2] 24)
 have CV : Hid (∀ X, Below w.heap.size w X → Calls Tryz.prog 167 #[v, .string s1, .agg #[.string s1, .string s2]] X (RetY X (.bool (visM l s1 (s1, s2))))) := fun X hX => visibleRY l v s1 s1 s2 X (hv.keep hX) hl hi
 clear hv hi
 show Calls _ _ _ _ (RetY w (.bool (visM l s1 (s1, s2))))
 generalize visM l s1 (s1, s2) = r at CV ⊢
 go_enter Tryz.func117, Tryz.ntmps117
 go_wp2_with fail
 generalize w.alloc (.cells #[.string s1, .string s2] 24) = W0 at T hB0 ⊢
 have m0 := T.c0
 have m1 := T.c1
 go_wp2_with fail
 refine (CV.out W0 hB0).mono ?_
 rintro e w1 ⟨rfl, hb⟩
 have HB := qh9 (chainY hB0 hb (Nat.le_refl _))
 clear hb T hB0 m0 m1
 go_wp2
 go_ret
 exact ⟨rfl, HB.out⟩
end Sy
end Go.Proofs.YtlocnkobancjmaaGreatDoor
