import Derived.Test.YtinjhnnpbejccaaGreatDoorAl
import Derived.Test.YtinjhnnpbejccaaGreatDoorChecked
import Derived.WalkKit
import Derived.WalkSpells
import Derived.WalkLawsBesides
import Derived.Below
import Derived.Laws.OwnMore
import Derived.Laws.Rows
import Derived.Laws.Tables
import Derived.Lib.Hide
import Derived.Lib.Strings
import Derived.KernelRfl
import Derived.Deep.QuietTactic
import Derived.BigQuiet
import Derived.BigRegion
namespace Go.Proofs.YtinjhnnpbejccaaGreatDoor
open Go Go.RowKit
set_option linter.unusedVariables false
set_option maxHeartbeats 32000000
set_option maxRecDepth 100000
namespace Sy
def RetY (w : World) (v : Value) (e : Ending) (w' : World) : Prop := e = .returned v ∧ Below w.heap.size w w'
theorem chainY {B : Nat} {w w1 w2 : World} (h : Below B w w1) (hb : Below w1.heap.size w1 w2) (hB : B ≤ w.heap.size) : Below B w w2 := h.trans (hb.mono (Nat.le_trans hB h.size))
theorem ret_boolY {a b : Bool} (h : a = b) : Ending.returned (.bool a) = .returned (.bool b) := by rw [h]
def bl (s : ByteArray) : List UInt8 := s.data.toList
theorem bl_length (s : ByteArray) : (bl s).length = s.size := by unfold bl; rw [Array.length_toList]; rfl
theorem bl_drop {s : ByteArray} {i : Nat} (hi : i < s.size) : (bl s).drop i = s[i] :: (bl s).drop (i + 1) := by
 have h : i < (bl s).length := by rw [bl_length]; exact hi
 rw [List.drop_eq_getElem_cons h]
 rfl
def letB (c : Int) : Bool := decide (97 ≤ c) && decide (c ≤ 122)
def digB (c : Int) : Bool := decide (48 ≤ c) && decide (c ≤ 57)
def okU (c : UInt8) : Bool := letB (c.toNat : Int) || digB (c.toNat : Int) || decide ((c.toNat : Int) = 45)
def nameOk (s : ByteArray) : Bool := decide (1 ≤ s.size) && decide (s.size ≤ 40)
def firstLet (s : ByteArray) : Bool := match bl s with | c :: _ => letB (c.toNat : Int) | [] => false
def pkgOk (s : ByteArray) : Bool := nameOk s && (firstLet s && (bl s).all okU)
theorem firstLet_at {s : ByteArray} (h : 0 < s.size) : firstLet s = letB ((s[0]'h).toNat : Int) := by
 have := bl_drop h
 rw [List.drop_zero] at this
 unfold firstLet
 rw [this]

theorem isLetterY (c : Int) (b : Bool) (h : letB c = b) (w : World) : Calls Tryz.prog 186 #[.int .u8 c] w fun e w' => e = .returned (.bool b) ∧ w = w' := by
 subst h
 unfold letB
 by_cases h1 : 97 ≤ c
 · by_cases h2 : c ≤ 122
   · rw [decide_eq_true h1, decide_eq_true h2]
     go_enter Tryz.func186, Tryz.ntmps186
     go_wp2
     go_ret
     exact ⟨rfl, rfl⟩
   · rw [decide_eq_true h1, decide_eq_false h2]
     go_enter Tryz.func186, Tryz.ntmps186
     go_wp2
     go_ret
     exact ⟨rfl, rfl⟩
 · rw [decide_eq_false h1]
   go_enter Tryz.func186, Tryz.ntmps186
   go_wp2
   go_ret
   exact ⟨rfl, rfl⟩
theorem isDigitY (c : Int) (b : Bool) (h : digB c = b) (w : World) : Calls Tryz.prog 187 #[.int .u8 c] w fun e w' => e = .returned (.bool b) ∧ w = w' := by
 subst h
 unfold digB
 by_cases h1 : 48 ≤ c
 · by_cases h2 : c ≤ 57
   · rw [decide_eq_true h1, decide_eq_true h2]
     go_enter Tryz.func187, Tryz.ntmps187
     go_wp2
     go_ret
     exact ⟨rfl, rfl⟩
   · rw [decide_eq_true h1, decide_eq_false h2]
     go_enter Tryz.func187, Tryz.ntmps187
     go_wp2
     go_ret
     exact ⟨rfl, rfl⟩
 · rw [decide_eq_false h1]
   go_enter Tryz.func187, Tryz.ntmps187
   go_wp2
   go_ret
   exact ⟨rfl, rfl⟩
theorem isNameY (s : ByteArray) (w : World) : Calls Tryz.prog 172 #[.string s] w fun e w' => e = .returned (.bool (nameOk s)) ∧ w = w' := by
 unfold nameOk
 by_cases h1 : 1 ≤ s.size
 · have h3 : (1 : Int) ≤ (s.size : Int) := by omega
   by_cases h2 : s.size ≤ 40
   · have h4 : (s.size : Int) ≤ 40 := by omega
     rw [decide_eq_true h1, decide_eq_true h2]
     go_enter Tryz.func172, Tryz.ntmps172
     go_wp2
     go_ret
     exact ⟨rfl, rfl⟩
   · have h4 : ¬ (s.size : Int) ≤ 40 := by omega
     rw [decide_eq_true h1, decide_eq_false h2]
     go_enter Tryz.func172, Tryz.ntmps172
     go_wp2
     go_ret
     exact ⟨rfl, rfl⟩
 · have h3 : ¬ (1 : Int) ≤ (s.size : Int) := by omega
   rw [decide_eq_false h1]
   go_enter Tryz.func172, Tryz.ntmps172
   go_wp2
   go_ret
   exact ⟨rfl, rfl⟩
theorem isPackageY (s : ByteArray) (w : World) : Calls Tryz.prog 171 #[.string s] w fun e w' => e = .returned (.bool (pkgOk s)) ∧ w = w' := by
 cases hn : nameOk s with
 | false =>
  have hp : Hid (pkgOk s = false) := by show _ = _; unfold pkgOk; rw [hn]; rfl
  go_enter Tryz.func171, Tryz.ntmps171
  go_wp2_with fail
  refine (isNameY s _).mono ?_
  rintro e w' ⟨rfl, rfl⟩
  rw [hn]
  go_wp2
  go_ret
  exact ⟨ret_boolY hp.out.symm, rfl⟩
 | true =>
  have hn' := hn
  unfold nameOk at hn'
  rw [Bool.and_eq_true, decide_eq_true_eq, decide_eq_true_eq] at hn'
  obtain ⟨h1, h2⟩ := hn'
  have h0 : 0 < s.size := h1
  cases hl : letB ((s[0]'h0).toNat : Int) with
  | false =>
   have hp : Hid (pkgOk s = false) := by show _ = _; unfold pkgOk; rw [firstLet_at h0, hl]; simp
   go_enter Tryz.func171, Tryz.ntmps171
   go_wp2_with fail
   refine (isNameY s _).mono ?_
   rintro e w' ⟨rfl, rfl⟩
   rw [hn]
   go_wp2_with fail
   refine (isLetterY _ _ hl _).mono ?_
   rintro e w' ⟨rfl, rfl⟩
   go_wp2
   go_ret
   exact ⟨ret_boolY hp.out.symm, rfl⟩
  | true =>
   have hp : pkgOk s = (bl s).all okU := by unfold pkgOk; rw [hn, firstLet_at h0, hl]; simp
   rw [hp]
   obtain ⟨R, hR⟩ : ∃ R, (bl s).all okU = R := ⟨_, rfl⟩
   have H0 : Hid (((bl s).drop 0).all okU = R) := by show _ = _; rw [List.drop_zero, hR]
   rw [hR]
   clear hR hp
   have HN := qh9 hn
   have HL := qh9 hl
   clear hn hl
   go_enter Tryz.func171, Tryz.ntmps171
   go_wp2_with fail
   refine (isNameY s _).mono ?_
   rintro e w' ⟨rfl, rfl⟩
   rw [HN.out]
   go_wp2_with fail
   refine (isLetterY _ _ HL.out _).mono ?_
   rintro e w' ⟨rfl, rfl⟩
   go_wp2_with fail
   go_loop [15] (fun v => ∃ i : Nat, i ≤ s.size ∧ v = .int .i64 i ∧ Hid (((bl s).drop i).all okU = R)) (fun v => s.size - (intOf v).toNat)
   case atStart => exact ⟨0, by omega, rfl, H0⟩
   case round =>
    obtain ⟨i, hi, rfl, hE⟩ := hrel
    by_cases his : i < s.size
    · have hst := bl_drop his
      have hE1 : (okU (s[i]'his) && ((bl s).drop (i + 1)).all okU) = R := by have := hE.out; rw [hst, List.all_cons] at this; exact this
      clear hst hE
      cases h1 : letB ((s[i]'his).toNat : Int) with
      | true =>
       have hk : okU (s[i]'his) = true := by unfold okU; rw [h1]; rfl
       rw [hk, Bool.true_and] at hE1
       replace hE1 := qh9 hE1
       have H1 := qh9 h1
       clear hk h1
       go_wp2_with fail
       refine (isLetterY _ _ H1.out _).mono ?_
       rintro e w' ⟨rfl, rfl⟩
       go_wp2
       go_round
       case rel => exact ⟨i + 1, by omega, by go_num, hE1⟩
       case measure => simp [intOf]; omega
      | false =>
       have H1 := qh9 h1
       clear h1
       cases h2 : digB ((s[i]'his).toNat : Int) with
       | true =>
        have hk : okU (s[i]'his) = true := by unfold okU; rw [h2]; simp
        rw [hk, Bool.true_and] at hE1
        replace hE1 := qh9 hE1
        have H2 := qh9 h2
        clear hk h2
        go_wp2_with fail
        refine (isLetterY _ _ H1.out _).mono ?_
        rintro e w' ⟨rfl, rfl⟩
        go_wp2_with fail
        refine (isDigitY _ _ H2.out _).mono ?_
        rintro e w' ⟨rfl, rfl⟩
        go_wp2
        go_round
        case rel => exact ⟨i + 1, by omega, by go_num, hE1⟩
        case measure => simp [intOf]; omega
       | false =>
        have H2 := qh9 h2
        clear h2
        by_cases h3 : ((s[i]'his).toNat : Int) = 45
        · have hk : okU (s[i]'his) = true := by unfold okU; rw [h3]; simp
          rw [hk, Bool.true_and] at hE1
          replace hE1 := qh9 hE1
          clear hk
          go_wp2_with fail
          refine (isLetterY 45 false (by decide) _).mono ?_
          rintro e w' ⟨rfl, rfl⟩
          go_wp2_with fail
          refine (isDigitY 45 false (by decide) _).mono ?_
          rintro e w' ⟨rfl, rfl⟩
          go_wp2
          go_round
          case rel => exact ⟨i + 1, by omega, by go_num, hE1⟩
          case measure => simp [intOf]; omega
        · have hk : okU (s[i]'his) = false := by unfold okU; rw [H1.out, H2.out]; simp [h3]
          rw [hk, Bool.false_and] at hE1
          replace hE1 := qh9 hE1
          clear hk
          go_wp2_with fail
          refine (isLetterY _ _ H1.out _).mono ?_
          rintro e w' ⟨rfl, rfl⟩
          go_wp2_with fail
          refine (isDigitY _ _ H2.out _).mono ?_
          rintro e w' ⟨rfl, rfl⟩
          go_wp2
          go_ret
          exact ⟨ret_boolY hE1.out, rfl⟩
    · have hiE : i = s.size := by omega
      have hr : Hid (R = true) := by show _ = _; rw [← hE.out, List.drop_eq_nil_of_le (by rw [bl_length]; omega)]; rfl
      clear hE
      go_wp2
      go_ret
      exact ⟨ret_boolY hr.out.symm, rfl⟩
end Sy
namespace Sy

end Sy
namespace Sy
def SyO (W : World) (g : Nat) (p n : ByteArray) : Prop := W.heap[g]? = some (.cells #[.int .i64 2, .string ⟨#[]⟩, .string ⟨#[]⟩, .string p, .string n, .string ⟨#[]⟩, .slice none 0 0] 33 (0, 0))
theorem blk_ltY {W : World} {g : Nat} {o : Obj} (h : W.heap[g]? = some o) : g < W.heap.size := by
 rcases Nat.lt_or_ge g W.heap.size with hlt | hge
 · exact hlt
 · rw [Array.getElem?_eq_none hge] at h; cases h
theorem SyO.c {W : World} {g : Nat} {p n : ByteArray} (h : SyO W g p n) : W.cell? ⟨g, 0, none⟩ = some (.int .i64 2) ∧ W.cell? ⟨g, 1, none⟩ = some (.string ⟨#[]⟩) ∧ W.cell? ⟨g, 2, none⟩ = some (.string ⟨#[]⟩) ∧ W.cell? ⟨g, 3, none⟩ = some (.string p) ∧ W.cell? ⟨g, 4, none⟩ = some (.string n) ∧ W.cell? ⟨g, 5, none⟩ = some (.string ⟨#[]⟩) ∧ W.cell? ⟨g, 6, none⟩ = some (.slice none 0 0) := by
 refine ⟨?_, ?_, ?_, ?_, ?_, ?_, ?_⟩ <;> (rw [cell_of_row _ _ _ _ _ _ h]; rfl)
theorem SyO.keep {W W' : World} {g : Nat} {p n : ByteArray} (h : SyO W g p n) (hb : Below W.heap.size W W') : SyO W' g p n := (hb.block g (blk_ltY h)).trans h
def QuietY (w : World) (v : Value) (e : Ending) (w' : World) : Prop := e = .returned v ∧ ∃ n, w' = w.drewN n
theorem symbolY (p n : ByteArray) (w : World) : Calls Tryz.prog 110 #[.agg #[.string p, .string n]] w (RetY w (.agg #[.int .i64 2, .string ⟨#[]⟩, .string ⟨#[]⟩, .string p, .string n, .string ⟨#[]⟩, .slice none 0 0])) := by
 go_enter Tryz.func110, Tryz.ntmps110
 go_wp2_with fail
 refine bodyPost_ret (results_cell_row rfl _ _ (w.heap.size + 1) 33 #[.int .i64 2, .string ⟨#[]⟩, .string ⟨#[]⟩, .string p, .string n, .string ⟨#[]⟩, .slice none 0 0] (0, 0) _ rfl ?_ Tryz.underlying33 rfl (by kernel_rfl)) rfl ⟨rfl, ?_⟩
 · have := heap_alloc_new (w.alloc (.cells #[.string p, .string n] 23)) (.cells #[.int .i64 2, .string ⟨#[]⟩, .string ⟨#[]⟩, .string p, .string n, .string ⟨#[]⟩, .slice none 0 0] 33)
   have s : (w.alloc (.cells #[.string p, .string n] 23)).heap.size = w.heap.size + 1 := by simp
   rw [s] at this
   exact this
 · exact Below.alloc (Below.alloc (Below.refl _ _) (Nat.le_refl _) _) (by simp) _
theorem sameY (b b' : Nat) (w : World) (p n : ByteArray) (h : SyO w b p n) (h' : SyO w b' p n) :
 Calls Tryz.prog 165 #[.pointer (some ⟨b, 0, none⟩), .pointer (some ⟨b', 0, none⟩)] w (QuietY w (.bool true)) := by
 obtain ⟨l0, l1, l2, l3, l4, l5, l6⟩ := h.c
 obtain ⟨m0, m1, m2, m3, m4, m5, m6⟩ := h'.c
 clear h h' l6 m6
 go_enter Tryz.func165, Tryz.ntmps165
 go_wp2_with fail
 go_quiet (fail)
 go_wp2
 go_ret
 exact ⟨rfl, _, rfl⟩
theorem hasOnlyY (b : Nat) (w : World) (p n : ByteArray) (h : SyO w b p n) :
 Calls Tryz.prog 169 #[.pointer (some ⟨b, 0, none⟩), .agg #[.int .i64 0, .string ⟨#[]⟩, .string ⟨#[]⟩, .string p, .string n, .string ⟨#[]⟩, .slice none 0 0]] w (RetY w (.bool true)) := by
 have hlt := blk_ltY h
 have hne : ¬ b = w.heap.size := by omega
 have hb0 := Below.alloc (Below.refl w.heap.size w) (Nat.le_refl _) (.cells #[.int .i64 2, .string ⟨#[]⟩, .string ⟨#[]⟩, .string p, .string n, .string ⟨#[]⟩, .slice none 0 0] 33)
 have hg0 : SyO (w.alloc (.cells #[.int .i64 2, .string ⟨#[]⟩, .string ⟨#[]⟩, .string p, .string n, .string ⟨#[]⟩, .slice none 0 0] 33)) w.heap.size p n := heap_alloc_new w _
 have hk0 := h.keep hb0
 obtain ⟨l0, l1, l2, l3, l4, l5, l6⟩ := h.c
 clear h
 go_enter Tryz.func169, Tryz.ntmps169
 go_wp2_with fail
 generalize w.alloc (.cells #[.int .i64 2, .string ⟨#[]⟩, .string ⟨#[]⟩, .string p, .string n, .string ⟨#[]⟩, .slice none 0 0] 33) = W at hb0 hg0 hk0 ⊢
 clear l0 l1 l2 l3 l4 l5 l6
 obtain ⟨g0, g1, g2, g3, g4, g5, g6⟩ := hg0.c
 obtain ⟨k0, k1, k2, k3, k4, k5, k6⟩ := hk0.c
 have C : Hid (∀ m, Calls Tryz.prog 165 #[.pointer (some ⟨b, 0, none⟩), .pointer (some ⟨w.heap.size, 0, none⟩)] (W.drewN m) (QuietY (W.drewN m) (.bool true))) := fun m => sameY b w.heap.size (W.drewN m) p n (by unfold SyO at hk0 ⊢; simpa using hk0) (by unfold SyO at hg0 ⊢; simpa using hg0)
 have HB := qh9 hb0
 clear hg0 hk0 hb0 k0 k1 k2 k3 k4 k5 g0 g1 g2 g3 g4 g5
 go_quiet ((go_at_call 165; exact Calls.quiet_of (C.out _)))
 go_wp2
 go_ret
 exact ⟨rfl, HB.out.trans (⟨rfl, rfl, rfl, Nat.le_refl _, fun _ _ => rfl⟩ : Below w.heap.size W (W.drewN nq))⟩
theorem countY (b : Nat) (w : World) (p n : ByteArray) (h : SyO w b p n) :
 Calls Tryz.prog 155 #[.pointer (some ⟨b, 0, none⟩), .int .i64 0] w (fun e w' => e = .returned (.int .i64 1) ∧ w = w') := by
 obtain ⟨l0, l1, l2, l3, l4, l5, l6⟩ := h.c
 clear h l0 l1 l2 l3 l4 l5
 go_enter Tryz.func155, Tryz.ntmps155
 go_wp2_with fail
 go_loop [0, 1] (fun u v => u = .pointer (some ⟨b, 0, none⟩) ∧ v = .int .i64 0) (fun _ v => 1 - (intOf v).toNat)
 case atStart => exact ⟨rfl, rfl⟩
 case round =>
  obtain ⟨rfl, rfl⟩ := hrel
  go_wp2
  go_ret
  exact ⟨rfl, rfl⟩
theorem nodesY (p n : ByteArray) (w : World) :
 Calls Tryz.prog 128 #[.agg #[.int .i64 2, .string ⟨#[]⟩, .string ⟨#[]⟩, .string p, .string n, .string ⟨#[]⟩, .slice none 0 0]] w (RetY w (.int .i64 1)) := by
 have hb0 := qh9 (Below.alloc (Below.refl w.heap.size w) (Nat.le_refl _) (.cells #[.int .i64 2, .string ⟨#[]⟩, .string ⟨#[]⟩, .string p, .string n, .string ⟨#[]⟩, .slice none 0 0] 33))
 have hg0 : Hid (SyO (w.alloc (.cells #[.int .i64 2, .string ⟨#[]⟩, .string ⟨#[]⟩, .string p, .string n, .string ⟨#[]⟩, .slice none 0 0] 33)) w.heap.size p n) := heap_alloc_new w _
 go_enter Tryz.func128, Tryz.ntmps128
 go_wp2_with fail
 generalize w.alloc (.cells #[.int .i64 2, .string ⟨#[]⟩, .string ⟨#[]⟩, .string p, .string n, .string ⟨#[]⟩, .slice none 0 0] 33) = W at hb0 hg0 ⊢
 refine (countY _ W p n hg0.out).mono ?_
 rintro e w' ⟨rfl, rfl⟩
 go_wp2
 go_ret
 exact ⟨rfl, hb0.out⟩
theorem wellY (b : Nat) (w : World) (p n : ByteArray) (h : SyO w b p n) :
 Calls Tryz.prog 154 #[.pointer (some ⟨b, 0, none⟩)] w (RetY w (.bool (pkgOk p && nameOk n))) := by
 obtain ⟨l0, l1, l2, l3, l4, l5, l6⟩ := h.c
 have HO := qh9 (hasOnlyY b w p n h)
 have HC : Hid (∀ wd, Below w.heap.size w wd → wd.cell? ⟨b, 3, none⟩ = some (.string p) ∧ wd.cell? ⟨b, 4, none⟩ = some (.string n)) := fun wd hb => ⟨(h.keep hb).c.2.2.2.1, (h.keep hb).c.2.2.2.2.1⟩
 clear h l1 l2 l5 l6
 go_enter Tryz.func154, Tryz.ntmps154
 go_wp2_with fail
 refine HO.out.mono ?_
 rintro e w1 ⟨rfl, hb1⟩
 obtain ⟨j3, j4⟩ := HC.out _ hb1
 have HB := qh9 hb1
 clear hb1 l0 l3 l4
 go_wp2_with fail
 refine (isPackageY p _).mono ?_
 rintro e w2 ⟨rfl, rfl⟩
 cases hp : pkgOk p with
 | false =>
  go_wp2
  go_ret
  exact ⟨ret_boolY (by rw [hp]; rfl), HB.out⟩
 | true =>
  go_wp2_with fail
  refine (isNameY n _).mono ?_
  rintro e w2 ⟨rfl, rfl⟩
  go_wp2
  go_ret
  exact ⟨ret_boolY (by rw [hp]; rfl), HB.out⟩
theorem validOY (p n : ByteArray) (w : World) :
 Calls Tryz.prog 125 #[.agg #[.int .i64 2, .string ⟨#[]⟩, .string ⟨#[]⟩, .string p, .string n, .string ⟨#[]⟩, .slice none 0 0]] w (RetY w (.bool (pkgOk p && nameOk n))) := by
 have hb0 := qh9 (Below.alloc (Below.refl w.heap.size w) (Nat.le_refl _) (.cells #[.int .i64 2, .string ⟨#[]⟩, .string ⟨#[]⟩, .string p, .string n, .string ⟨#[]⟩, .slice none 0 0] 33))
 have hg0 : Hid (SyO (w.alloc (.cells #[.int .i64 2, .string ⟨#[]⟩, .string ⟨#[]⟩, .string p, .string n, .string ⟨#[]⟩, .slice none 0 0] 33)) w.heap.size p n) := heap_alloc_new w _
 go_enter Tryz.func125, Tryz.ntmps125
 go_wp2_with fail
 generalize w.alloc (.cells #[.int .i64 2, .string ⟨#[]⟩, .string ⟨#[]⟩, .string p, .string n, .string ⟨#[]⟩, .slice none 0 0] 33) = W at hb0 hg0 ⊢
 obtain ⟨l0, l1, l2, l3, l4, l5, l6⟩ := hg0.out.c
 go_wp2_with fail
 refine (nodesY p n _).mono ?_
 rintro e w1 ⟨rfl, hb⟩
 have HG := qh9 (hg0.out.keep hb)
 have HB := qh9 (chainY hb0.out hb (Nat.le_refl _))
 clear l0 l1 l2 l3 l4 l5 l6 hb
 go_wp2_with fail
 refine (wellY _ _ p n HG.out).mono ?_
 rintro e w2 ⟨rfl, hb⟩
 have HB2 := qh9 (chainY HB.out hb (Nat.le_refl _))
 clear hb
 go_wp2
 go_ret
 exact ⟨rfl, HB2.out⟩
def symOk (p n : ByteArray) : Bool := pkgOk p && nameOk n
theorem validSY (p n : ByteArray) (w : World) : Calls Tryz.prog 126 #[.agg #[.string p, .string n]] w (RetY w (.bool (symOk p n))) := by
 have hb0 := qh9 (Below.alloc (Below.refl w.heap.size w) (Nat.le_refl _) (.cells #[.string p, .string n] 23))
 go_enter Tryz.func126, Tryz.ntmps126
 go_wp2_with fail
 generalize w.alloc (.cells #[.string p, .string n] 23) = W at hb0 ⊢
 refine (symbolY p n _).mono ?_
 rintro e w1 ⟨rfl, hb⟩
 have HB := qh9 (chainY hb0.out hb (Nat.le_refl _))
 clear hb
 go_wp2_with fail
 refine (validOY p n _).mono ?_
 rintro e w2 ⟨rfl, hb⟩
 have HB2 := qh9 (chainY HB.out hb (Nat.le_refl _))
 clear hb
 go_wp2
 go_ret
 exact ⟨rfl, HB2.out⟩
end Sy
end Go.Proofs.YtinjhnnpbejccaaGreatDoor
