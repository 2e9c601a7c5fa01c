import Derived.Test.YtlocnkobancjmaaGreatDoorBl
import Derived.Test.YtlocnkobancjmaaGreatDoorH19
import Derived.Test.YtlocnkobancjmaaGreatDoorH28
import Derived.Test.YtlocnkobancjmaaGreatDoorH21
import Derived.Test.YtlocnkobancjmaaGreatDoorH22
import Derived.Test.YtlocnkobancjmaaGreatDoorH25
import Derived.Test.YtlocnkobancjmaaGreatDoorH24
namespace Go.Proofs.YtlocnkobancjmaaGreatDoor
open Go Go.RowKit
set_option linter.unusedVariables false
set_option maxHeartbeats 32000000
set_option maxRecDepth 100000
theorem varLit (s : Nm) (w : World) : Calls Tryz.prog 23 #[.agg #[.string s.1, .string s.2]] w (fun e w' => e = .returned (.agg #[.int .i64 1, .string s.1, .string s.2, .int .i64 0, .string ⟨#[]⟩, .string ⟨#[]⟩, .string ⟨#[]⟩, .string ⟨#[]⟩, .string ⟨#[]⟩, .slice none 0 0, .slice none 0 0]) ∧ Below w.heap.size w w') := (varP s w NoB).mono fun e w' ⟨cs, h1, h2, h3⟩ => by
 have e2 : cs = [.int .i64 1, .string s.1, .string s.2, .int .i64 0, .string ⟨#[]⟩, .string ⟨#[]⟩, .string ⟨#[]⟩, .string ⟨#[]⟩, .string ⟨#[]⟩, .slice none 0 0, .slice none 0 0] := h2
 subst e2
 exact ⟨h1, h3⟩
theorem ts2 {w : World} {g : Nat} {X Z : Nm} (h : w.heap[g]? = some (.cells #[.int .i64 1, .string X.1, .string X.2, .int .i64 0, .string ⟨#[]⟩, .string ⟨#[]⟩, .string ⟨#[]⟩, .string ⟨#[]⟩, .string ⟨#[]⟩, .slice none 0 0, .slice none 0 0, .int .i64 1, .string Z.1, .string Z.2, .int .i64 0, .string ⟨#[]⟩, .string ⟨#[]⟩, .string ⟨#[]⟩, .string ⟨#[]⟩, .string ⟨#[]⟩, .slice none 0 0, .slice none 0 0] 45 (0, 0))) : TsV w (fun b => b = g) [.var X, .var Z] (.slice (some ⟨g, 0, none⟩) 2 2) := by
 refine ⟨some ⟨g, 0, none⟩, 2, rfl, Nat.le_refl _, fun _ => ⟨g, 0, rfl, ⟨rfl, _, _, h⟩, ?_⟩⟩
 refine TmsAt.of _ _ fun i hi => ?_
 have hi2 : i < 2 := hi
 match i, hi2 with
 | 0, _ =>
  refine ⟨[.int .i64 1, .string X.1, .string X.2, .int .i64 0, .string ⟨#[]⟩, .string ⟨#[]⟩, .string ⟨#[]⟩, .string ⟨#[]⟩, .string ⟨#[]⟩, .slice none 0 0, .slice none 0 0], rfl, fun j u hj => ?_⟩
  rw [cell_of_row _ _ _ _ _ _ h]
  have hj2 : j < 11 := (List.getElem?_eq_some_iff.1 hj).1
  match j, hj2 with
  | 0, _ | 1, _ | 2, _ | 3, _ | 4, _ | 5, _ | 6, _ | 7, _ | 8, _ | 9, _ | 10, _ => exact hj
 | 1, _ =>
  refine ⟨[.int .i64 1, .string Z.1, .string Z.2, .int .i64 0, .string ⟨#[]⟩, .string ⟨#[]⟩, .string ⟨#[]⟩, .string ⟨#[]⟩, .string ⟨#[]⟩, .slice none 0 0, .slice none 0 0], rfl, fun j u hj => ?_⟩
  rw [cell_of_row _ _ _ _ _ _ h]
  have hj2 : j < 11 := (List.getElem?_eq_some_iff.1 hj).1
  match j, hj2 with
  | 0, _ | 1, _ | 2, _ | 3, _ | 4, _ | 5, _ | 6, _ | 7, _ | 8, _ | 9, _ | 10, _ => exact hj
theorem as2 {w : World} {g : Nat} {X Z : Nm} (h : w.heap[g]? = some (.cells #[.string X.1, .string X.2, .int .i64 1, .string Z.1, .string Z.2, .int .i64 0, .string ⟨#[]⟩, .string ⟨#[]⟩, .string ⟨#[]⟩, .string ⟨#[]⟩, .string ⟨#[]⟩, .slice none 0 0, .slice none 0 0, .string Z.1, .string Z.2, .int .i64 1, .string X.1, .string X.2, .int .i64 0, .string ⟨#[]⟩, .string ⟨#[]⟩, .string ⟨#[]⟩, .string ⟨#[]⟩, .string ⟨#[]⟩, .slice none 0 0, .slice none 0 0] 64 (0, 0))) : AsV w (fun b => b = g) [(X, .var Z), (Z, .var X)] (.slice (some ⟨g, 0, none⟩) 2 2) := by
 refine ⟨some ⟨g, 0, none⟩, 2, rfl, Nat.le_refl _, fun _ => ⟨g, 0, rfl, ⟨rfl, _, _, h⟩, fun i hi => ?_⟩⟩
 have hi2 : i < 2 := hi
 match i, hi2 with
 | 0, _ =>
  refine ⟨[.int .i64 1, .string Z.1, .string Z.2, .int .i64 0, .string ⟨#[]⟩, .string ⟨#[]⟩, .string ⟨#[]⟩, .string ⟨#[]⟩, .string ⟨#[]⟩, .slice none 0 0, .slice none 0 0], rfl, fun j u hj => ?_⟩
  rw [cell_of_row _ _ _ _ _ _ h]
  have hj2 : j < 13 := (List.getElem?_eq_some_iff.1 hj).1
  match j, hj2 with
  | 0, _ | 1, _ | 2, _ | 3, _ | 4, _ | 5, _ | 6, _ | 7, _ | 8, _ | 9, _ | 10, _ | 11, _ | 12, _ => exact hj
 | 1, _ =>
  refine ⟨[.int .i64 1, .string X.1, .string X.2, .int .i64 0, .string ⟨#[]⟩, .string ⟨#[]⟩, .string ⟨#[]⟩, .string ⟨#[]⟩, .string ⟨#[]⟩, .slice none 0 0, .slice none 0 0], rfl, fun j u hj => ?_⟩
  rw [cell_of_row _ _ _ _ _ _ h]
  have hj2 : j < 13 := (List.getElem?_eq_some_iff.1 hj).1
  match j, hj2 with
  | 0, _ | 1, _ | 2, _ | 3, _ | 4, _ | 5, _ | 6, _ | 7, _ | 8, _ | 9, _ | 10, _ | 11, _ | 12, _ => exact hj
def LT2 (X Z : Nm) : Lv := fun v lo hi w => v = .slice (some ⟨lo, 0, none⟩) 2 2 ∧ w.heap[lo]? = some (.cells #[.int .i64 1, .string X.1, .string X.2, .int .i64 0, .string ⟨#[]⟩, .string ⟨#[]⟩, .string ⟨#[]⟩, .string ⟨#[]⟩, .string ⟨#[]⟩, .slice none 0 0, .slice none 0 0, .int .i64 1, .string Z.1, .string Z.2, .int .i64 0, .string ⟨#[]⟩, .string ⟨#[]⟩, .string ⟨#[]⟩, .string ⟨#[]⟩, .string ⟨#[]⟩, .slice none 0 0, .slice none 0 0] 45 (0, 0)) ∧ lo < hi
theorem mLT2 (X Z : Nm) : Mon (LT2 X Z) := fun _ _ _ _ _ ⟨h1, h2, h3⟩ hm hb => ⟨h1, (hb.block _ (by omega)).trans h2, h3⟩
def LA2 (X Z : Nm) : Lv := fun v lo hi w => v = .slice (some ⟨lo, 0, none⟩) 2 2 ∧ w.heap[lo]? = some (.cells #[.string X.1, .string X.2, .int .i64 1, .string Z.1, .string Z.2, .int .i64 0, .string ⟨#[]⟩, .string ⟨#[]⟩, .string ⟨#[]⟩, .string ⟨#[]⟩, .string ⟨#[]⟩, .slice none 0 0, .slice none 0 0, .string Z.1, .string Z.2, .int .i64 1, .string X.1, .string X.2, .int .i64 0, .string ⟨#[]⟩, .string ⟨#[]⟩, .string ⟨#[]⟩, .string ⟨#[]⟩, .string ⟨#[]⟩, .slice none 0 0, .slice none 0 0] 64 (0, 0)) ∧ lo < hi
theorem mLA2 (X Z : Nm) : Mon (LA2 X Z) := fun _ _ _ _ _ ⟨h1, h2, h3⟩ hm hb => ⟨h1, (hb.block _ (by omega)).trans h2, h3⟩
theorem first8 (w : World) : Calls Tryz.prog 17 #[] w (RetB w true) := by
 obtain ⟨X, hX⟩ : ∃ X, X = uN ⟨#[120]⟩ := ⟨_, rfl⟩
 obtain ⟨Z, hZ⟩ : ∃ Z, Z = uN ⟨#[121]⟩ := ⟨_, rfl⟩
 have hne : eqN X Z = false := by rw [hX, hZ]; kernel_rfl
 have hne2 : eqN Z X = false := by rw [hX, hZ]; kernel_rfl
 have HWF : Hid (wfT (.app (uN ⟨#[102]⟩) [.var Z, .var X]) = true) := (show _ = _ by rw [hX, hZ]; kernel_rfl)
 have HX := hI hX
 have HZZ := hI hZ
 have hvs : vN4.take 2 = [X, Z] := by rw [hX, hZ]; rfl
 go_enter Tryz.func17, Tryz.ntmps17
 go_wp2_with fail
 refine (varsT 2 (by decide) w).mono ?_
 rintro e w1 ⟨v, rfl, hv, hb1⟩
 rw [hvs] at hv
 obtain ⟨A, c, hve, hlc, hvv⟩ := hv
 have hve2 : v = .slice A 2 c := hve
 subst hve2
 obtain ⟨b, o, rfl, hbS, hcc⟩ := hvv (by simp)
 have HB := hI hb1
 have hlb : b < w1.heap.size := by
  rcases hbS.1 with h | h
  · exact h.elim
  · exact h.2
 have HLB := hI hlb
 have C0 : Hid (w1.cell? ⟨b, o, none⟩ = some (.string X.1)) := (hcc 0 (by simp)).1
 have C1 : Hid (w1.cell? ⟨b, o + 1, none⟩ = some (.string X.2)) := (hcc 0 (by simp)).2
 have C2 : Hid (w1.cell? ⟨b, o + 2, none⟩ = some (.string Z.1)) := (hcc 1 (by simp)).1
 have C3 : Hid (w1.cell? ⟨b, o + 3, none⟩ = some (.string Z.2)) := (hcc 1 (by simp)).2
 clear hcc hvv hbS hb1 hlb hvs hve hX hZ
 have hlc2 : 2 ≤ c := hlc
 go_wp2_with fail
 refine wp_region_growMT (l := _) 10 1 (by kernel_rfl) (by kernel_rfl) (fun i => [9, 10, 11, 12, 13, 14, 15, 16, 2, 3].getD i 0) (LR [LV (.slice (some ⟨b, o, none⟩) 2 c), LV (.pointer (some ⟨b, o, none⟩)), LV (.agg #[.string X.1, .string X.2]), LV (.agg #[.int .i64 1, .string X.1, .string X.2, .int .i64 0, .string ⟨#[]⟩, .string ⟨#[]⟩, .string ⟨#[]⟩, .string ⟨#[]⟩, .string ⟨#[]⟩, .slice none 0 0, .slice none 0 0]), LV (.slice (some ⟨b, o, none⟩) 2 c), LV (.pointer (some ⟨b, o + 2, none⟩)), LV (.agg #[.string Z.1, .string Z.2]), LV (.agg #[.int .i64 1, .string Z.1, .string Z.2, .int .i64 0, .string ⟨#[]⟩, .string ⟨#[]⟩, .string ⟨#[]⟩, .string ⟨#[]⟩, .string ⟨#[]⟩, .slice none 0 0, .slice none 0 0]), LTx, LTx]) (LR_mono ⟨mLV _, mLV _, mLV _, mLV _, mLV _, mLV _, mLV _, mLV _, mLTx, mLTx, trivial⟩) (by
  intro i j hi hj h
  exact inj_getD [9, 10, 11, 12, 13, 14, 15, 16, 2, 3] (by decide) i j hi hj h) (by
  intro i hi
  exact lt_getD 68 [9, 10, 11, 12, 13, 14, 15, 16, 2, 3] (by decide) i hi) [4, 5, 6] (by kernel_rfl) (fun s => [8].getD s 0) (fun s => [3].getD s 0) (by
  intro s hs
  exact lt_getD 10 [8] (by decide) s hs) (by
  intro s hs
  exact lt_getD 10 [3] (by decide) s hs) (by
  intro i j hi hj h
  exact inj_getD [8] (by decide) i j hi hj h) (by kernel_rfl) (by
  intro s hs
  exact match s, hs with | 0, _ => ⟨_, rfl, rfl, rfl, rfl⟩) (by
  intro s hs
  exact match s, hs with | 0, _ => fun _ _ _ _ h => h) (by
  intro s hs
  exact match s, hs with | 0, _ => fun _ _ _ _ h => ⟨[.int .i64 1, .string X.1, .string X.2, .int .i64 0, .string ⟨#[]⟩, .string ⟨#[]⟩, .string ⟨#[]⟩, .string ⟨#[]⟩, .string ⟨#[]⟩, .slice none 0 0, .slice none 0 0], h, rfl, by simp [Value.oneCell']⟩) ?step ?stepL ?done
 case step =>
  intro ii hii a w9 v lo hi' hoth hb hw
  have sl1 : a.tmps[1]? = some (.slice (some ⟨b, o, none⟩) 2 c) := (hoth 1 (fun j hj => ne_getD 1 _ (by decide) j hj)).trans rfl
  match ii, hii with
  | 0, _ =>
   exact gw_move rfl (wanted_plain rfl) 1 _ rfl sl1 ⟨_, rfl, Below.refl _ _, rfl⟩
  | 1, _ =>
   obtain ⟨s0, r0, _⟩ := hw 0 (by omega) (by kernel_rfl)
   have e0 : v 0 = .slice (some ⟨b, o, none⟩) 2 c := r0
   rw [e0] at s0
   replace s0 : a.tmps[9]? = some (.slice (some ⟨b, o, none⟩) 2 c) := s0
   refine wpOp_step rfl fun K' hK' => ?_
   rw [if_pos (wanted_plain rfl)]
   unfold Oper.wp
   simp only [execOp]
   go_simp
   exact hK' _ _ ⟨_, rfl, Below.refl _ _, rfl⟩
  | 2, _ =>
   obtain ⟨s0, r0, _⟩ := hw 1 (by omega) (by kernel_rfl)
   have e0 : v 1 = .pointer (some ⟨b, o, none⟩) := r0
   rw [e0] at s0
   replace s0 : a.tmps[10]? = some (.pointer (some ⟨b, o, none⟩)) := s0
   have cc0 := (hb.cell (p := ⟨b, o, none⟩) HLB.out).trans C0.out
   have cc1 := (hb.cell (p := ⟨b, o + 1, none⟩) HLB.out).trans C1.out
   refine wpOp_step rfl fun K' hK' => ?_
   rw [if_pos (wanted_plain rfl)]
   unfold Oper.wp
   simp only [execOp]
   go_simp
   exact hK' _ _ ⟨_, rfl, Below.refl _ _, rfl⟩
  | 3, _ =>
   obtain ⟨s0, r0, _⟩ := hw 2 (by omega) (by kernel_rfl)
   have e0 : v 2 = .agg #[.string X.1, .string X.2] := r0
   rw [e0] at s0
   replace s0 : a.tmps[11]? = some (.agg #[.string X.1, .string X.2]) := s0
   refine gw_t rfl (wanted_plain rfl) 23 11 _ _ rfl (fun v w => by go_simp) s0 ?_
   with_reducible refine (varLit X w9).mono ?_
   rintro e w3 ⟨rfl, hb3⟩
   exact ⟨_, rfl, _, rfl, hb3, rfl⟩
  | 4, _ =>
   exact gw_move rfl (wanted_plain rfl) 1 _ rfl sl1 ⟨_, rfl, Below.refl _ _, rfl⟩
  | 5, _ =>
   obtain ⟨s0, r0, _⟩ := hw 4 (by omega) (by kernel_rfl)
   have e0 : v 4 = .slice (some ⟨b, o, none⟩) 2 c := r0
   rw [e0] at s0
   replace s0 : a.tmps[13]? = some (.slice (some ⟨b, o, none⟩) 2 c) := s0
   refine wpOp_step rfl fun K' hK' => ?_
   rw [if_pos (wanted_plain rfl)]
   unfold Oper.wp
   simp only [execOp]
   go_simp
   exact hK' _ _ ⟨_, rfl, Below.refl _ _, rfl⟩
  | 6, _ =>
   obtain ⟨s0, r0, _⟩ := hw 5 (by omega) (by kernel_rfl)
   have e0 : v 5 = .pointer (some ⟨b, o + 2, none⟩) := r0
   rw [e0] at s0
   replace s0 : a.tmps[14]? = some (.pointer (some ⟨b, o + 2, none⟩)) := s0
   have cc0 := (hb.cell (p := ⟨b, o + 2, none⟩) HLB.out).trans C2.out
   have cc1 := (hb.cell (p := ⟨b, o + 3, none⟩) HLB.out).trans C3.out
   refine wpOp_step rfl fun K' hK' => ?_
   rw [if_pos (wanted_plain rfl)]
   unfold Oper.wp
   simp only [execOp]
   go_simp
   exact hK' _ _ ⟨_, rfl, Below.refl _ _, rfl⟩
  | 7, _ =>
   obtain ⟨s0, r0, _⟩ := hw 6 (by omega) (by kernel_rfl)
   have e0 : v 6 = .agg #[.string Z.1, .string Z.2] := r0
   rw [e0] at s0
   replace s0 : a.tmps[15]? = some (.agg #[.string Z.1, .string Z.2]) := s0
   refine gw_t rfl (wanted_plain rfl) 23 15 _ _ rfl (fun v w => by go_simp) s0 ?_
   with_reducible refine (varLit Z w9).mono ?_
   rintro e w3 ⟨rfl, hb3⟩
   exact ⟨_, rfl, _, rfl, hb3, rfl⟩
  | 8, _ =>
   refine wpOp_step rfl fun K' hK' => ?_
   rw [if_pos (wanted_plain rfl)]
   unfold Oper.wp
   simp only [execOp]
   go_simp
   exact hK' _ _ ⟨_, rfl, below_alT _ _, rfl, heap_alloc_new _ _, by simp⟩
  | 9, _ =>
   refine wpOp_step rfl fun K' hK' => ?_
   rw [if_pos (wanted_plain rfl)]
   unfold Oper.wp
   simp only [execOp]
   go_simp
   exact hK' _ _ ⟨_, rfl, below_alT _ _, rfl, heap_alloc_new _ _, by simp⟩
 case stepL =>
  intro ii hii hl a w1 w9 v lo hi' hoth hb0 hbk hsz hw
  have hb := BlkB.of hb0 hbk hsz
  have sl1 : a.tmps[1]? = some (.slice (some ⟨b, o, none⟩) 2 c) := (hoth 1 (fun j hj => ne_getD 1 _ (by decide) j hj)).trans rfl
  match ii, hii with
  | 0, _ => exact absurd hl (by decide)
  | 1, _ => exact absurd hl (by decide)
  | 2, _ => exact absurd hl (by decide)
  | 3, _ => exact absurd hl (by decide)
  | 4, _ =>
   exact gw_move rfl (wanted_plain rfl) 1 _ rfl sl1 ⟨_, _, rfl, .inl ⟨rfl, rfl⟩, rfl⟩
  | 5, _ =>
   obtain ⟨s0, r0⟩ := hw 4 (by omega) (by kernel_rfl)
   have e0 : v 4 = .slice (some ⟨b, o, none⟩) 2 c := r0
   rw [e0] at s0
   replace s0 : a.tmps[13]? = some (.slice (some ⟨b, o, none⟩) 2 c) := s0
   refine wpOp_step rfl fun K' hK' => ?_
   rw [if_pos (wanted_plain rfl)]
   unfold Oper.wp
   simp only [execOp]
   go_simp
   exact hK' _ _ ⟨_, _, rfl, .inl ⟨rfl, rfl⟩, rfl⟩
  | 6, _ =>
   obtain ⟨s0, r0⟩ := hw 5 (by omega) (by kernel_rfl)
   have e0 : v 5 = .pointer (some ⟨b, o + 2, none⟩) := r0
   rw [e0] at s0
   replace s0 : a.tmps[14]? = some (.pointer (some ⟨b, o + 2, none⟩)) := s0
   have cc0 := (hb.cell (p := ⟨b, o + 2, none⟩) HLB.out).trans C2.out
   have cc1 := (hb.cell (p := ⟨b, o + 3, none⟩) HLB.out).trans C3.out
   refine wpOp_step rfl fun K' hK' => ?_
   rw [if_pos (wanted_plain rfl)]
   unfold Oper.wp
   simp only [execOp]
   go_simp
   exact hK' _ _ ⟨_, _, rfl, .inl ⟨rfl, rfl⟩, rfl⟩
  | 7, _ => exact absurd hl (by decide)
  | 8, _ => exact absurd hl (by decide)
  | 9, _ => exact absurd hl (by decide)
 case done =>
  intro a w9 v lo hi' css hdef hsz hoth hb hj hap hbx hvs
  obtain ⟨hv8, hbx0⟩ := hbx 0 (by omega)
  obtain ⟨hv3, ho0⟩ := hvs 0 (by omega)
  change v 8 = _ at hv8
  change v 3 = _ at hv3
  obtain ⟨_, hv7, _, _⟩ := hj 7 (by omega)
  change v 7 = _ at hv7
  obtain ⟨_, ⟨hv8b, hbx8, hlt8⟩, hlo8, hhi8⟩ := hj 8 (by omega)
  obtain ⟨_, ⟨hv9, hbx9, hlt9⟩, hlo9, hhi9⟩ := hj 9 (by omega)
  have ha := eq_puts hdef hsz hoth (fun i hi => (hj i hi).1)
  subst ha
  have hc0 : css 0 = [.int .i64 1, .string X.1, .string X.2, .int .i64 0, .string ⟨#[]⟩, .string ⟨#[]⟩, .string ⟨#[]⟩, .string ⟨#[]⟩, .string ⟨#[]⟩, .slice none 0 0, .slice none 0 0] := vTm_inj (hv3.symm.trans (hj 3 (by omega)).2.1)
  clear hj hoth hdef hsz
  simp only [puts, List.getD_cons_zero, List.getD_cons_succ, hv8, hv3, hv7, hv9]
  generalize v 0 = v0
  generalize v 1 = v1
  generalize v 2 = v2
  generalize v 4 = v4
  generalize v 5 = v5
  generalize v 6 = v6
  simp only [Act.put, List.setIfInBounds_toArray, List.set_cons_zero, List.set_cons_succ]
  show wpList _ _ _ [_] _ _
  have hW : stW (stT lo (fun s => [8].getD s 0) css) w9 1 = w9.setRow (lo 8) (css 0).toArray := rfl
  rw [hW, hc0]
  have hap8 := hap 8 9 (by omega) (by omega) (by omega)
  have hne8 : lo 8 ≠ lo 9 := by omega
  have hs1 := HB.out.size
  have glx : w1.heap.size ≤ lo 8 := hlo8
  have glz : w1.heap.size ≤ lo 9 := hlo9
  change TB w9 (lo 8) zT at hbx0
  clear hap hv8b ho0
  generalize lo 8 = gx at *
  generalize lo 9 = gz at *
  have T1 : Hid (TB (w9.setRow gx [.int .i64 1, .string X.1, .string X.2, .int .i64 0, .string ⟨#[]⟩, .string ⟨#[]⟩, .string ⟨#[]⟩, .string ⟨#[]⟩, .string ⟨#[]⟩, .slice none 0 0, .slice none 0 0].toArray) gx [.int .i64 1, .string X.1, .string X.2, .int .i64 0, .string ⟨#[]⟩, .string ⟨#[]⟩, .string ⟨#[]⟩, .string ⟨#[]⟩, .string ⟨#[]⟩, .slice none 0 0, .slice none 0 0]) := hbx0.set _
  have T2 : Hid (TB (w9.setRow gx [.int .i64 1, .string X.1, .string X.2, .int .i64 0, .string ⟨#[]⟩, .string ⟨#[]⟩, .string ⟨#[]⟩, .string ⟨#[]⟩, .string ⟨#[]⟩, .slice none 0 0, .slice none 0 0].toArray) gz zT) := hbx9.other (fun e => hne8 e.symm)
  have hbX : Below w1.heap.size w1 ((w9.setRow gx [.int .i64 1, .string X.1, .string X.2, .int .i64 0, .string ⟨#[]⟩, .string ⟨#[]⟩, .string ⟨#[]⟩, .string ⟨#[]⟩, .string ⟨#[]⟩, .slice none 0 0, .slice none 0 0].toArray).setRow gz [.int .i64 1, .string Z.1, .string Z.2, .int .i64 0, .string ⟨#[]⟩, .string ⟨#[]⟩, .string ⟨#[]⟩, .string ⟨#[]⟩, .string ⟨#[]⟩, .slice none 0 0, .slice none 0 0].toArray) := below_setRowO (below_setRowO hb glx _) glz _
  have BX : Hid (TB ((w9.setRow gx [.int .i64 1, .string X.1, .string X.2, .int .i64 0, .string ⟨#[]⟩, .string ⟨#[]⟩, .string ⟨#[]⟩, .string ⟨#[]⟩, .string ⟨#[]⟩, .slice none 0 0, .slice none 0 0].toArray).setRow gz [.int .i64 1, .string Z.1, .string Z.2, .int .i64 0, .string ⟨#[]⟩, .string ⟨#[]⟩, .string ⟨#[]⟩, .string ⟨#[]⟩, .string ⟨#[]⟩, .slice none 0 0, .slice none 0 0].toArray) gx [.int .i64 1, .string X.1, .string X.2, .int .i64 0, .string ⟨#[]⟩, .string ⟨#[]⟩, .string ⟨#[]⟩, .string ⟨#[]⟩, .string ⟨#[]⟩, .slice none 0 0, .slice none 0 0]) := T1.out.other hne8
  have BZ : Hid (TB ((w9.setRow gx [.int .i64 1, .string X.1, .string X.2, .int .i64 0, .string ⟨#[]⟩, .string ⟨#[]⟩, .string ⟨#[]⟩, .string ⟨#[]⟩, .string ⟨#[]⟩, .slice none 0 0, .slice none 0 0].toArray).setRow gz [.int .i64 1, .string Z.1, .string Z.2, .int .i64 0, .string ⟨#[]⟩, .string ⟨#[]⟩, .string ⟨#[]⟩, .string ⟨#[]⟩, .string ⟨#[]⟩, .slice none 0 0, .slice none 0 0].toArray) gz [.int .i64 1, .string Z.1, .string Z.2, .int .i64 0, .string ⟨#[]⟩, .string ⟨#[]⟩, .string ⟨#[]⟩, .string ⟨#[]⟩, .string ⟨#[]⟩, .slice none 0 0, .slice none 0 0]) := T2.out.set _
  have HB2 : Hid (Below w1.heap.size w1 ((w9.setRow gx [.int .i64 1, .string X.1, .string X.2, .int .i64 0, .string ⟨#[]⟩, .string ⟨#[]⟩, .string ⟨#[]⟩, .string ⟨#[]⟩, .string ⟨#[]⟩, .slice none 0 0, .slice none 0 0].toArray).setRow gz [.int .i64 1, .string Z.1, .string Z.2, .int .i64 0, .string ⟨#[]⟩, .string ⟨#[]⟩, .string ⟨#[]⟩, .string ⟨#[]⟩, .string ⟨#[]⟩, .slice none 0 0, .slice none 0 0].toArray)) := hbX
  clear hap8 hbx0 hbx8 hbx9 hlt8 hlt9 hhi8 hhi9 hlo8 hlo9 hb hbX hc0 hW T1
  go_wp2_with ((with_reducible refine storeTb (cs := [.int .i64 1, .string Z.1, .string Z.2, .int .i64 0, .string ⟨#[]⟩, .string ⟨#[]⟩, .string ⟨#[]⟩, .string ⟨#[]⟩, .string ⟨#[]⟩, .slice none 0 0, .slice none 0 0]) (.tmp 3) (.tmp 16) ?_ ?_ ?_ ?_ T2.out ?_ ?_ ?_ ?_); rfl; rfl; rfl; rfl; rfl; rfl; exact (by simp [Value.oneCell']))
  clear T2
  generalize (w9.setRow gx [.int .i64 1, .string X.1, .string X.2, .int .i64 0, .string ⟨#[]⟩, .string ⟨#[]⟩, .string ⟨#[]⟩, .string ⟨#[]⟩, .string ⟨#[]⟩, .slice none 0 0, .slice none 0 0].toArray).setRow gz [.int .i64 1, .string Z.1, .string Z.2, .int .i64 0, .string ⟨#[]⟩, .string ⟨#[]⟩, .string ⟨#[]⟩, .string ⟨#[]⟩, .string ⟨#[]⟩, .slice none 0 0, .slice none 0 0].toArray = X2 at *
  have HWW : Hid (w.heap.size ≤ X2.heap.size) := Nat.le_trans hs1 HB2.out.size
  have HBW : Hid (Below w.heap.size w X2) := HB.out.trans (HB2.out.mono hs1)
  replace C0 := hI ((HB2.out.cell (p := ⟨b, o, none⟩) HLB.out).trans C0.out)
  replace C1 := hI ((HB2.out.cell (p := ⟨b, o + 1, none⟩) HLB.out).trans C1.out)
  replace C2 := hI ((HB2.out.cell (p := ⟨b, o + 2, none⟩) HLB.out).trans C2.out)
  replace C3 := hI ((HB2.out.cell (p := ⟨b, o + 3, none⟩) HLB.out).trans C3.out)
  replace HLB := hI (Nat.lt_of_lt_of_le HLB.out HB2.out.size)
  have HGX : Hid (w.heap.size ≤ gx) := Nat.le_trans hs1 glx
  have HGZ : Hid (w.heap.size ≤ gz) := Nat.le_trans hs1 glz
  have HNE := hI hne8
  clear HB2 HB glx glz hs1 hne8
  refine wp_region_grow (l := _) 6 (by kernel_rfl) (by kernel_rfl) (fun i => [17, 18, 19, 20, 21, 4].getD i 0) (LR [LV (.agg #[.string (uN ⟨#[102]⟩).1, .string (uN ⟨#[102]⟩).2]), LV (.agg #[.int .i64 1, .string X.1, .string X.2, .int .i64 0, .string ⟨#[]⟩, .string ⟨#[]⟩, .string ⟨#[]⟩, .string ⟨#[]⟩, .string ⟨#[]⟩, .slice none 0 0, .slice none 0 0]), LV (.agg #[.int .i64 1, .string Z.1, .string Z.2, .int .i64 0, .string ⟨#[]⟩, .string ⟨#[]⟩, .string ⟨#[]⟩, .string ⟨#[]⟩, .string ⟨#[]⟩, .slice none 0 0, .slice none 0 0]), LT2 X Z, LTm w NoB (.app (uN ⟨#[102]⟩) [.var X, .var Z]), LTx]) (LR_mono ⟨mLV _, mLV _, mLV _, mLT2 X Z, mLTm (NoB.in _) _, mLTx, trivial⟩) (by
   intro i j hi hj h
   exact inj_getD [17, 18, 19, 20, 21, 4] (by decide) i j hi hj h) (by
   intro i hi
   exact lt_getD 68 [17, 18, 19, 20, 21, 4] (by decide) i hi) ?step ?done
  case step =>
   intro ii hii a w9 v lo hi' hoth hb hw
   have sl2 : a.tmps[2]? = some (.pointer (some ⟨gx, 0, none⟩)) := (hoth 2 (fun j hj => ne_getD 2 _ (by decide) j hj)).trans rfl
   have sl3 : a.tmps[3]? = some (.pointer (some ⟨gz, 0, none⟩)) := (hoth 3 (fun j hj => ne_getD 3 _ (by decide) j hj)).trans rfl
   match ii, hii with
   | 0, _ =>
    refine gw_c rfl (wanted_plain rfl) 51  _ _ rfl (fun v w => by go_simp)  ?_
    with_reducible refine (userO ⟨#[102]⟩ w9).mono ?_
    rintro e w3 ⟨rfl, hb3⟩
    exact ⟨_, rfl, _, rfl, hb3, rfl⟩
   | 1, _ =>
    have cx0 := (hb.cell (p := ⟨gx, 0 + 0, none⟩) BX.out.lt).trans (BX.out.cell 0 _ rfl)
    have cx1 := (hb.cell (p := ⟨gx, 0 + 1, none⟩) BX.out.lt).trans (BX.out.cell 1 _ rfl)
    have cx2 := (hb.cell (p := ⟨gx, 0 + 2, none⟩) BX.out.lt).trans (BX.out.cell 2 _ rfl)
    have cx3 := (hb.cell (p := ⟨gx, 0 + 3, none⟩) BX.out.lt).trans (BX.out.cell 3 _ rfl)
    have cx4 := (hb.cell (p := ⟨gx, 0 + 4, none⟩) BX.out.lt).trans (BX.out.cell 4 _ rfl)
    have cx5 := (hb.cell (p := ⟨gx, 0 + 5, none⟩) BX.out.lt).trans (BX.out.cell 5 _ rfl)
    have cx6 := (hb.cell (p := ⟨gx, 0 + 6, none⟩) BX.out.lt).trans (BX.out.cell 6 _ rfl)
    have cx7 := (hb.cell (p := ⟨gx, 0 + 7, none⟩) BX.out.lt).trans (BX.out.cell 7 _ rfl)
    have cx8 := (hb.cell (p := ⟨gx, 0 + 8, none⟩) BX.out.lt).trans (BX.out.cell 8 _ rfl)
    have cx9 := (hb.cell (p := ⟨gx, 0 + 9, none⟩) BX.out.lt).trans (BX.out.cell 9 _ rfl)
    have cx10 := (hb.cell (p := ⟨gx, 0 + 10, none⟩) BX.out.lt).trans (BX.out.cell 10 _ rfl)
    refine wpOp_step rfl fun K' hK' => ?_
    rw [if_pos (wanted_plain rfl)]
    unfold Oper.wp
    simp only [execOp]
    go_simp
    exact hK' _ _ ⟨_, rfl, Below.refl _ _, rfl⟩
   | 2, _ =>
    have cz0 := (hb.cell (p := ⟨gz, 0 + 0, none⟩) BZ.out.lt).trans (BZ.out.cell 0 _ rfl)
    have cz1 := (hb.cell (p := ⟨gz, 0 + 1, none⟩) BZ.out.lt).trans (BZ.out.cell 1 _ rfl)
    have cz2 := (hb.cell (p := ⟨gz, 0 + 2, none⟩) BZ.out.lt).trans (BZ.out.cell 2 _ rfl)
    have cz3 := (hb.cell (p := ⟨gz, 0 + 3, none⟩) BZ.out.lt).trans (BZ.out.cell 3 _ rfl)
    have cz4 := (hb.cell (p := ⟨gz, 0 + 4, none⟩) BZ.out.lt).trans (BZ.out.cell 4 _ rfl)
    have cz5 := (hb.cell (p := ⟨gz, 0 + 5, none⟩) BZ.out.lt).trans (BZ.out.cell 5 _ rfl)
    have cz6 := (hb.cell (p := ⟨gz, 0 + 6, none⟩) BZ.out.lt).trans (BZ.out.cell 6 _ rfl)
    have cz7 := (hb.cell (p := ⟨gz, 0 + 7, none⟩) BZ.out.lt).trans (BZ.out.cell 7 _ rfl)
    have cz8 := (hb.cell (p := ⟨gz, 0 + 8, none⟩) BZ.out.lt).trans (BZ.out.cell 8 _ rfl)
    have cz9 := (hb.cell (p := ⟨gz, 0 + 9, none⟩) BZ.out.lt).trans (BZ.out.cell 9 _ rfl)
    have cz10 := (hb.cell (p := ⟨gz, 0 + 10, none⟩) BZ.out.lt).trans (BZ.out.cell 10 _ rfl)
    refine wpOp_step rfl fun K' hK' => ?_
    rw [if_pos (wanted_plain rfl)]
    unfold Oper.wp
    simp only [execOp]
    go_simp
    exact hK' _ _ ⟨_, rfl, Below.refl _ _, rfl⟩
   | 3, _ =>
    obtain ⟨s0, r0, _⟩ := hw 1 (by omega) (by kernel_rfl)
    have e0 : v 1 = .agg #[.int .i64 1, .string X.1, .string X.2, .int .i64 0, .string ⟨#[]⟩, .string ⟨#[]⟩, .string ⟨#[]⟩, .string ⟨#[]⟩, .string ⟨#[]⟩, .slice none 0 0, .slice none 0 0] := r0
    rw [e0] at s0
    replace s0 : a.tmps[18]? = some (.agg #[.int .i64 1, .string X.1, .string X.2, .int .i64 0, .string ⟨#[]⟩, .string ⟨#[]⟩, .string ⟨#[]⟩, .string ⟨#[]⟩, .string ⟨#[]⟩, .slice none 0 0, .slice none 0 0]) := s0
    obtain ⟨s1, r1, _⟩ := hw 2 (by omega) (by kernel_rfl)
    have e1 : v 2 = .agg #[.int .i64 1, .string Z.1, .string Z.2, .int .i64 0, .string ⟨#[]⟩, .string ⟨#[]⟩, .string ⟨#[]⟩, .string ⟨#[]⟩, .string ⟨#[]⟩, .slice none 0 0, .slice none 0 0] := r1
    rw [e1] at s1
    replace s1 : a.tmps[19]? = some (.agg #[.int .i64 1, .string Z.1, .string Z.2, .int .i64 0, .string ⟨#[]⟩, .string ⟨#[]⟩, .string ⟨#[]⟩, .string ⟨#[]⟩, .string ⟨#[]⟩, .slice none 0 0, .slice none 0 0]) := s1
    refine wpOp_step rfl fun K' hK' => ?_
    rw [if_pos (wanted_plain rfl)]
    unfold Oper.wp
    simp only [execOp]
    go_simp
    exact hK' _ _ ⟨_, rfl, below_alT _ _, rfl, heap_alloc_new _ _, by simp⟩
   | 4, _ =>
    obtain ⟨s0, r0, _⟩ := hw 0 (by omega) (by kernel_rfl)
    have e0 : v 0 = .agg #[.string (uN ⟨#[102]⟩).1, .string (uN ⟨#[102]⟩).2] := r0
    rw [e0] at s0
    replace s0 : a.tmps[17]? = some (.agg #[.string (uN ⟨#[102]⟩).1, .string (uN ⟨#[102]⟩).2]) := s0
    obtain ⟨s1, r1, b1⟩ := hw 3 (by omega) (by kernel_rfl)
    obtain ⟨e1, hr1, hl1⟩ := r1
    rw [e1] at s1
    have hww := HWW.out
    have hbs := hb.size
    have CC := appP (uN ⟨#[102]⟩) [.var X, .var Z] (.slice (some ⟨lo 3, 0, none⟩) 2 2) w9 (Upto w w9 NoB) ((NoB.in w).upto (by omega)) ((ts2 hr1).more fun b hb0 => .inr ⟨by omega, by omega⟩) (by show 2 ≤ 3000; decide)
    refine gw_tt rfl (wanted_plain rfl) 27 17 20 _ _ _ rfl (fun v u w => by go_simp) s0 s1 ?_
    with_reducible refine (CC).mono ?_
    rintro e w3 ⟨cs3, rfl, h3, hb3⟩
    exact ⟨_, rfl, _, rfl, hb3, by have := hb3.size; omega, cs3, rfl, h3.more (fun b hb0 => upto_two (by omega) hb3.size b hb0)⟩
   | 5, _ =>
    refine wpOp_step rfl fun K' hK' => ?_
    rw [if_pos (wanted_plain rfl)]
    unfold Oper.wp
    simp only [execOp]
    go_simp
    exact hK' _ _ ⟨_, rfl, below_alT _ _, rfl, heap_alloc_new _ _, by simp⟩
  case done =>
   intro a w9 v lo hi' hdef hsz hoth hb hj hap
   obtain ⟨_, ⟨hz4, cst, hv4, ht4⟩, hlo4, hhi4⟩ := hj 4 (by omega)
   obtain ⟨_, ⟨hv5, hbx5, hlt5⟩, hlo5, hhi5⟩ := hj 5 (by omega)
   have ha := eq_puts hdef hsz hoth (fun i hi => (hj i hi).1)
   subst ha
   clear hj hoth hdef hsz hap
   simp only [puts, List.getD_cons_zero, List.getD_cons_succ, hv4, hv5]
   generalize v 0 = v0
   generalize v 1 = v1
   generalize v 2 = v2
   generalize v 3 = v3
   clear hv4 hv5
   simp only [Act.put, List.setIfInBounds_toArray, List.set_cons_zero, List.set_cons_succ]
   show wpList _ _ _ [_] _ _
   have HB9 := hI hb
   have glt : X2.heap.size ≤ lo 5 := hlo5
   generalize lo 5 = gt at *
   have h3 := ht4
   unfold TmAt at ht4
   obtain ⟨A2, c2, ecs, hlc4, _⟩ := ht4
   have ecs2 : cst = [.int .i64 3, .string (uN ⟨#[102]⟩).1, .string (uN ⟨#[102]⟩).2, .int .i64 0, .string ⟨#[]⟩, .string ⟨#[]⟩, .string ⟨#[]⟩, .string ⟨#[]⟩, .string ⟨#[]⟩, .slice none 0 0, .slice A2 2 c2] := ecs
   subst ecs2
   have BX9 := hI (BX.out.keep hb)
   have BZ9 := hI (BZ.out.keep hb)
   have B5 := hI hbx5
   have HT : Hid (TmAt (w9.setRow gt [.int .i64 3, .string (uN ⟨#[102]⟩).1, .string (uN ⟨#[102]⟩).2, .int .i64 0, .string ⟨#[]⟩, .string ⟨#[]⟩, .string ⟨#[]⟩, .string ⟨#[]⟩, .string ⟨#[]⟩, .slice none 0 0, .slice A2 2 c2].toArray) (Upto w (w9.setRow gt [.int .i64 3, .string (uN ⟨#[102]⟩).1, .string (uN ⟨#[102]⟩).2, .int .i64 0, .string ⟨#[]⟩, .string ⟨#[]⟩, .string ⟨#[]⟩, .string ⟨#[]⟩, .string ⟨#[]⟩, .slice none 0 0, .slice A2 2 c2].toArray) NoB) (.app (uN ⟨#[102]⟩) [.var X, .var Z]) [.int .i64 3, .string (uN ⟨#[102]⟩).1, .string (uN ⟨#[102]⟩).2, .int .i64 0, .string ⟨#[]⟩, .string ⟨#[]⟩, .string ⟨#[]⟩, .string ⟨#[]⟩, .string ⟨#[]⟩, .slice none 0 0, .slice A2 2 c2]) := TmAt.boxed h3 hbx5.nb _
   have BT : Hid (TB (w9.setRow gt [.int .i64 3, .string (uN ⟨#[102]⟩).1, .string (uN ⟨#[102]⟩).2, .int .i64 0, .string ⟨#[]⟩, .string ⟨#[]⟩, .string ⟨#[]⟩, .string ⟨#[]⟩, .string ⟨#[]⟩, .slice none 0 0, .slice A2 2 c2].toArray) gt [.int .i64 3, .string (uN ⟨#[102]⟩).1, .string (uN ⟨#[102]⟩).2, .int .i64 0, .string ⟨#[]⟩, .string ⟨#[]⟩, .string ⟨#[]⟩, .string ⟨#[]⟩, .string ⟨#[]⟩, .slice none 0 0, .slice A2 2 c2]) := hbx5.set _
   have BX3 : Hid (TB (w9.setRow gt [.int .i64 3, .string (uN ⟨#[102]⟩).1, .string (uN ⟨#[102]⟩).2, .int .i64 0, .string ⟨#[]⟩, .string ⟨#[]⟩, .string ⟨#[]⟩, .string ⟨#[]⟩, .string ⟨#[]⟩, .slice none 0 0, .slice A2 2 c2].toArray) gx [.int .i64 1, .string X.1, .string X.2, .int .i64 0, .string ⟨#[]⟩, .string ⟨#[]⟩, .string ⟨#[]⟩, .string ⟨#[]⟩, .string ⟨#[]⟩, .slice none 0 0, .slice none 0 0]) := BX9.out.other (fun e => by have := BX.out.lt; omega)
   have BZ3 : Hid (TB (w9.setRow gt [.int .i64 3, .string (uN ⟨#[102]⟩).1, .string (uN ⟨#[102]⟩).2, .int .i64 0, .string ⟨#[]⟩, .string ⟨#[]⟩, .string ⟨#[]⟩, .string ⟨#[]⟩, .string ⟨#[]⟩, .slice none 0 0, .slice A2 2 c2].toArray) gz [.int .i64 1, .string Z.1, .string Z.2, .int .i64 0, .string ⟨#[]⟩, .string ⟨#[]⟩, .string ⟨#[]⟩, .string ⟨#[]⟩, .string ⟨#[]⟩, .slice none 0 0, .slice none 0 0]) := BZ9.out.other (fun e => by have := BZ.out.lt; omega)
   have HB3 : Hid (Below X2.heap.size X2 (w9.setRow gt [.int .i64 3, .string (uN ⟨#[102]⟩).1, .string (uN ⟨#[102]⟩).2, .int .i64 0, .string ⟨#[]⟩, .string ⟨#[]⟩, .string ⟨#[]⟩, .string ⟨#[]⟩, .string ⟨#[]⟩, .slice none 0 0, .slice A2 2 c2].toArray)) := below_setRowO hb glt _
   have ONE3 := hI h3.o11
   clear h3 hb hbx5 hlt5 hlo5 hhi5 hlo4 hhi4 hz4 ecs hlc4 BX9 BZ9 HB9
   go_wp2_with ((with_reducible refine storeTb (cs := [.int .i64 3, .string (uN ⟨#[102]⟩).1, .string (uN ⟨#[102]⟩).2, .int .i64 0, .string ⟨#[]⟩, .string ⟨#[]⟩, .string ⟨#[]⟩, .string ⟨#[]⟩, .string ⟨#[]⟩, .slice none 0 0, .slice A2 2 c2]) (.tmp 4) (.tmp 21) ?_ ?_ ?_ ?_ B5.out ?_ ?_ ?_ ?_); rfl; rfl; rfl; rfl; rfl; rfl; exact ONE3.out.2)
   generalize w9.setRow gt [.int .i64 3, .string (uN ⟨#[102]⟩).1, .string (uN ⟨#[102]⟩).2, .int .i64 0, .string ⟨#[]⟩, .string ⟨#[]⟩, .string ⟨#[]⟩, .string ⟨#[]⟩, .string ⟨#[]⟩, .slice none 0 0, .slice A2 2 c2].toArray = X3 at *
   replace C0 := hI ((HB3.out.cell (p := ⟨b, o, none⟩) HLB.out).trans C0.out)
   replace C1 := hI ((HB3.out.cell (p := ⟨b, o + 1, none⟩) HLB.out).trans C1.out)
   replace C2 := hI ((HB3.out.cell (p := ⟨b, o + 2, none⟩) HLB.out).trans C2.out)
   replace C3 := hI ((HB3.out.cell (p := ⟨b, o + 3, none⟩) HLB.out).trans C3.out)
   replace HLB := hI (Nat.lt_of_lt_of_le HLB.out HB3.out.size)
   replace HBW : Hid (Below w.heap.size w X3) := HBW.out.trans (HB3.out.mono HWW.out)
   have HGT : Hid (w.heap.size ≤ gt) := Nat.le_trans HWW.out glt
   replace HWW : Hid (w.heap.size ≤ X3.heap.size) := HBW.out.size
   replace BX := BX3
   replace BZ := BZ3
   clear BX3 BZ3 HB3 glt B5
   refine wp_region_grow (l := _) 14 (by kernel_rfl) (by kernel_rfl) (fun i => [22, 23, 24, 25, 26, 27, 28, 29, 30, 31, 32, 33, 34, 5].getD i 0) (LR [LV (.agg #[.int .i64 3, .string (uN ⟨#[102]⟩).1, .string (uN ⟨#[102]⟩).2, .int .i64 0, .string ⟨#[]⟩, .string ⟨#[]⟩, .string ⟨#[]⟩, .string ⟨#[]⟩, .string ⟨#[]⟩, .slice none 0 0, .slice A2 2 c2]), LV (.slice (some ⟨b, o, none⟩) 2 c), LV (.pointer (some ⟨b, o, none⟩)), LV (.agg #[.string X.1, .string X.2]), LV (.agg #[.int .i64 1, .string Z.1, .string Z.2, .int .i64 0, .string ⟨#[]⟩, .string ⟨#[]⟩, .string ⟨#[]⟩, .string ⟨#[]⟩, .string ⟨#[]⟩, .slice none 0 0, .slice none 0 0]), LV (.agg #[.string X.1, .string X.2, .int .i64 1, .string Z.1, .string Z.2, .int .i64 0, .string ⟨#[]⟩, .string ⟨#[]⟩, .string ⟨#[]⟩, .string ⟨#[]⟩, .string ⟨#[]⟩, .slice none 0 0, .slice none 0 0]), LV (.slice (some ⟨b, o, none⟩) 2 c), LV (.pointer (some ⟨b, o + 2, none⟩)), LV (.agg #[.string Z.1, .string Z.2]), LV (.agg #[.int .i64 1, .string X.1, .string X.2, .int .i64 0, .string ⟨#[]⟩, .string ⟨#[]⟩, .string ⟨#[]⟩, .string ⟨#[]⟩, .string ⟨#[]⟩, .slice none 0 0, .slice none 0 0]), LV (.agg #[.string Z.1, .string Z.2, .int .i64 1, .string X.1, .string X.2, .int .i64 0, .string ⟨#[]⟩, .string ⟨#[]⟩, .string ⟨#[]⟩, .string ⟨#[]⟩, .string ⟨#[]⟩, .slice none 0 0, .slice none 0 0]), LA2 X Z, LTm w NoB (subT [(X, .var Z), (Z, .var X)] (.app (uN ⟨#[102]⟩) [.var X, .var Z])), LTx]) (LR_mono ⟨mLV _, mLV _, mLV _, mLV _, mLV _, mLV _, mLV _, mLV _, mLV _, mLV _, mLV _, mLA2 X Z, mLTm (NoB.in _) _, mLTx, trivial⟩) (by
    intro i j hi hj h
    exact inj_getD [22, 23, 24, 25, 26, 27, 28, 29, 30, 31, 32, 33, 34, 5] (by decide) i j hi hj h) (by
    intro i hi
    exact lt_getD 68 [22, 23, 24, 25, 26, 27, 28, 29, 30, 31, 32, 33, 34, 5] (by decide) i hi) ?step ?done
   case step =>
    intro ii hii a w9 v lo hi' hoth hb hw
    have sl1 : a.tmps[1]? = some (.slice (some ⟨b, o, none⟩) 2 c) := (hoth 1 (fun j hj => ne_getD 1 _ (by decide) j hj)).trans rfl
    have sl2 : a.tmps[2]? = some (.pointer (some ⟨gx, 0, none⟩)) := (hoth 2 (fun j hj => ne_getD 2 _ (by decide) j hj)).trans rfl
    have sl3 : a.tmps[3]? = some (.pointer (some ⟨gz, 0, none⟩)) := (hoth 3 (fun j hj => ne_getD 3 _ (by decide) j hj)).trans rfl
    have sl4 : a.tmps[4]? = some (.pointer (some ⟨gt, 0, none⟩)) := (hoth 4 (fun j hj => ne_getD 4 _ (by decide) j hj)).trans rfl
    match ii, hii with
    | 0, _ =>
     have ct0 := (hb.cell (p := ⟨gt, 0 + 0, none⟩) BT.out.lt).trans (BT.out.cell 0 _ rfl)
     have ct1 := (hb.cell (p := ⟨gt, 0 + 1, none⟩) BT.out.lt).trans (BT.out.cell 1 _ rfl)
     have ct2 := (hb.cell (p := ⟨gt, 0 + 2, none⟩) BT.out.lt).trans (BT.out.cell 2 _ rfl)
     have ct3 := (hb.cell (p := ⟨gt, 0 + 3, none⟩) BT.out.lt).trans (BT.out.cell 3 _ rfl)
     have ct4 := (hb.cell (p := ⟨gt, 0 + 4, none⟩) BT.out.lt).trans (BT.out.cell 4 _ rfl)
     have ct5 := (hb.cell (p := ⟨gt, 0 + 5, none⟩) BT.out.lt).trans (BT.out.cell 5 _ rfl)
     have ct6 := (hb.cell (p := ⟨gt, 0 + 6, none⟩) BT.out.lt).trans (BT.out.cell 6 _ rfl)
     have ct7 := (hb.cell (p := ⟨gt, 0 + 7, none⟩) BT.out.lt).trans (BT.out.cell 7 _ rfl)
     have ct8 := (hb.cell (p := ⟨gt, 0 + 8, none⟩) BT.out.lt).trans (BT.out.cell 8 _ rfl)
     have ct9 := (hb.cell (p := ⟨gt, 0 + 9, none⟩) BT.out.lt).trans (BT.out.cell 9 _ rfl)
     have ct10 := (hb.cell (p := ⟨gt, 0 + 10, none⟩) BT.out.lt).trans (BT.out.cell 10 _ rfl)
     refine wpOp_step rfl fun K' hK' => ?_
     rw [if_pos (wanted_plain rfl)]
     unfold Oper.wp
     simp only [execOp]
     go_simp
     exact hK' _ _ ⟨_, rfl, Below.refl _ _, rfl⟩
    | 1, _ =>
     exact gw_move rfl (wanted_plain rfl) 1 _ rfl sl1 ⟨_, rfl, Below.refl _ _, rfl⟩
    | 2, _ =>
     obtain ⟨s0, r0, _⟩ := hw 1 (by omega) (by kernel_rfl)
     have e0 : v 1 = .slice (some ⟨b, o, none⟩) 2 c := r0
     rw [e0] at s0
     replace s0 : a.tmps[23]? = some (.slice (some ⟨b, o, none⟩) 2 c) := s0
     refine wpOp_step rfl fun K' hK' => ?_
     rw [if_pos (wanted_plain rfl)]
     unfold Oper.wp
     simp only [execOp]
     go_simp
     exact hK' _ _ ⟨_, rfl, Below.refl _ _, rfl⟩
    | 3, _ =>
     obtain ⟨s0, r0, _⟩ := hw 2 (by omega) (by kernel_rfl)
     have e0 : v 2 = .pointer (some ⟨b, o, none⟩) := r0
     rw [e0] at s0
     replace s0 : a.tmps[24]? = some (.pointer (some ⟨b, o, none⟩)) := s0
     have cc0 := (hb.cell (p := ⟨b, o, none⟩) HLB.out).trans C0.out
     have cc1 := (hb.cell (p := ⟨b, o + 1, none⟩) HLB.out).trans C1.out
     refine wpOp_step rfl fun K' hK' => ?_
     rw [if_pos (wanted_plain rfl)]
     unfold Oper.wp
     simp only [execOp]
     go_simp
     exact hK' _ _ ⟨_, rfl, Below.refl _ _, rfl⟩
    | 4, _ =>
     have cz0 := (hb.cell (p := ⟨gz, 0 + 0, none⟩) BZ.out.lt).trans (BZ.out.cell 0 _ rfl)
     have cz1 := (hb.cell (p := ⟨gz, 0 + 1, none⟩) BZ.out.lt).trans (BZ.out.cell 1 _ rfl)
     have cz2 := (hb.cell (p := ⟨gz, 0 + 2, none⟩) BZ.out.lt).trans (BZ.out.cell 2 _ rfl)
     have cz3 := (hb.cell (p := ⟨gz, 0 + 3, none⟩) BZ.out.lt).trans (BZ.out.cell 3 _ rfl)
     have cz4 := (hb.cell (p := ⟨gz, 0 + 4, none⟩) BZ.out.lt).trans (BZ.out.cell 4 _ rfl)
     have cz5 := (hb.cell (p := ⟨gz, 0 + 5, none⟩) BZ.out.lt).trans (BZ.out.cell 5 _ rfl)
     have cz6 := (hb.cell (p := ⟨gz, 0 + 6, none⟩) BZ.out.lt).trans (BZ.out.cell 6 _ rfl)
     have cz7 := (hb.cell (p := ⟨gz, 0 + 7, none⟩) BZ.out.lt).trans (BZ.out.cell 7 _ rfl)
     have cz8 := (hb.cell (p := ⟨gz, 0 + 8, none⟩) BZ.out.lt).trans (BZ.out.cell 8 _ rfl)
     have cz9 := (hb.cell (p := ⟨gz, 0 + 9, none⟩) BZ.out.lt).trans (BZ.out.cell 9 _ rfl)
     have cz10 := (hb.cell (p := ⟨gz, 0 + 10, none⟩) BZ.out.lt).trans (BZ.out.cell 10 _ rfl)
     refine wpOp_step rfl fun K' hK' => ?_
     rw [if_pos (wanted_plain rfl)]
     unfold Oper.wp
     simp only [execOp]
     go_simp
     exact hK' _ _ ⟨_, rfl, Below.refl _ _, rfl⟩
    | 5, _ =>
     obtain ⟨s0, r0, _⟩ := hw 3 (by omega) (by kernel_rfl)
     have e0 : v 3 = .agg #[.string X.1, .string X.2] := r0
     rw [e0] at s0
     replace s0 : a.tmps[25]? = some (.agg #[.string X.1, .string X.2]) := s0
     obtain ⟨s1, r1, _⟩ := hw 4 (by omega) (by kernel_rfl)
     have e1 : v 4 = .agg #[.int .i64 1, .string Z.1, .string Z.2, .int .i64 0, .string ⟨#[]⟩, .string ⟨#[]⟩, .string ⟨#[]⟩, .string ⟨#[]⟩, .string ⟨#[]⟩, .slice none 0 0, .slice none 0 0] := r1
     rw [e1] at s1
     replace s1 : a.tmps[26]? = some (.agg #[.int .i64 1, .string Z.1, .string Z.2, .int .i64 0, .string ⟨#[]⟩, .string ⟨#[]⟩, .string ⟨#[]⟩, .string ⟨#[]⟩, .string ⟨#[]⟩, .slice none 0 0, .slice none 0 0]) := s1
     refine wpOp_step rfl fun K' hK' => ?_
     rw [if_pos (wanted_plain rfl)]
     unfold Oper.wp
     simp only [execOp]
     go_simp
     exact hK' _ _ ⟨_, rfl, Below.refl _ _, rfl⟩
    | 6, _ =>
     exact gw_move rfl (wanted_plain rfl) 1 _ rfl sl1 ⟨_, rfl, Below.refl _ _, rfl⟩
    | 7, _ =>
     obtain ⟨s0, r0, _⟩ := hw 6 (by omega) (by kernel_rfl)
     have e0 : v 6 = .slice (some ⟨b, o, none⟩) 2 c := r0
     rw [e0] at s0
     replace s0 : a.tmps[28]? = some (.slice (some ⟨b, o, none⟩) 2 c) := s0
     refine wpOp_step rfl fun K' hK' => ?_
     rw [if_pos (wanted_plain rfl)]
     unfold Oper.wp
     simp only [execOp]
     go_simp
     exact hK' _ _ ⟨_, rfl, Below.refl _ _, rfl⟩
    | 8, _ =>
     obtain ⟨s0, r0, _⟩ := hw 7 (by omega) (by kernel_rfl)
     have e0 : v 7 = .pointer (some ⟨b, o + 2, none⟩) := r0
     rw [e0] at s0
     replace s0 : a.tmps[29]? = some (.pointer (some ⟨b, o + 2, none⟩)) := s0
     have cc0 := (hb.cell (p := ⟨b, o + 2, none⟩) HLB.out).trans C2.out
     have cc1 := (hb.cell (p := ⟨b, o + 3, none⟩) HLB.out).trans C3.out
     refine wpOp_step rfl fun K' hK' => ?_
     rw [if_pos (wanted_plain rfl)]
     unfold Oper.wp
     simp only [execOp]
     go_simp
     exact hK' _ _ ⟨_, rfl, Below.refl _ _, rfl⟩
    | 9, _ =>
     have cx0 := (hb.cell (p := ⟨gx, 0 + 0, none⟩) BX.out.lt).trans (BX.out.cell 0 _ rfl)
     have cx1 := (hb.cell (p := ⟨gx, 0 + 1, none⟩) BX.out.lt).trans (BX.out.cell 1 _ rfl)
     have cx2 := (hb.cell (p := ⟨gx, 0 + 2, none⟩) BX.out.lt).trans (BX.out.cell 2 _ rfl)
     have cx3 := (hb.cell (p := ⟨gx, 0 + 3, none⟩) BX.out.lt).trans (BX.out.cell 3 _ rfl)
     have cx4 := (hb.cell (p := ⟨gx, 0 + 4, none⟩) BX.out.lt).trans (BX.out.cell 4 _ rfl)
     have cx5 := (hb.cell (p := ⟨gx, 0 + 5, none⟩) BX.out.lt).trans (BX.out.cell 5 _ rfl)
     have cx6 := (hb.cell (p := ⟨gx, 0 + 6, none⟩) BX.out.lt).trans (BX.out.cell 6 _ rfl)
     have cx7 := (hb.cell (p := ⟨gx, 0 + 7, none⟩) BX.out.lt).trans (BX.out.cell 7 _ rfl)
     have cx8 := (hb.cell (p := ⟨gx, 0 + 8, none⟩) BX.out.lt).trans (BX.out.cell 8 _ rfl)
     have cx9 := (hb.cell (p := ⟨gx, 0 + 9, none⟩) BX.out.lt).trans (BX.out.cell 9 _ rfl)
     have cx10 := (hb.cell (p := ⟨gx, 0 + 10, none⟩) BX.out.lt).trans (BX.out.cell 10 _ rfl)
     refine wpOp_step rfl fun K' hK' => ?_
     rw [if_pos (wanted_plain rfl)]
     unfold Oper.wp
     simp only [execOp]
     go_simp
     exact hK' _ _ ⟨_, rfl, Below.refl _ _, rfl⟩
    | 10, _ =>
     obtain ⟨s0, r0, _⟩ := hw 8 (by omega) (by kernel_rfl)
     have e0 : v 8 = .agg #[.string Z.1, .string Z.2] := r0
     rw [e0] at s0
     replace s0 : a.tmps[30]? = some (.agg #[.string Z.1, .string Z.2]) := s0
     obtain ⟨s1, r1, _⟩ := hw 9 (by omega) (by kernel_rfl)
     have e1 : v 9 = .agg #[.int .i64 1, .string X.1, .string X.2, .int .i64 0, .string ⟨#[]⟩, .string ⟨#[]⟩, .string ⟨#[]⟩, .string ⟨#[]⟩, .string ⟨#[]⟩, .slice none 0 0, .slice none 0 0] := r1
     rw [e1] at s1
     replace s1 : a.tmps[31]? = some (.agg #[.int .i64 1, .string X.1, .string X.2, .int .i64 0, .string ⟨#[]⟩, .string ⟨#[]⟩, .string ⟨#[]⟩, .string ⟨#[]⟩, .string ⟨#[]⟩, .slice none 0 0, .slice none 0 0]) := s1
     refine wpOp_step rfl fun K' hK' => ?_
     rw [if_pos (wanted_plain rfl)]
     unfold Oper.wp
     simp only [execOp]
     go_simp
     exact hK' _ _ ⟨_, rfl, Below.refl _ _, rfl⟩
    | 11, _ =>
     obtain ⟨s0, r0, _⟩ := hw 5 (by omega) (by kernel_rfl)
     have e0 : v 5 = .agg #[.string X.1, .string X.2, .int .i64 1, .string Z.1, .string Z.2, .int .i64 0, .string ⟨#[]⟩, .string ⟨#[]⟩, .string ⟨#[]⟩, .string ⟨#[]⟩, .string ⟨#[]⟩, .slice none 0 0, .slice none 0 0] := r0
     rw [e0] at s0
     replace s0 : a.tmps[27]? = some (.agg #[.string X.1, .string X.2, .int .i64 1, .string Z.1, .string Z.2, .int .i64 0, .string ⟨#[]⟩, .string ⟨#[]⟩, .string ⟨#[]⟩, .string ⟨#[]⟩, .string ⟨#[]⟩, .slice none 0 0, .slice none 0 0]) := s0
     obtain ⟨s1, r1, _⟩ := hw 10 (by omega) (by kernel_rfl)
     have e1 : v 10 = .agg #[.string Z.1, .string Z.2, .int .i64 1, .string X.1, .string X.2, .int .i64 0, .string ⟨#[]⟩, .string ⟨#[]⟩, .string ⟨#[]⟩, .string ⟨#[]⟩, .string ⟨#[]⟩, .slice none 0 0, .slice none 0 0] := r1
     rw [e1] at s1
     replace s1 : a.tmps[32]? = some (.agg #[.string Z.1, .string Z.2, .int .i64 1, .string X.1, .string X.2, .int .i64 0, .string ⟨#[]⟩, .string ⟨#[]⟩, .string ⟨#[]⟩, .string ⟨#[]⟩, .string ⟨#[]⟩, .slice none 0 0, .slice none 0 0]) := s1
     refine wpOp_step rfl fun K' hK' => ?_
     rw [if_pos (wanted_plain rfl)]
     unfold Oper.wp
     simp only [execOp]
     go_simp
     exact hK' _ _ ⟨_, rfl, below_alT _ _, rfl, heap_alloc_new _ _, by simp⟩
    | 12, _ =>
     obtain ⟨s0, r0, _⟩ := hw 0 (by omega) (by kernel_rfl)
     have e0 : v 0 = .agg #[.int .i64 3, .string (uN ⟨#[102]⟩).1, .string (uN ⟨#[102]⟩).2, .int .i64 0, .string ⟨#[]⟩, .string ⟨#[]⟩, .string ⟨#[]⟩, .string ⟨#[]⟩, .string ⟨#[]⟩, .slice none 0 0, .slice A2 2 c2] := r0
     rw [e0] at s0
     replace s0 : a.tmps[22]? = some (.agg #[.int .i64 3, .string (uN ⟨#[102]⟩).1, .string (uN ⟨#[102]⟩).2, .int .i64 0, .string ⟨#[]⟩, .string ⟨#[]⟩, .string ⟨#[]⟩, .string ⟨#[]⟩, .string ⟨#[]⟩, .slice none 0 0, .slice A2 2 c2]) := s0
     obtain ⟨s1, r1, b1⟩ := hw 11 (by omega) (by kernel_rfl)
     obtain ⟨e1, hr1, hl1⟩ := r1
     rw [e1] at s1
     have hww := HWW.out
     have hbs := hb.size
     have CC := substituteP [(X, .var Z), (Z, .var X)] (.slice (some ⟨lo 11, 0, none⟩) 2 2) (.app (uN ⟨#[102]⟩) [.var X, .var Z]) [.int .i64 3, .string (uN ⟨#[102]⟩).1, .string (uN ⟨#[102]⟩).2, .int .i64 0, .string ⟨#[]⟩, .string ⟨#[]⟩, .string ⟨#[]⟩, .string ⟨#[]⟩, .string ⟨#[]⟩, .slice none 0 0, .slice A2 2 c2] w9 (Upto w w9 NoB) ((NoB.in w).upto (by omega)) ((HT.out.below (fun b hb0 => upto_lt (NoB.in w) HWW.out b hb0) hb).more (fun b hb0 => upto_more hb.size b hb0)) ((as2 hr1).more fun b hb0 => .inr ⟨by omega, by omega⟩) (by simp [Tm.nodes, Tm.nodesL]) (by show 2 ≤ 100000; decide)
     unfold vTm at CC
     refine gw_tt rfl (wanted_plain rfl) 38 22 33 _ _ _ rfl (fun v u w => by go_simp) s0 s1 ?_
     with_reducible refine (CC).mono ?_
     rintro e w3 ⟨cs3, rfl, h3, hb3⟩
     exact ⟨_, rfl, _, rfl, hb3, by have := hb3.size; omega, cs3, rfl, h3.more (fun b hb0 => upto_two (by omega) hb3.size b hb0)⟩
    | 13, _ =>
     refine wpOp_step rfl fun K' hK' => ?_
     rw [if_pos (wanted_plain rfl)]
     unfold Oper.wp
     simp only [execOp]
     go_simp
     exact hK' _ _ ⟨_, rfl, below_alT _ _, rfl, heap_alloc_new _ _, by simp⟩
    | k + 14, h => exact absurd h (by omega)
   case done =>
    intro a w9 v lo hi' hdef hsz hoth hb hj hap
    obtain ⟨_, ⟨hz12, csu, hv12, ht12⟩, hlo12, hhi12⟩ := hj 12 (by omega)
    obtain ⟨_, ⟨hv13, hbx13, hlt13⟩, hlo13, hhi13⟩ := hj 13 (by omega)
    have ha := eq_puts hdef hsz hoth (fun i hi => (hj i hi).1)
    subst ha
    clear hj hoth hdef hsz hap
    simp only [puts, List.getD_cons_zero, List.getD_cons_succ, hv12, hv13]
    generalize v 0 = v0
    generalize v 1 = v1
    generalize v 2 = v2
    generalize v 3 = v3
    generalize v 4 = v4
    generalize v 5 = v5
    generalize v 6 = v6
    generalize v 7 = v7
    generalize v 8 = v8
    generalize v 9 = v9
    generalize v 10 = v10
    generalize v 11 = v11
    clear hv12 hv13
    simp only [Act.put, List.setIfInBounds_toArray, List.set_cons_zero, List.set_cons_succ]
    show wpList _ _ _ [_] _ _
    have e4 : subT [(X, .var Z), (Z, .var X)] (.app (uN ⟨#[102]⟩) [.var X, .var Z]) = .app (uN ⟨#[102]⟩) [.var Z, .var X] := by
     have hxx : eqN X X = true := eqN_iff.2 rfl
     have hzz : eqN Z Z = true := eqN_iff.2 rfl
     simp [subT, subTs, findA, hxx, hzz, hne]
    rw [e4] at ht12
    obtain ⟨T1, hT1⟩ : ∃ T1, T1 = Tm.app (uN ⟨#[102]⟩) [.var Z, .var X] := ⟨_, rfl⟩
    have HT1 := hI hT1
    have h3 := ht12
    unfold TmAt at ht12
    obtain ⟨A3, c3, ecs, _, _⟩ := ht12
    have ecs2 : csu = [.int .i64 3, .string (uN ⟨#[102]⟩).1, .string (uN ⟨#[102]⟩).2, .int .i64 0, .string ⟨#[]⟩, .string ⟨#[]⟩, .string ⟨#[]⟩, .string ⟨#[]⟩, .string ⟨#[]⟩, .slice none 0 0, .slice A3 2 c3] := ecs
    subst ecs2
    have gls : X3.heap.size ≤ lo 13 := hlo13
    generalize lo 13 = gs at *
    have B13 := hI hbx13
    rw [← hT1] at h3
    have HU : Hid (TmAt (w9.setRow gs [.int .i64 3, .string (uN ⟨#[102]⟩).1, .string (uN ⟨#[102]⟩).2, .int .i64 0, .string ⟨#[]⟩, .string ⟨#[]⟩, .string ⟨#[]⟩, .string ⟨#[]⟩, .string ⟨#[]⟩, .slice none 0 0, .slice A3 2 c3].toArray) (Upto w (w9.setRow gs [.int .i64 3, .string (uN ⟨#[102]⟩).1, .string (uN ⟨#[102]⟩).2, .int .i64 0, .string ⟨#[]⟩, .string ⟨#[]⟩, .string ⟨#[]⟩, .string ⟨#[]⟩, .string ⟨#[]⟩, .slice none 0 0, .slice A3 2 c3].toArray) NoB) T1 [.int .i64 3, .string (uN ⟨#[102]⟩).1, .string (uN ⟨#[102]⟩).2, .int .i64 0, .string ⟨#[]⟩, .string ⟨#[]⟩, .string ⟨#[]⟩, .string ⟨#[]⟩, .string ⟨#[]⟩, .slice none 0 0, .slice A3 2 c3]) := TmAt.boxed h3 hbx13.nb _
    have BU : Hid (TB (w9.setRow gs [.int .i64 3, .string (uN ⟨#[102]⟩).1, .string (uN ⟨#[102]⟩).2, .int .i64 0, .string ⟨#[]⟩, .string ⟨#[]⟩, .string ⟨#[]⟩, .string ⟨#[]⟩, .string ⟨#[]⟩, .slice none 0 0, .slice A3 2 c3].toArray) gs [.int .i64 3, .string (uN ⟨#[102]⟩).1, .string (uN ⟨#[102]⟩).2, .int .i64 0, .string ⟨#[]⟩, .string ⟨#[]⟩, .string ⟨#[]⟩, .string ⟨#[]⟩, .string ⟨#[]⟩, .slice none 0 0, .slice A3 2 c3]) := hbx13.set _
    have BZ5 : Hid (TB (w9.setRow gs [.int .i64 3, .string (uN ⟨#[102]⟩).1, .string (uN ⟨#[102]⟩).2, .int .i64 0, .string ⟨#[]⟩, .string ⟨#[]⟩, .string ⟨#[]⟩, .string ⟨#[]⟩, .string ⟨#[]⟩, .slice none 0 0, .slice A3 2 c3].toArray) gz [.int .i64 1, .string Z.1, .string Z.2, .int .i64 0, .string ⟨#[]⟩, .string ⟨#[]⟩, .string ⟨#[]⟩, .string ⟨#[]⟩, .string ⟨#[]⟩, .slice none 0 0, .slice none 0 0]) := (BZ.out.keep hb).other (fun e => by have := BZ.out.lt; omega)
    have HB5 : Hid (Below w.heap.size w (w9.setRow gs [.int .i64 3, .string (uN ⟨#[102]⟩).1, .string (uN ⟨#[102]⟩).2, .int .i64 0, .string ⟨#[]⟩, .string ⟨#[]⟩, .string ⟨#[]⟩, .string ⟨#[]⟩, .string ⟨#[]⟩, .slice none 0 0, .slice A3 2 c3].toArray)) := HBW.out.trans ((below_setRowO hb gls _).mono HWW.out)
    have ONE5 := hI h3.o11
    clear h3 hb hbx13 hlt13 hlo13 hhi13 hlo12 hhi12 hz12 ecs BX BT HT BZ HBW HGT HGX HGZ HNE HWW HLB C0 C1 C2 C3 e4 hT1 hne hne2 gls
    go_upto_region 5 with ((with_reducible refine storeTb (cs := [.int .i64 3, .string (uN ⟨#[102]⟩).1, .string (uN ⟨#[102]⟩).2, .int .i64 0, .string ⟨#[]⟩, .string ⟨#[]⟩, .string ⟨#[]⟩, .string ⟨#[]⟩, .string ⟨#[]⟩, .slice none 0 0, .slice A3 2 c3]) (.tmp 5) (.tmp 34) ?_ ?_ ?_ ?_ B13.out ?_ ?_ ?_ ?_); rfl; rfl; rfl; rfl; rfl; rfl; exact ONE5.out.2)
    generalize w9.setRow gs [.int .i64 3, .string (uN ⟨#[102]⟩).1, .string (uN ⟨#[102]⟩).2, .int .i64 0, .string ⟨#[]⟩, .string ⟨#[]⟩, .string ⟨#[]⟩, .string ⟨#[]⟩, .string ⟨#[]⟩, .slice none 0 0, .slice A3 2 c3].toArray = X5 at *
    have hA5 := below_alT X5 (.cells #[.int .i64 0] 3)
    have HW5 := HB5.out.size
    have hIs : IsV (X5.alloc (.cells #[.int .i64 0] 3)) (Upto w (X5.alloc (.cells #[.int .i64 0] 3)) NoB) [0] (.slice (some ⟨X5.heap.size, 0, none⟩) 1 1) := by
     refine ⟨_, 1, rfl, Nat.le_refl _, fun _ => ⟨X5.heap.size, 0, rfl, Or.inr ⟨HW5, by simp⟩, fun i hi => ?_⟩⟩
     have hi1 : i < 1 := hi
     have : i = 0 := by omega
     subst this
     rw [cell_of_row _ _ _ _ _ _ (heap_alloc_new X5 _)]; rfl
    have hU5 : TmAt (X5.alloc (.cells #[.int .i64 0] 3)) (Upto w (X5.alloc (.cells #[.int .i64 0] 3)) NoB) T1 [.int .i64 3, .string (uN ⟨#[102]⟩).1, .string (uN ⟨#[102]⟩).2, .int .i64 0, .string ⟨#[]⟩, .string ⟨#[]⟩, .string ⟨#[]⟩, .string ⟨#[]⟩, .string ⟨#[]⟩, .slice none 0 0, .slice A3 2 c3] := (HU.out.below (fun b hb0 => upto_lt (NoB.in w) HW5 b hb0) hA5).more (fun b hb0 => upto_more hA5.size b hb0)
    have A5 := atT T1 [.int .i64 3, .string (uN ⟨#[102]⟩).1, .string (uN ⟨#[102]⟩).2, .int .i64 0, .string ⟨#[]⟩, .string ⟨#[]⟩, .string ⟨#[]⟩, .string ⟨#[]⟩, .string ⟨#[]⟩, .slice none 0 0, .slice A3 2 c3] [0] _ _ _ ((NoB.in w).upto (Nat.le_trans HW5 hA5.size)) hU5 hIs (by decide)
    have eA : atP T1 [0] = some (.var Z) := by rw [HT1.out]; rfl
    rw [eA] at A5
    replace A5 := hI A5
    unfold vTm at A5
    have HA5 := hI hA5
    clear hA5 hIs hU5 eA HW5
    go_wp2_with ((with_reducible refine loadTb (cs := [.int .i64 3, .string (uN ⟨#[102]⟩).1, .string (uN ⟨#[102]⟩).2, .int .i64 0, .string ⟨#[]⟩, .string ⟨#[]⟩, .string ⟨#[]⟩, .string ⟨#[]⟩, .string ⟨#[]⟩, .slice none 0 0, .slice A3 2 c3]) (.tmp 5) ?_ ?_ ?_ BU.out ?_ ?_); rfl; rfl; rfl; rfl)
    refine A5.out.mono ?_
    rintro e w6 ⟨cs6, rfl, h6, hb6⟩
    have e6 : cs6 = [.int .i64 1, .string Z.1, .string Z.2, .int .i64 0, .string ⟨#[]⟩, .string ⟨#[]⟩, .string ⟨#[]⟩, .string ⟨#[]⟩, .string ⟨#[]⟩, .slice none 0 0, .slice none 0 0] := h6
    subst e6
    have HB6 := hI (HA5.out.trans (hb6.mono HA5.out.size))
    have HS6 : Hid (X5.heap.size ≤ w6.heap.size) := HB6.out.size
    have HC6 : Hid (Below X5.heap.size X5 (w6.alloc (.cells #[.int .i64 1, .string Z.1, .string Z.2, .int .i64 0, .string ⟨#[]⟩, .string ⟨#[]⟩, .string ⟨#[]⟩, .string ⟨#[]⟩, .string ⟨#[]⟩, .slice none 0 0, .slice none 0 0] 45))) := HB6.out.trans ((below_alT w6 _).mono HS6.out)
    have BT6 : Hid (TB (w6.alloc (.cells #[.int .i64 1, .string Z.1, .string Z.2, .int .i64 0, .string ⟨#[]⟩, .string ⟨#[]⟩, .string ⟨#[]⟩, .string ⟨#[]⟩, .string ⟨#[]⟩, .slice none 0 0, .slice none 0 0] 45)) w6.heap.size [.int .i64 1, .string Z.1, .string Z.2, .int .i64 0, .string ⟨#[]⟩, .string ⟨#[]⟩, .string ⟨#[]⟩, .string ⟨#[]⟩, .string ⟨#[]⟩, .slice none 0 0, .slice none 0 0]) := heap_alloc_new _ _
    clear hb6 h6 A5 HA5 HB6 HS6
    unfold vTm
    go_upto_region 6 with fail
    generalize w6.alloc (.cells #[.int .i64 1, .string Z.1, .string Z.2, .int .i64 0, .string ⟨#[]⟩, .string ⟨#[]⟩, .string ⟨#[]⟩, .string ⟨#[]⟩, .string ⟨#[]⟩, .slice none 0 0, .slice none 0 0] 45) = Y at *
    generalize w6.heap.size = g6 at *
    have BUY := hI (BU.out.keep HC6.out)
    have BZY := hI (BZ5.out.keep HC6.out)
    have HUY : Hid (TmAt Y (Upto w Y NoB) T1 [.int .i64 3, .string (uN ⟨#[102]⟩).1, .string (uN ⟨#[102]⟩).2, .int .i64 0, .string ⟨#[]⟩, .string ⟨#[]⟩, .string ⟨#[]⟩, .string ⟨#[]⟩, .string ⟨#[]⟩, .slice none 0 0, .slice A3 2 c3]) := (HU.out.below (fun b hb0 => upto_lt (NoB.in w) HB5.out.size b hb0) HC6.out).more (fun b hb0 => upto_more HC6.out.size b hb0)
    have HBY : Hid (Below w.heap.size w Y) := HB5.out.trans (HC6.out.mono HB5.out.size)
    clear BU BZ5 HU HB5 HC6 B13
    have EQ1 : Hid (Calls Tryz.prog 41 #[.agg #[.int .i64 1, .string Z.1, .string Z.2, .int .i64 0, .string ⟨#[]⟩, .string ⟨#[]⟩, .string ⟨#[]⟩, .string ⟨#[]⟩, .string ⟨#[]⟩, .slice none 0 0, .slice none 0 0], .agg #[.int .i64 1, .string Z.1, .string Z.2, .int .i64 0, .string ⟨#[]⟩, .string ⟨#[]⟩, .string ⟨#[]⟩, .string ⟨#[]⟩, .string ⟨#[]⟩, .slice none 0 0, .slice none 0 0]] Y (RetB Y true)) := by
     have h := equalT 10 (by decide) (.var Z) (.var Z) [.int .i64 1, .string Z.1, .string Z.2, .int .i64 0, .string ⟨#[]⟩, .string ⟨#[]⟩, .string ⟨#[]⟩, .string ⟨#[]⟩, .string ⟨#[]⟩, .slice none 0 0, .slice none 0 0] [.int .i64 1, .string Z.1, .string Z.2, .int .i64 0, .string ⟨#[]⟩, .string ⟨#[]⟩, .string ⟨#[]⟩, .string ⟨#[]⟩, .string ⟨#[]⟩, .slice none 0 0, .slice none 0 0] Y NoB (NoB.in Y) rfl rfl (by unfold Tm.bd; trivial) (by unfold Tm.bd; trivial) (by simp [Tm.nodes])
     rw [eqT_refl] at h
     exact h
    repeat (first | ((with_reducible refine loadTg (cs := [.int .i64 1, .string Z.1, .string Z.2, .int .i64 0, .string ⟨#[]⟩, .string ⟨#[]⟩, .string ⟨#[]⟩, .string ⟨#[]⟩, .string ⟨#[]⟩, .slice none 0 0, .slice none 0 0]) (.tmp 6) ?_ ?_ ?_ BT6.out ?_ ?_); rfl; rfl; rfl; rfl; unfold vTm) | ((with_reducible refine loadTg (cs := [.int .i64 1, .string Z.1, .string Z.2, .int .i64 0, .string ⟨#[]⟩, .string ⟨#[]⟩, .string ⟨#[]⟩, .string ⟨#[]⟩, .string ⟨#[]⟩, .slice none 0 0, .slice none 0 0]) (.tmp 3) ?_ ?_ ?_ BZY.out ?_ ?_); rfl; rfl; rfl; rfl; unfold vTm) | go_skip | go_guarded | go_step | go_upon | go_back)
    refine EQ1.out.mono ?_
    rintro e w7 ⟨rfl, hb⟩
    dsimp only
    have BU7 := hI (BUY.out.keep hb)
    have HU7 : Hid (TmAt w7 (Upto w w7 NoB) T1 [.int .i64 3, .string (uN ⟨#[102]⟩).1, .string (uN ⟨#[102]⟩).2, .int .i64 0, .string ⟨#[]⟩, .string ⟨#[]⟩, .string ⟨#[]⟩, .string ⟨#[]⟩, .string ⟨#[]⟩, .slice none 0 0, .slice A3 2 c3]) := (HUY.out.below (fun b hb0 => upto_lt (NoB.in w) HBY.out.size b hb0) hb).more (fun b hb0 => upto_more hb.size b hb0)
    have HB7 : Hid (Below w.heap.size w w7) := HBY.out.trans (hb.mono HBY.out.size)
    clear hb EQ1 BUY HUY HBY BZY BT6
    have VAL : Hid (Calls Tryz.prog 74 #[.agg #[.int .i64 3, .string (uN ⟨#[102]⟩).1, .string (uN ⟨#[102]⟩).2, .int .i64 0, .string ⟨#[]⟩, .string ⟨#[]⟩, .string ⟨#[]⟩, .string ⟨#[]⟩, .string ⟨#[]⟩, .slice none 0 0, .slice A3 2 c3]] w7 (RetB w7 true)) := by
     have h := validT T1 [.int .i64 3, .string (uN ⟨#[102]⟩).1, .string (uN ⟨#[102]⟩).2, .int .i64 0, .string ⟨#[]⟩, .string ⟨#[]⟩, .string ⟨#[]⟩, .string ⟨#[]⟩, .string ⟨#[]⟩, .slice none 0 0, .slice A3 2 c3] w7 _ ((NoB.in w).upto HB7.out.size) HU7.out (by rw [HT1.out]; simp [Tm.nodes, Tm.nodesL]) (by rw [HT1.out]; simp [Tm.dep, Tm.depL]) (by rw [HT1.out]; simp [Tm.bd, Tm.bdL])
     rw [show wfT T1 = true from by rw [HT1.out]; exact HWF.out] at h
     exact h
    repeat (first | ((with_reducible refine loadTg (cs := [.int .i64 3, .string (uN ⟨#[102]⟩).1, .string (uN ⟨#[102]⟩).2, .int .i64 0, .string ⟨#[]⟩, .string ⟨#[]⟩, .string ⟨#[]⟩, .string ⟨#[]⟩, .string ⟨#[]⟩, .slice none 0 0, .slice A3 2 c3]) (.tmp 5) ?_ ?_ ?_ BU7.out ?_ ?_); rfl; rfl; rfl; rfl; unfold vTm) | go_skip | go_guarded | go_step | go_upon | go_back)
    refine VAL.out.mono ?_
    rintro e w8 ⟨rfl, hb⟩
    dsimp only
    have BU8 := hI (BU7.out.keep hb)
    have HU8 : Hid (TmAt w8 (Upto w w8 NoB) T1 [.int .i64 3, .string (uN ⟨#[102]⟩).1, .string (uN ⟨#[102]⟩).2, .int .i64 0, .string ⟨#[]⟩, .string ⟨#[]⟩, .string ⟨#[]⟩, .string ⟨#[]⟩, .string ⟨#[]⟩, .slice none 0 0, .slice A3 2 c3]) := (HU7.out.below (fun b hb0 => upto_lt (NoB.in w) HB7.out.size b hb0) hb).more (fun b hb0 => upto_more hb.size b hb0)
    have HB8 : Hid (Below w.heap.size w w8) := HB7.out.trans (hb.mono HB7.out.size)
    clear hb VAL BU7 HU7 HB7
    have NOD : Hid (Calls Tryz.prog 75 #[.agg #[.int .i64 3, .string (uN ⟨#[102]⟩).1, .string (uN ⟨#[102]⟩).2, .int .i64 0, .string ⟨#[]⟩, .string ⟨#[]⟩, .string ⟨#[]⟩, .string ⟨#[]⟩, .string ⟨#[]⟩, .slice none 0 0, .slice A3 2 c3]] w8 (RetI w8 3)) := by
     have h := nodesT T1 [.int .i64 3, .string (uN ⟨#[102]⟩).1, .string (uN ⟨#[102]⟩).2, .int .i64 0, .string ⟨#[]⟩, .string ⟨#[]⟩, .string ⟨#[]⟩, .string ⟨#[]⟩, .string ⟨#[]⟩, .slice none 0 0, .slice A3 2 c3] w8 _ ((NoB.in w).upto HB8.out.size) HU8.out (by rw [HT1.out]; simp [Tm.nodes, Tm.nodesL])
     rw [show ((T1.nodes : Nat) : Int) = 3 from by rw [HT1.out]; simp [Tm.nodes, Tm.nodesL]] at h
     exact h
    repeat (first | ((with_reducible refine loadTg (cs := [.int .i64 3, .string (uN ⟨#[102]⟩).1, .string (uN ⟨#[102]⟩).2, .int .i64 0, .string ⟨#[]⟩, .string ⟨#[]⟩, .string ⟨#[]⟩, .string ⟨#[]⟩, .string ⟨#[]⟩, .slice none 0 0, .slice A3 2 c3]) (.tmp 5) ?_ ?_ ?_ BU8.out ?_ ?_); rfl; rfl; rfl; rfl; unfold vTm) | go_skip | go_guarded | go_step | go_upon | go_back)
    refine NOD.out.mono ?_
    rintro e w9 ⟨rfl, hb⟩
    dsimp only
    have BU9 := hI (BU8.out.keep hb)
    have HU9 : Hid (TmAt w9 (Upto w w9 NoB) T1 [.int .i64 3, .string (uN ⟨#[102]⟩).1, .string (uN ⟨#[102]⟩).2, .int .i64 0, .string ⟨#[]⟩, .string ⟨#[]⟩, .string ⟨#[]⟩, .string ⟨#[]⟩, .string ⟨#[]⟩, .slice none 0 0, .slice A3 2 c3]) := (HU8.out.below (fun b hb0 => upto_lt (NoB.in w) HB8.out.size b hb0) hb).more (fun b hb0 => upto_more hb.size b hb0)
    have HB9 : Hid (Below w.heap.size w w9) := HB8.out.trans (hb.mono HB8.out.size)
    clear hb NOD BU8 HU8 HB8
    have hA9 := below_alT w9 (.cells #[.int .i64 3, .string (uN ⟨#[102]⟩).1, .string (uN ⟨#[102]⟩).2, .int .i64 0, .string ⟨#[]⟩, .string ⟨#[]⟩, .string ⟨#[]⟩, .string ⟨#[]⟩, .string ⟨#[]⟩, .slice none 0 0, .slice A3 2 c3] 45)
    have hR9 : (w9.alloc (.cells #[.int .i64 3, .string (uN ⟨#[102]⟩).1, .string (uN ⟨#[102]⟩).2, .int .i64 0, .string ⟨#[]⟩, .string ⟨#[]⟩, .string ⟨#[]⟩, .string ⟨#[]⟩, .string ⟨#[]⟩, .slice none 0 0, .slice A3 2 c3] 45)).heap[w9.heap.size]? = some (.cells #[.int .i64 3, .string (uN ⟨#[102]⟩).1, .string (uN ⟨#[102]⟩).2, .int .i64 0, .string ⟨#[]⟩, .string ⟨#[]⟩, .string ⟨#[]⟩, .string ⟨#[]⟩, .string ⟨#[]⟩, .slice none 0 0, .slice A3 2 c3] 45 (0, 0)) := heap_alloc_new w9 _
    have hU9 : TmAt (w9.alloc (.cells #[.int .i64 3, .string (uN ⟨#[102]⟩).1, .string (uN ⟨#[102]⟩).2, .int .i64 0, .string ⟨#[]⟩, .string ⟨#[]⟩, .string ⟨#[]⟩, .string ⟨#[]⟩, .string ⟨#[]⟩, .slice none 0 0, .slice A3 2 c3] 45)) (Upto w (w9.alloc (.cells #[.int .i64 3, .string (uN ⟨#[102]⟩).1, .string (uN ⟨#[102]⟩).2, .int .i64 0, .string ⟨#[]⟩, .string ⟨#[]⟩, .string ⟨#[]⟩, .string ⟨#[]⟩, .string ⟨#[]⟩, .slice none 0 0, .slice A3 2 c3] 45)) NoB) T1 [.int .i64 3, .string (uN ⟨#[102]⟩).1, .string (uN ⟨#[102]⟩).2, .int .i64 0, .string ⟨#[]⟩, .string ⟨#[]⟩, .string ⟨#[]⟩, .string ⟨#[]⟩, .string ⟨#[]⟩, .slice none 0 0, .slice A3 2 c3] := (HU9.out.below (fun b hb0 => upto_lt (NoB.in w) HB9.out.size b hb0) hA9).more (fun b hb0 => upto_more hA9.size b hb0)
    have hAA : ArgsAt (w9.alloc (.cells #[.int .i64 3, .string (uN ⟨#[102]⟩).1, .string (uN ⟨#[102]⟩).2, .int .i64 0, .string ⟨#[]⟩, .string ⟨#[]⟩, .string ⟨#[]⟩, .string ⟨#[]⟩, .string ⟨#[]⟩, .slice none 0 0, .slice A3 2 c3] 45)) (Upto w (w9.alloc (.cells #[.int .i64 3, .string (uN ⟨#[102]⟩).1, .string (uN ⟨#[102]⟩).2, .int .i64 0, .string ⟨#[]⟩, .string ⟨#[]⟩, .string ⟨#[]⟩, .string ⟨#[]⟩, .string ⟨#[]⟩, .slice none 0 0, .slice A3 2 c3] 45)) NoB) [T1] (some ⟨w9.heap.size, 0, none⟩) 1 := by
     refine ⟨Nat.le_refl _, fun _ => ⟨_, _, rfl, ⟨.inr ⟨HB9.out.size, by simp⟩, _, _, hR9⟩, ?_⟩⟩
     unfold TmsAt
     refine ⟨⟨_, hU9, fun j u hj => TB.cell (g := w9.heap.size) hR9 j u hj⟩, ?_⟩
     unfold TmsAt; trivial
    have hshort : ∀ u ∈ subsTs [T1], NmOk u := by
     rw [HT1.out, HX.out, HZZ.out]
     intro u hu
     simp [subsTs, subsT] at hu
     rcases hu with rfl | rfl | rfl <;> exact ⟨by show _ ≤ maxLen; decide, by show _ ≤ maxLen; decide⟩
    have VAR := variablesT [T1] _ _ _ _ ((NoB.in w).upto (Nat.le_trans HB9.out.size hA9.size)) hAA hshort (fun x hx => by rw [List.mem_singleton] at hx; rw [hx, HT1.out]; simp [Tm.nodes, Tm.nodesL]) (by simp) (by rw [HT1.out]; simp [subsTs, subsT])
    have hnl : (namesF 1 (subsTs [T1])).length = 2 := by rw [HT1.out, HX.out, HZZ.out]; kernel_rfl
    replace VAR := hI VAR
    have HA9 := hI hA9
    have HNL := hI hnl
    have HSH := hI hshort
    clear hA9 hR9 hU9 hAA hshort hnl
    repeat (first | ((with_reducible refine loadTg (cs := [.int .i64 3, .string (uN ⟨#[102]⟩).1, .string (uN ⟨#[102]⟩).2, .int .i64 0, .string ⟨#[]⟩, .string ⟨#[]⟩, .string ⟨#[]⟩, .string ⟨#[]⟩, .string ⟨#[]⟩, .slice none 0 0, .slice A3 2 c3]) (.tmp 5) ?_ ?_ ?_ BU9.out ?_ ?_); rfl; rfl; rfl; rfl; unfold vTm) | go_skip | go_guarded | go_step | go_upon | go_back)
    refine VAR.out.mono ?_
    rintro e w10 ⟨v, rfl, ⟨A4, c4, rfl, _, _⟩, hb⟩
    dsimp only
    rw [HNL.out]
    have hb0 := HA9.out.trans (hb.mono HA9.out.size)
    have BU10 := hI (BU9.out.keep hb0)
    have HU10 : Hid (TmAt w10 (Upto w w10 NoB) T1 [.int .i64 3, .string (uN ⟨#[102]⟩).1, .string (uN ⟨#[102]⟩).2, .int .i64 0, .string ⟨#[]⟩, .string ⟨#[]⟩, .string ⟨#[]⟩, .string ⟨#[]⟩, .string ⟨#[]⟩, .slice none 0 0, .slice A3 2 c3]) := (HU9.out.below (fun b hb0 => upto_lt (NoB.in w) HB9.out.size b hb0) hb0).more (fun b hb1 => upto_more hb0.size b hb1)
    have HB10 : Hid (Below w.heap.size w w10) := HB9.out.trans (hb0.mono HB9.out.size)
    clear hb hb0 VAR BU9 HU9 HB9 HA9
    have GRD : Hid (Calls Tryz.prog 31 #[.agg #[.int .i64 3, .string (uN ⟨#[102]⟩).1, .string (uN ⟨#[102]⟩).2, .int .i64 0, .string ⟨#[]⟩, .string ⟨#[]⟩, .string ⟨#[]⟩, .string ⟨#[]⟩, .string ⟨#[]⟩, .slice none 0 0, .slice A3 2 c3]] w10 (RetB w10 false)) := by
     have h := groundT T1 [.int .i64 3, .string (uN ⟨#[102]⟩).1, .string (uN ⟨#[102]⟩).2, .int .i64 0, .string ⟨#[]⟩, .string ⟨#[]⟩, .string ⟨#[]⟩, .string ⟨#[]⟩, .string ⟨#[]⟩, .slice none 0 0, .slice A3 2 c3] w10 _ ((NoB.in w).upto HB10.out.size) HU10.out (fun u hu => HSH.out u (by unfold subsTs; exact List.mem_append.2 (.inl hu))) (by rw [HT1.out]; simp [Tm.nodes, Tm.nodesL])
     rw [show noVar (subsT T1) = false from by rw [HT1.out]; simp [subsT, subsTs, noVar, Tm.kd]] at h
     exact h
    repeat (first | ((with_reducible refine loadTg (cs := [.int .i64 3, .string (uN ⟨#[102]⟩).1, .string (uN ⟨#[102]⟩).2, .int .i64 0, .string ⟨#[]⟩, .string ⟨#[]⟩, .string ⟨#[]⟩, .string ⟨#[]⟩, .string ⟨#[]⟩, .slice none 0 0, .slice A3 2 c3]) (.tmp 5) ?_ ?_ ?_ BU10.out ?_ ?_); rfl; rfl; rfl; rfl; unfold vTm) | go_skip | go_guarded | go_step | go_upon | go_back)
    refine GRD.out.mono ?_
    rintro e w11 ⟨rfl, hb⟩
    dsimp only
    have HF : Hid (Below w.heap.size w w11) := HB10.out.trans (hb.mono HB10.out.size)
    clear hb GRD
    go_wp2
    go_ret
    exact ⟨rfl, HF.out⟩
theorem fewAllO (l : List Rw) (A : Option Addr) (c : Nat) (m : Int) (w : World) (S : Nat → Prop) (hS : In S w) (hc : l.length ≤ c) (hcm : c ≤ maxLen) (hm : 0 ≤ m) (hm' : m ≤ 1000)
 (hA : 0 < l.length → ∃ b o, A = some ⟨b, o, none⟩ ∧ S b ∧ RawsAt w S b o l) :
 Calls Tryz.prog 18 #[.slice A l.length c, .int .i64 m] w (fun e w' => ∃ t, e = .returned (.bool t) ∧ Below w.heap.size w w' ∧ (t = true → l.length ≤ 8 ∧ ∀ i (hi : i < l.length), few l[i] m = true)) := by
 have HS := qh9 hS
 have HA := qh9 hA
 clear hS hA
 have HF : Hid (∀ i (hi : i < l.length) cs w', RawAt w' S l[i] cs → In S w' → Calls Tryz.prog 19 #[.agg cs.toArray, .int .i64 m] w' (fun e w'' => e = .returned (.bool (few l[i] m)) ∧ Below w'.heap.size w' w'')) := fun i hi cs w' h hs => fewO l[i] cs m w' S hs h hm hm'
 have HE1 : Hid (∀ w', Below w.heap.size w w' → ∃ t, Ending.returned (.bool false) = .returned (.bool t) ∧ Below w.heap.size w w' ∧ (t = true → l.length ≤ 8 ∧ ∀ i (hi : i < l.length), few l[i] m = true)) := fun w' h => ⟨false, rfl, h, fun h => by cases h⟩
 have HE2 : Hid (∀ w', Below w.heap.size w w' → l.length ≤ 8 → (∀ i (hi : i < l.length), few l[i] m = true) → ∃ t, Ending.returned (.bool true) = .returned (.bool t) ∧ Below w.heap.size w w' ∧ (t = true → l.length ≤ 8 ∧ ∀ i (hi : i < l.length), few l[i] m = true)) := fun w' h h1 h2 => ⟨true, rfl, h, fun _ => ⟨h1, h2⟩⟩
 generalize hP : (fun (e : Ending) (w' : World) => ∃ t, e = .returned (.bool t) ∧ Below w.heap.size w w' ∧ (t = true → l.length ≤ 8 ∧ ∀ i (hi : i < l.length), few l[i] m = true)) = P
 have E1 : Hid (∀ w', Below w.heap.size w w' → P (.returned (.bool false)) w') := by subst hP; exact HE1
 have E2 : Hid (∀ w', Below w.heap.size w w' → l.length ≤ 8 → (∀ i (hi : i < l.length), few l[i] m = true) → P (.returned (.bool true)) w') := by subst hP; exact HE2
 clear hP HE1 HE2
 obtain ⟨L, hL⟩ : ∃ L, l.length = L := ⟨_, rfl⟩
 have HL := qh9 hL
 rw [hL] at hc ⊢
 clear hL
 unfold maxLen at hcm
 by_cases hbig : 8 < L
 · go_enter Tryz.func18, Tryz.ntmps18
   go_wp2
   exact E1.out _ (Below.refl _ _)
 · have hL8 : L ≤ 8 := by omega
   clear hbig
   go_enter Tryz.func18, Tryz.ntmps18
   go_wp2_with fail
   have h0 : Hid (∀ j (hj : j < l.length), j < 0 → few l[j] m = true) := fun j _ h => absurd h (Nat.not_lt_zero _)
   go_loopw [5] (fun v wr => ∃ i : Nat, i ≤ L ∧ v = .int .i64 (i : Int) ∧ Hid (Below w.heap.size w wr) ∧ Hid (∀ j (hj : j < l.length), j < i → few l[j] m = true)) (fun v _ => L - (intOf v).toNat)
   case atStart => exact ⟨0, Nat.zero_le _, rfl, Below.refl _ _, h0⟩
   case round =>
    clear h0
    obtain ⟨i, hiL, rfl, hb, hall⟩ := hrel
    obtain ⟨wo, rfl⟩ : ∃ wo : World, wo = wr := ⟨_, rfl⟩
    by_cases hlt : i < L
    · have hil : i < l.length := by rw [HL.out]; exact hlt
      obtain ⟨b, o, rfl, hbS, hrs⟩ := HA.out (by omega)
      obtain ⟨cs, hcs, hcell⟩ := hrs.get hil
      have hcs' := hcs.below HS.out hb.out
      have ha0 : b < w.heap.size := HS.out b hbS
      obtain ⟨z0, z1, z2, z3, rfl⟩ : ∃ z0 z1 z2 z3, cs = [z0, z1, z2, z3] := by
       generalize l[i] = r at hcs
       cases r with
       | mk k n s l => unfold RawAt at hcs; obtain ⟨A, c, e, _⟩ := hcs; exact ⟨_, _, _, _, e⟩
      have l0 := (hb.out.cell (p := ⟨b, o + i * 4 + 0, none⟩) ha0).trans (hcell 0 z0 rfl)
      have l1 := (hb.out.cell (p := ⟨b, o + i * 4 + 1, none⟩) ha0).trans (hcell 1 z1 rfl)
      have l2 := (hb.out.cell (p := ⟨b, o + i * 4 + 2, none⟩) ha0).trans (hcell 2 z2 rfl)
      have l3 := (hb.out.cell (p := ⟨b, o + i * 4 + 3, none⟩) ha0).trans (hcell 3 z3 rfl)
      rw [Nat.add_zero] at l0
      have call := qh9 (HF.out i hil [z0, z1, z2, z3] wo hcs' (HS.out.later hb.out.size))
      have hnext : Hid (few l[i] m = true → ∀ j (hj : j < l.length), j < i + 1 → few l[j] m = true) := fun hf j hj hji => by
       by_cases e : j = i
       · subst e; exact hf
       · exact hall.out j hj (by omega)
      clear hcell hcs hcs' hrs
      generalize few l[i] m = f at call hnext
      go_wp2_with fail
      refine call.out.mono ?_
      rintro e w3 ⟨rfl, hb3⟩
      have hb4 := qc9 hb hb3
      clear l0 l1 l2 l3 hb3 call hb hall
      cases f with
      | false =>
       clear hnext
       go_wp2
       exact E1.out _ hb4.out
      | true =>
       have hn2 := qh9 (hnext.out (by simp))
       clear hnext
       go_wp2
       go_roundw
       case rel => exact ⟨i + 1, by omega, by go_num, hb4, hn2⟩
       case measure => simp [intOf]; omega
    · have hn : ¬ (i : Int) < L := by omega
      have HR := qh9 (E2.out wo hb.out (by rw [HL.out]; exact hL8) (fun j hj => hall.out j hj (by have := HL.out; omega)))
      clear hb hall hlt
      go_wp2
      exact HR.out
def CpL (Y wr : World) (sa sb : List (Nm × Tm)) (i : Nat) (sl : Value) : Prop := ∃ xs, MkA (Has Y) Y wr ((sa.take i).map (fun p => (p.1, subT sb p.2))) sl xs
theorem termComposesW (r : Rw) (r0 r1 r2 r3 : Value) (la : List Rw) (A : Option Addr) (cA : Nat) (lb : List Rw) (B : Option Addr) (cB : Nat) (w : World) (hr : RawAt w (Has w) r [r0, r1, r2, r3]) (hla : la.length ≤ cA) (hca : cA ≤ maxLen) (hA : 0 < la.length → ∃ b o, A = some ⟨b, o, none⟩ ∧ Has w b ∧ RawsAt w (Has w) b o la) (hlb : lb.length ≤ cB) (hcb : cB ≤ maxLen) (hBB : 0 < lb.length → ∃ b o, B = some ⟨b, o, none⟩ ∧ Has w b ∧ RawsAt w (Has w) b o lb) (ht : Tab w) :
 Calls Tryz.prog 7 #[.agg #[r0, r1, r2, r3], .slice A la.length cA, .slice B lb.length cB] w (RetB w true) := by
 have RR := hI hr
 have HTB := hI ht
 have HA0 := hI hA
 have HB0 := hI hBB
 have HLA := hI hla
 have HLB0 := hI hlb
 have CF : Hid (∀ X, Below w.heap.size w X → Calls Tryz.prog 19 #[.agg #[r0, r1, r2, r3], .int .i64 20] X (fun e w' => e = .returned (.bool (few r 20)) ∧ Below X.heap.size X w')) := fun X h => fewO r [r0, r1, r2, r3] 20 X (Has w) (In.has w |>.later h.size) (RR.out.below (In.has w) h) (by decide) (by decide)
 have CA : Hid (∀ X, Below w.heap.size w X → Calls Tryz.prog 18 #[.slice A la.length cA, .int .i64 6] X (fun e w' => ∃ t, e = .returned (.bool t) ∧ Below X.heap.size X w' ∧ (t = true → la.length ≤ 8 ∧ ∀ i (hi : i < la.length), few la[i] 6 = true))) := fun X h => fewAllO la A cA 6 X (Has w) (In.has w |>.later h.size) hla hca (by decide) (by decide) (fun h0 => by
  obtain ⟨b, o, e, hb, hrs⟩ := HA0.out h0
  exact ⟨b, o, e, hb, RawsAt.keep (fun q hq => h.cell (In.has w q.block hq)) b o hb la hrs⟩)
 have CB : Hid (∀ X, Below w.heap.size w X → Calls Tryz.prog 18 #[.slice B lb.length cB, .int .i64 6] X (fun e w' => ∃ t, e = .returned (.bool t) ∧ Below X.heap.size X w' ∧ (t = true → lb.length ≤ 8 ∧ ∀ i (hi : i < lb.length), few lb[i] 6 = true))) := fun X h => fewAllO lb B cB 6 X (Has w) (In.has w |>.later h.size) hlb hcb (by decide) (by decide) (fun h0 => by
  obtain ⟨b, o, e, hb, hrs⟩ := HB0.out h0
  exact ⟨b, o, e, hb, RawsAt.keep (fun q hq => h.cell (In.has w q.block hq)) b o hb lb hrs⟩)
 have KM : Hid (few r 20 = true → ∀ X, Below w.heap.size w X → Calls Tryz.prog 20 #[.agg #[r0, r1, r2, r3]] X (RetTP X (fun t => ∃ r' : Rw, mtP (fun _ _ => True) r' t ∧ r'.cnt ≤ 20))) := fun hf X h => by
  obtain ⟨hok, hcn⟩ := few_ok hf
  refine (madeT (fun _ _ => True) oMkT r [r0, r1, r2, r3] X (Has w) (In.has w |>.later h.size) (RR.out.below (In.has w) h) hok (HTB.out.below h)).mono ?_
  rintro e w' ⟨t, ht, hm⟩
  exact ⟨t, ht, r, hm, by omega⟩
 have AGE : ∀ (l : List Rw) (Ad : Option Addr) (c : Nat), l.length ≤ c → (0 < l.length → ∃ b o, Ad = some ⟨b, o, none⟩ ∧ Has w b ∧ RawsAt w (Has w) b o l) → l.length ≤ 8 → (∀ i (hi : i < l.length), few l[i] 6 = true) → ∀ X, Below w.heap.size w X → Calls Tryz.prog 39 #[.slice Ad l.length c] X (RetAP X (fun s => s.length = l.length ∧ ∀ p ∈ s, p.2.nodes ≤ 24 ∧ p.2.bd 10 ∧ p.1 ∈ vN4 ∧ ∃ r', mtP (fun _ _ => True) r' p.2 ∧ r'.cnt ≤ 6)) := fun l Ad c hlc hr h8 hf X h => by
  refine (assignsT (fun _ _ => True) oMkT l Ad c X (Has w) (In.has w |>.later h.size) h8 hlc (HTB.out.below h) (fun h0 => by
   obtain ⟨b, o, e, hb, hrs⟩ := hr h0
   exact ⟨b, o, e, hb, RawsAt.keep (fun q hq => h.cell (In.has w q.block hq)) b o hb l hrs⟩) (fun r' hr' => by
   obtain ⟨i, hi, rfl⟩ := List.getElem_of_mem hr'
   exact (few_ok (hf i hi)).1)).mono ?_
  rintro e w' ⟨s, v, h1, h2, h3, h4, h5⟩
  exact ⟨s, v, h1, h2, h3, h4, asP_all (N := 6) l s (fun i hi => (few_ok (hf i hi)).2) h5⟩
 have KA : Hid (la.length ≤ 8 → (∀ i (hi : i < la.length), few la[i] 6 = true) → ∀ X, Below w.heap.size w X → Calls Tryz.prog 39 #[.slice A la.length cA] X (RetAP X (fun s => s.length = la.length ∧ ∀ p ∈ s, p.2.nodes ≤ 24 ∧ p.2.bd 10 ∧ p.1 ∈ vN4 ∧ ∃ r', mtP (fun _ _ => True) r' p.2 ∧ r'.cnt ≤ 6))) := fun h8 hf => AGE la A cA hla hA h8 hf
 have KB : Hid (lb.length ≤ 8 → (∀ i (hi : i < lb.length), few lb[i] 6 = true) → ∀ X, Below w.heap.size w X → Calls Tryz.prog 39 #[.slice B lb.length cB] X (RetAP X (fun s => s.length = lb.length ∧ ∀ p ∈ s, p.2.nodes ≤ 24 ∧ p.2.bd 10 ∧ p.1 ∈ vN4 ∧ ∃ r', mtP (fun _ _ => True) r' p.2 ∧ r'.cnt ≤ 6))) := fun h8 hf => AGE lb B cB hlb hBB h8 hf
 generalize few r 20 = ff at CF KM
 have hA2 : Below w.heap.size w (w.alloc (.cells #[r0, r1, r2, r3] 40)) := below_alT w _
 have BR : Hid ((w.alloc (.cells #[r0, r1, r2, r3] 40)).heap[w.heap.size]? = some (.cells #[r0, r1, r2, r3] 40 (0, 0))) := heap_alloc_new w _
 have HB := hI hA2
 clear hr ht hA hBB hla hlb hca hcb hA2 AGE HA0 HB0 HLA HLB0 RR HTB
 go_enter Tryz.func7, Tryz.ntmps7
 go_upto_region 1 with fail
 generalize (w.alloc (.cells #[r0, r1, r2, r3] 40)) = W at *
 go_wp2_with fail
 with_reducible refine (first8 W).mono ?_
 rintro e w1 ⟨rfl, hb⟩
 replace BR := hI ((hb.block _ (lt_row BR.out)).trans BR.out)
 replace HB := hI (chain2 HB.out hb (Nat.le_refl _))
 clear hb
 have c0 : w1.cell? ⟨w.heap.size, 0, none⟩ = some r0 := by rw [cell_of_row _ _ _ _ _ _ BR.out]; rfl
 have c1 : w1.cell? ⟨w.heap.size, 1, none⟩ = some r1 := by rw [cell_of_row _ _ _ _ _ _ BR.out]; rfl
 have c2 : w1.cell? ⟨w.heap.size, 2, none⟩ = some r2 := by rw [cell_of_row _ _ _ _ _ _ BR.out]; rfl
 have c3 : w1.cell? ⟨w.heap.size, 3, none⟩ = some r3 := by rw [cell_of_row _ _ _ _ _ _ BR.out]; rfl
 go_wp2_with fail
 with_reducible refine (CF.out _ HB.out).mono ?_
 rintro e w2 ⟨rfl, hb⟩
 replace BR := hI ((hb.block _ (lt_row BR.out)).trans BR.out)
 replace HB := hI (chain2 HB.out hb (Nat.le_refl _))
 clear hb CF c0 c1 c2 c3
 cases ff with
 | false =>
  go_wp2
  go_ret
  exact ⟨rfl, HB.out⟩
 | true =>
  go_wp2_with fail
  with_reducible refine (CA.out _ HB.out).mono ?_
  rintro e w3 ⟨ta, rfl, hb, hfa⟩
  replace BR := hI ((hb.block _ (lt_row BR.out)).trans BR.out)
  replace HB := hI (chain2 HB.out hb (Nat.le_refl _))
  clear hb CA
  cases ta with
  | false =>
   go_wp2
   go_ret
   exact ⟨rfl, HB.out⟩
  | true =>
   go_wp2_with fail
   with_reducible refine (CB.out _ HB.out).mono ?_
   rintro e w4 ⟨tb, rfl, hb, hfb⟩
   replace BR := hI ((hb.block _ (lt_row BR.out)).trans BR.out)
   replace HB := hI (chain2 HB.out hb (Nat.le_refl _))
   clear hb CB
   cases tb with
   | false =>
    go_wp2
    go_ret
    exact ⟨rfl, HB.out⟩
   | true =>
    obtain ⟨ha8, haf⟩ := hfa (by simp)
    obtain ⟨hb8, hbf⟩ := hfb (by simp)
    replace KA := hI (KA.out ha8 haf)
    replace KB := hI (KB.out hb8 hbf)
    replace KM := hI (KM.out (by simp))
    clear hfa hfb haf hbf
    have c0 : w4.cell? ⟨w.heap.size, 0, none⟩ = some r0 := by rw [cell_of_row _ _ _ _ _ _ BR.out]; rfl
    have c1 : w4.cell? ⟨w.heap.size, 1, none⟩ = some r1 := by rw [cell_of_row _ _ _ _ _ _ BR.out]; rfl
    have c2 : w4.cell? ⟨w.heap.size, 2, none⟩ = some r2 := by rw [cell_of_row _ _ _ _ _ _ BR.out]; rfl
    have c3 : w4.cell? ⟨w.heap.size, 3, none⟩ = some r3 := by rw [cell_of_row _ _ _ _ _ _ BR.out]; rfl
    go_wp2_with fail
    with_reducible refine (KM.out _ HB.out).mono ?_
    rintro e w5 ⟨t0, ⟨cst, rfl, ht5, hb5⟩, r', hmt, hcn⟩
    replace HB := hI (chain2 HB.out hb5 (Nat.le_refl _))
    have HT5 : Hid (TmAt w5 (Has w5) t0 cst) := ht5.more (fun b hb => by rcases hb with h | h; exact h.elim; exact h.2)
    have HM := hI hmt
    have HCN := hI hcn
    clear hb5 ht5 hmt hcn KM c0 c1 c2 c3 BR
    go_wp2_with fail
    with_reducible refine (KA.out _ HB.out).mono ?_
    rintro e w6 ⟨sa, va, rfl, ha6, hb6, hla6, hpa⟩
    replace HB := hI (chain2 HB.out hb6 (Nat.le_refl _))
    have HT6 : Hid (TmAt w6 (Has w6) t0 cst) := (HT5.out.below (In.has w5) hb6).more (fun b hb => Nat.lt_of_lt_of_le (In.has w5 b hb) hb6.size)
    have HA6 : Hid (AsV w6 (Has w6) sa va) := ha6.more (fun b hb => by rcases hb with h | h; exact h.elim; exact h.2)
    have HPA := hI hpa
    clear hb6 ha6 hpa KA HT5
    go_wp2_with fail
    with_reducible refine (KB.out _ HB.out).mono ?_
    rintro e w7 ⟨sb, vb, rfl, ha7, hb7, hlb7, hpb⟩
    replace HB := hI (chain2 HB.out hb7 (Nat.le_refl _))
    have HT7 : Hid (TmAt w7 (Has w7) t0 cst) := (HT6.out.below (In.has w6) hb7).more (fun b hb => Nat.lt_of_lt_of_le (In.has w6 b hb) hb7.size)
    have HA7 : Hid (AsV w7 (Has w7) sa va) := (HA6.out.keep (fun b hb => Nat.lt_of_lt_of_le (In.has w6 b hb) hb7.size) (fun b hb => hb7.block b (In.has w6 b hb)))
    have HB7 : Hid (AsV w7 (Has w7) sb vb) := ha7.more (fun b hb => by rcases hb with h | h; exact h.elim; exact h.2)
    have HPB := hI hpb
    have hsa8 : sa.length ≤ 8 := by omega
    have hsb8 : sb.length ≤ 8 := by omega
    clear hb7 ha7 hpb KB HT6 HA6 hla6 hlb7 ha8 hb8
    have O0 := hI HT7.out.o11
    have O1 := hI O0.out.1
    have T7 : Hid (TB (w7.alloc (.cells #[.int .i64 0, .string ⟨#[]⟩, .string ⟨#[]⟩, .int .i64 0, .string ⟨#[]⟩, .string ⟨#[]⟩, .string ⟨#[]⟩, .string ⟨#[]⟩, .string ⟨#[]⟩, .slice none 0 0, .slice none 0 0] 45)) w7.heap.size zT) := heap_alloc_new w7 _
    have hYb : Below w7.heap.size w7 ((w7.alloc (.cells #[.int .i64 0, .string ⟨#[]⟩, .string ⟨#[]⟩, .int .i64 0, .string ⟨#[]⟩, .string ⟨#[]⟩, .string ⟨#[]⟩, .string ⟨#[]⟩, .string ⟨#[]⟩, .slice none 0 0, .slice none 0 0] 45)).setRow w7.heap.size cst.toArray) := below_setRowO (below_alT w7 _) (Nat.le_refl _) _
    have hup : ∀ b, Has w7 b → Has ((w7.alloc (.cells #[.int .i64 0, .string ⟨#[]⟩, .string ⟨#[]⟩, .int .i64 0, .string ⟨#[]⟩, .string ⟨#[]⟩, .string ⟨#[]⟩, .string ⟨#[]⟩, .string ⟨#[]⟩, .slice none 0 0, .slice none 0 0] 45)).setRow w7.heap.size cst.toArray) b := fun b hb => Nat.lt_of_lt_of_le (In.has w7 b hb) hYb.size
    have HTY : Hid (TmAt ((w7.alloc (.cells #[.int .i64 0, .string ⟨#[]⟩, .string ⟨#[]⟩, .int .i64 0, .string ⟨#[]⟩, .string ⟨#[]⟩, .string ⟨#[]⟩, .string ⟨#[]⟩, .string ⟨#[]⟩, .slice none 0 0, .slice none 0 0] 45)).setRow w7.heap.size cst.toArray) (Has ((w7.alloc (.cells #[.int .i64 0, .string ⟨#[]⟩, .string ⟨#[]⟩, .int .i64 0, .string ⟨#[]⟩, .string ⟨#[]⟩, .string ⟨#[]⟩, .string ⟨#[]⟩, .string ⟨#[]⟩, .slice none 0 0, .slice none 0 0] 45)).setRow w7.heap.size cst.toArray)) t0 cst) := (HT7.out.below (In.has w7) hYb).more hup
    have HAY : Hid (AsV ((w7.alloc (.cells #[.int .i64 0, .string ⟨#[]⟩, .string ⟨#[]⟩, .int .i64 0, .string ⟨#[]⟩, .string ⟨#[]⟩, .string ⟨#[]⟩, .string ⟨#[]⟩, .string ⟨#[]⟩, .slice none 0 0, .slice none 0 0] 45)).setRow w7.heap.size cst.toArray) (Has ((w7.alloc (.cells #[.int .i64 0, .string ⟨#[]⟩, .string ⟨#[]⟩, .int .i64 0, .string ⟨#[]⟩, .string ⟨#[]⟩, .string ⟨#[]⟩, .string ⟨#[]⟩, .string ⟨#[]⟩, .slice none 0 0, .slice none 0 0] 45)).setRow w7.heap.size cst.toArray)) sa va) := HA7.out.keep hup (fun b hb => hYb.block b (In.has w7 b hb))
    have HBYv : Hid (AsV ((w7.alloc (.cells #[.int .i64 0, .string ⟨#[]⟩, .string ⟨#[]⟩, .int .i64 0, .string ⟨#[]⟩, .string ⟨#[]⟩, .string ⟨#[]⟩, .string ⟨#[]⟩, .string ⟨#[]⟩, .slice none 0 0, .slice none 0 0] 45)).setRow w7.heap.size cst.toArray) (Has ((w7.alloc (.cells #[.int .i64 0, .string ⟨#[]⟩, .string ⟨#[]⟩, .int .i64 0, .string ⟨#[]⟩, .string ⟨#[]⟩, .string ⟨#[]⟩, .string ⟨#[]⟩, .string ⟨#[]⟩, .slice none 0 0, .slice none 0 0] 45)).setRow w7.heap.size cst.toArray)) sb vb) := HB7.out.keep hup (fun b hb => hYb.block b (In.has w7 b hb))
    have BT : Hid (TB ((w7.alloc (.cells #[.int .i64 0, .string ⟨#[]⟩, .string ⟨#[]⟩, .int .i64 0, .string ⟨#[]⟩, .string ⟨#[]⟩, .string ⟨#[]⟩, .string ⟨#[]⟩, .string ⟨#[]⟩, .slice none 0 0, .slice none 0 0] 45)).setRow w7.heap.size cst.toArray) w7.heap.size cst) := T7.out.set _
    have HBW : Hid (Below w.heap.size w ((w7.alloc (.cells #[.int .i64 0, .string ⟨#[]⟩, .string ⟨#[]⟩, .int .i64 0, .string ⟨#[]⟩, .string ⟨#[]⟩, .string ⟨#[]⟩, .string ⟨#[]⟩, .string ⟨#[]⟩, .slice none 0 0, .slice none 0 0] 45)).setRow w7.heap.size cst.toArray)) := HB.out.trans (hYb.mono HB.out.size)
    clear hYb hup HT7 HA7 HB7 HB
    go_upto_region 6 with ((with_reducible refine storeTb (cs := cst) (.tmp 7) (.tmp 28) ?_ ?_ ?_ ?_ T7.out ?_ ?_ ?_ ?_); rfl; rfl; rfl; rfl; rfl; exact O1.out; exact O0.out.2)
    clear T7
    generalize ((w7.alloc (.cells #[.int .i64 0, .string ⟨#[]⟩, .string ⟨#[]⟩, .int .i64 0, .string ⟨#[]⟩, .string ⟨#[]⟩, .string ⟨#[]⟩, .string ⟨#[]⟩, .string ⟨#[]⟩, .slice none 0 0, .slice none 0 0] 45)).setRow w7.heap.size cst.toArray) = Y at *
    generalize w7.heap.size = g0 at *
    have hAY := HAY.out
    have hBY := HBYv.out
    obtain ⟨A1, ca, rfl, hlca, hrows⟩ := hAY
    obtain ⟨B2, cb2, rfl, _, _⟩ := hBY
    have HR := hI hrows
    obtain ⟨L, hL⟩ : ∃ L, sa.length = L := ⟨_, rfl⟩
    have HL := hI hL
    rw [hL] at hsa8 hlca ⊢
    obtain ⟨i0, hi0, hz0, hz1, hz2⟩ := infoA
    have HI0 := hI hi0
    have HZ0 := hI hz0
    have HZ1 := hI hz1
    have HZ2 := hI hz2
    have h0 : Hid (CpL Y Y sa sb 0 (.slice none 0 0)) := ⟨[], MkA.start _ _⟩
    have HSY : Hid (In (Has Y) Y) := In.has Y
    clear hL hi0 hz0 hz1 hz2 hrows
    go_wp2_with fail
    go_loopw [10, 11] (fun u v wr => ∃ (i : Nat) (sl : Value), sl = u ∧ i ≤ L ∧ v = .int .i64 (i : Int) ∧ Hid (CpL Y wr sa sb i sl)) (fun _ v _ => L - (intOf v).toNat)
    case atStart => exact ⟨0, _, rfl, Nat.zero_le _, rfl, h0⟩
    case round =>
     clear h0
     obtain ⟨i, sl, rfl, hiL, rfl, hE⟩ := hrel
     obtain ⟨wo, rfl⟩ : ∃ wo : World, wo = wr := ⟨_, rfl⟩
     obtain ⟨xs, hM⟩ := hE.out
     have hYs := hM.bel.size
     have HSO : Hid (In (Has Y) wo) := (In.has Y).later hYs
     by_cases hlt : i < L
     · have hil : i < sa.length := by rw [HL.out]; exact hlt
       obtain ⟨b, o, rfl, hbS, hcell⟩ := HR.out (by omega)
       obtain ⟨cs, hcs, hcl⟩ := hcell i hil
       have ha0 : b < Y.heap.size := In.has Y b hbS.1
       obtain ⟨x, hx⟩ : ∃ x, x = sa[i].1 := ⟨_, rfl⟩
       obtain ⟨t, ht⟩ : ∃ t, t = sa[i].2 := ⟨_, rfl⟩
       rw [← hx] at hcl
       rw [← ht] at hcs
       have hTK : (sa.take (i + 1)).map (fun p => (p.1, subT sb p.2)) = (sa.take i).map (fun p => (p.1, subT sb p.2)) ++ [(x, subT sb t)] := by
        rw [List.take_add_one, List.getElem?_eq_getElem hil, List.map_append, hx, ht]; rfl
       have hLN : ((sa.take i).map (fun p => (p.1, subT sb p.2))).length = i := by simp; omega
       have HTK := hI hTK
       have HLN := hI hLN
       obtain ⟨y0, y1, y2, y3, y4, y5, y6, A3, c3, rfl, _, _⟩ := hcs.eleven
       have N0 : Hid (wo.cell? ⟨b, o + i * 13, none⟩ = some (.string x.1)) := (hM.bel.cell (p := ⟨b, o + i * 13, none⟩) ha0).trans (hcl 0 _ rfl)
       have N1 := hI ((hM.bel.cell (p := ⟨b, o + i * 13 + 1, none⟩) ha0).trans (hcl 1 _ rfl))
       have N2 := hI ((hM.bel.cell (p := ⟨b, o + i * 13 + 2, none⟩) ha0).trans (hcl 2 _ rfl))
       have N3 := hI ((hM.bel.cell (p := ⟨b, o + i * 13 + 3, none⟩) ha0).trans (hcl 3 _ rfl))
       have N4 := hI ((hM.bel.cell (p := ⟨b, o + i * 13 + 4, none⟩) ha0).trans (hcl 4 _ rfl))
       have N5 := hI ((hM.bel.cell (p := ⟨b, o + i * 13 + 5, none⟩) ha0).trans (hcl 5 _ rfl))
       have N6 := hI ((hM.bel.cell (p := ⟨b, o + i * 13 + 6, none⟩) ha0).trans (hcl 6 _ rfl))
       have N7 := hI ((hM.bel.cell (p := ⟨b, o + i * 13 + 7, none⟩) ha0).trans (hcl 7 _ rfl))
       have N8 := hI ((hM.bel.cell (p := ⟨b, o + i * 13 + 8, none⟩) ha0).trans (hcl 8 _ rfl))
       have N9 := hI ((hM.bel.cell (p := ⟨b, o + i * 13 + 9, none⟩) ha0).trans (hcl 9 _ rfl))
       have N10 := hI ((hM.bel.cell (p := ⟨b, o + i * 13 + 10, none⟩) ha0).trans (hcl 10 _ rfl))
       have N11 := hI ((hM.bel.cell (p := ⟨b, o + i * 13 + 11, none⟩) ha0).trans (hcl 11 _ rfl))
       have N12 := hI ((hM.bel.cell (p := ⟨b, o + i * 13 + 12, none⟩) ha0).trans (hcl 12 _ rfl))
       have HLB : Hid (b < wo.heap.size) := Nat.lt_of_lt_of_le ha0 hYs
       have htn : t.nodes ≤ 24 := by rw [ht]; exact (HPA.out _ (List.getElem_mem hil)).1
       have CALL : Hid (∀ X, Below wo.heap.size wo X → Calls Tryz.prog 38 #[.agg #[.int .i64 t.kd, .string t.nm.1, .string t.nm.2, y0, y1, y2, y3, y4, y5, y6, .slice A3 t.args.length c3], .slice B2 sb.length cb2] X (RetT X (Has Y) (subT sb t))) := fun X hX => by
        have hc := chain2 hM.bel hX (Nat.le_refl _)
        exact substituteP sb _ t [.int .i64 t.kd, .string t.nm.1, .string t.nm.2, y0, y1, y2, y3, y4, y5, y6, .slice A3 t.args.length c3] X (Has Y) ((In.has Y).later hc.size) (hcs.below (In.has Y) hc) (HBYv.out.keep (fun _ h => h) (fun b hb => hc.block b (In.has Y b hb))) (by omega) (by omega)
       have HMK := hI hM
       clear hcell hcs hcl hM hE hx ht hTK hLN htn
       go_wp2_with fail
       refine wp_region_grow (l := _) 15 (by kernel_rfl) (by kernel_rfl) (fun i => [39, 40, 41, 42, 43, 44, 45, 46, 47, 48, 49, 50, 51, 52, 53].getD i 0) (LR [LV (sl), LV (.slice (some ⟨b, o, none⟩) L ca), LV (.int .i64 (i : Int)), LV (.pointer (some ⟨b, o + i * 13, none⟩)), LV (.pointer (some ⟨b, o + i * 13, none⟩)), LV (.agg #[.string x.1, .string x.2]), LV (.slice (some ⟨b, o, none⟩) L ca), LV (.int .i64 (i : Int)), LV (.pointer (some ⟨b, o + i * 13, none⟩)), LV (.pointer (some ⟨b, o + i * 13 + 2, none⟩)), LV (.agg #[.int .i64 t.kd, .string t.nm.1, .string t.nm.2, y0, y1, y2, y3, y4, y5, y6, .slice A3 t.args.length c3]), LV (.slice B2 sb.length cb2), LTm wo (Has Y) (subT sb t), LCP wo (Has Y) x (subT sb t), LCS wo (Has Y) x (subT sb t)]) (LR_mono ⟨mLV _, mLV _, mLV _, mLV _, mLV _, mLV _, mLV _, mLV _, mLV _, mLV _, mLV _, mLV _, mLTm (HSO.out) _, mLCP HSO.out _ _, mLCS HSO.out _ _, trivial⟩) (by
        intro i j hi hj h
        exact inj_getD [39, 40, 41, 42, 43, 44, 45, 46, 47, 48, 49, 50, 51, 52, 53] (by decide) i j hi hj h) (by
        intro i hi
        exact lt_getD 67 [39, 40, 41, 42, 43, 44, 45, 46, 47, 48, 49, 50, 51, 52, 53] (by decide) i hi) ?step ?done
       case step =>
        intro ii hii a w9 v lo hi' hoth hb hw
        have sl8 : a.tmps[8]? = some (.slice (some ⟨b, o, none⟩) L ca) := (hoth 8 (fun j hj => ne_getD 8 _ (by decide) j hj)).trans rfl
        have sl9 : a.tmps[9]? = some (.slice B2 sb.length cb2) := (hoth 9 (fun j hj => ne_getD 9 _ (by decide) j hj)).trans rfl
        have sl10 : a.tmps[10]? = some (sl) := (hoth 10 (fun j hj => ne_getD 10 _ (by decide) j hj)).trans rfl
        have sl11 : a.tmps[11]? = some (.int .i64 (i : Int)) := (hoth 11 (fun j hj => ne_getD 11 _ (by decide) j hj)).trans rfl
        match ii, hii with
        | 0, _ =>
         exact gw_move rfl (wanted_plain rfl) 10 _ rfl sl10 ⟨_, rfl, Below.refl _ _, rfl⟩
        | 1, _ =>
         exact gw_move rfl (wanted_plain rfl) 8 _ rfl sl8 ⟨_, rfl, Below.refl _ _, rfl⟩
        | 2, _ =>
         exact gw_move rfl (wanted_plain rfl) 11 _ rfl sl11 ⟨_, rfl, Below.refl _ _, rfl⟩
        | 3, _ =>
         obtain ⟨s0, r0, _⟩ := hw 1 (by omega) (by kernel_rfl)
         have e0 : v 1 = .slice (some ⟨b, o, none⟩) L ca := r0
         rw [e0] at s0
         replace s0 : a.tmps[40]? = some (.slice (some ⟨b, o, none⟩) L ca) := s0
         obtain ⟨s1, r1, _⟩ := hw 2 (by omega) (by kernel_rfl)
         have e1 : v 2 = .int .i64 (i : Int) := r1
         rw [e1] at s1
         replace s1 : a.tmps[41]? = some (.int .i64 (i : Int)) := s1
         refine wpOp_step rfl fun K' hK' => ?_
         rw [if_pos (wanted_plain rfl)]
         unfold Oper.wp
         simp only [execOp]
         go_simp
         exact hK' _ _ ⟨_, rfl, Below.refl _ _, rfl⟩
        | 4, _ =>
         obtain ⟨s0, r0, _⟩ := hw 3 (by omega) (by kernel_rfl)
         have e0 : v 3 = .pointer (some ⟨b, o + i * 13, none⟩) := r0
         rw [e0] at s0
         replace s0 : a.tmps[42]? = some (.pointer (some ⟨b, o + i * 13, none⟩)) := s0
         refine wpOp_step rfl fun K' hK' => ?_
         rw [if_pos (wanted_plain rfl)]
         unfold Oper.wp
         simp only [execOp]
         go_simp
         exact hK' _ _ ⟨_, rfl, Below.refl _ _, rfl⟩
        | 5, _ =>
         obtain ⟨s0, r0, _⟩ := hw 4 (by omega) (by kernel_rfl)
         have e0 : v 4 = .pointer (some ⟨b, o + i * 13, none⟩) := r0
         rw [e0] at s0
         replace s0 : a.tmps[43]? = some (.pointer (some ⟨b, o + i * 13, none⟩)) := s0
         have cc0 := (hb.cell (p := ⟨b, o + i * 13, none⟩) HLB.out).trans N0.out
         have cc1 := (hb.cell (p := ⟨b, o + i * 13 + 1, none⟩) HLB.out).trans N1.out
         refine wpOp_step rfl fun K' hK' => ?_
         rw [if_pos (wanted_plain rfl)]
         unfold Oper.wp
         simp only [execOp]
         go_simp
         exact hK' _ _ ⟨_, rfl, Below.refl _ _, rfl⟩
        | 6, _ =>
         exact gw_move rfl (wanted_plain rfl) 8 _ rfl sl8 ⟨_, rfl, Below.refl _ _, rfl⟩
        | 7, _ =>
         exact gw_move rfl (wanted_plain rfl) 11 _ rfl sl11 ⟨_, rfl, Below.refl _ _, rfl⟩
        | 8, _ =>
         obtain ⟨s0, r0, _⟩ := hw 6 (by omega) (by kernel_rfl)
         have e0 : v 6 = .slice (some ⟨b, o, none⟩) L ca := r0
         rw [e0] at s0
         replace s0 : a.tmps[45]? = some (.slice (some ⟨b, o, none⟩) L ca) := s0
         obtain ⟨s1, r1, _⟩ := hw 7 (by omega) (by kernel_rfl)
         have e1 : v 7 = .int .i64 (i : Int) := r1
         rw [e1] at s1
         replace s1 : a.tmps[46]? = some (.int .i64 (i : Int)) := s1
         refine wpOp_step rfl fun K' hK' => ?_
         rw [if_pos (wanted_plain rfl)]
         unfold Oper.wp
         simp only [execOp]
         go_simp
         exact hK' _ _ ⟨_, rfl, Below.refl _ _, rfl⟩
        | 9, _ =>
         obtain ⟨s0, r0, _⟩ := hw 8 (by omega) (by kernel_rfl)
         have e0 : v 8 = .pointer (some ⟨b, o + i * 13, none⟩) := r0
         rw [e0] at s0
         replace s0 : a.tmps[47]? = some (.pointer (some ⟨b, o + i * 13, none⟩)) := s0
         refine wpOp_step rfl fun K' hK' => ?_
         rw [if_pos (wanted_plain rfl)]
         unfold Oper.wp
         simp only [execOp]
         go_simp
         exact hK' _ _ ⟨_, rfl, Below.refl _ _, rfl⟩
        | 10, _ =>
         obtain ⟨s0, r0, _⟩ := hw 9 (by omega) (by kernel_rfl)
         have e0 : v 9 = .pointer (some ⟨b, o + i * 13 + 2, none⟩) := r0
         rw [e0] at s0
         replace s0 : a.tmps[48]? = some (.pointer (some ⟨b, o + i * 13 + 2, none⟩)) := s0
         have ct0 := (hb.cell (p := ⟨b, o + i * 13 + 2, none⟩) HLB.out).trans N2.out
         have ct1 := (hb.cell (p := ⟨b, o + i * 13 + 3, none⟩) HLB.out).trans N3.out
         have ct2 := (hb.cell (p := ⟨b, o + i * 13 + 4, none⟩) HLB.out).trans N4.out
         have ct3 := (hb.cell (p := ⟨b, o + i * 13 + 5, none⟩) HLB.out).trans N5.out
         have ct4 := (hb.cell (p := ⟨b, o + i * 13 + 6, none⟩) HLB.out).trans N6.out
         have ct5 := (hb.cell (p := ⟨b, o + i * 13 + 7, none⟩) HLB.out).trans N7.out
         have ct6 := (hb.cell (p := ⟨b, o + i * 13 + 8, none⟩) HLB.out).trans N8.out
         have ct7 := (hb.cell (p := ⟨b, o + i * 13 + 9, none⟩) HLB.out).trans N9.out
         have ct8 := (hb.cell (p := ⟨b, o + i * 13 + 10, none⟩) HLB.out).trans N10.out
         have ct9 := (hb.cell (p := ⟨b, o + i * 13 + 11, none⟩) HLB.out).trans N11.out
         have ct10 := (hb.cell (p := ⟨b, o + i * 13 + 12, none⟩) HLB.out).trans N12.out
         refine wpOp_step rfl fun K' hK' => ?_
         rw [if_pos (wanted_plain rfl)]
         unfold Oper.wp
         simp only [execOp]
         go_simp
         exact hK' _ _ ⟨_, rfl, Below.refl _ _, rfl⟩
        | 11, _ =>
         exact gw_move rfl (wanted_plain rfl) 9 _ rfl sl9 ⟨_, rfl, Below.refl _ _, rfl⟩
        | 12, _ =>
         obtain ⟨s0, r0, _⟩ := hw 10 (by omega) (by kernel_rfl)
         have e0 : v 10 = .agg #[.int .i64 t.kd, .string t.nm.1, .string t.nm.2, y0, y1, y2, y3, y4, y5, y6, .slice A3 t.args.length c3] := r0
         rw [e0] at s0
         replace s0 : a.tmps[49]? = some (.agg #[.int .i64 t.kd, .string t.nm.1, .string t.nm.2, y0, y1, y2, y3, y4, y5, y6, .slice A3 t.args.length c3]) := s0
         obtain ⟨s1, r1, _⟩ := hw 11 (by omega) (by kernel_rfl)
         have e1 : v 11 = .slice B2 sb.length cb2 := r1
         rw [e1] at s1
         replace s1 : a.tmps[50]? = some (.slice B2 sb.length cb2) := s1
         refine gw_tt rfl (wanted_plain rfl) 38 49 50 _ _ _ rfl (fun v u w => by go_simp) s0 s1 ?_
         with_reducible refine (CALL.out w9 hb).mono ?_
         rintro e w3 ⟨cs3, rfl, h3, hb3⟩
         exact ⟨_, rfl, _, rfl, hb3, Nat.le_trans hb.size hb3.size, cs3, rfl, h3.more (fun b hb0 => up3 (Below.refl _ wo) hb b hb0)⟩
        | 13, _ =>
         obtain ⟨s0, r0, _⟩ := hw 5 (by omega) (by kernel_rfl)
         have e0 : v 5 = .agg #[.string x.1, .string x.2] := r0
         rw [e0] at s0
         replace s0 : a.tmps[44]? = some (.agg #[.string x.1, .string x.2]) := s0
         obtain ⟨s1, r1, b1⟩ := hw 12 (by omega) (by kernel_rfl)
         obtain ⟨hz1, cs1, e1, ht1⟩ := r1
         rw [e1] at s1
         obtain ⟨tt, htt⟩ : ∃ tt, subT sb t = tt := ⟨_, rfl⟩
         rw [htt] at ht1 ⊢
         obtain ⟨u0, u1, u2, u3, u4, u5, u6, A5, c5, ec, _, _⟩ := ht1.eleven
         subst ec
         unfold vTm at s1
         replace s1 : a.tmps[51]? = some (.agg #[.int .i64 tt.kd, .string tt.nm.1, .string tt.nm.2, u0, u1, u2, u3, u4, u5, u6, .slice A5 tt.args.length c5]) := s1
         refine wpOp_step rfl fun K' hK' => ?_
         rw [if_pos (wanted_plain rfl)]
         unfold Oper.wp
         simp only [execOp]
         go_simp
         exact hK' _ _ ⟨_, rfl, Below.refl _ _, Nat.le_trans hb.size (Nat.le_refl _), _, rfl, ht1⟩
        | 14, _ =>
         obtain ⟨s0, r0, b0⟩ := hw 13 (by omega) (by kernel_rfl)
         obtain ⟨hz0, cs0, e0, ht0⟩ := r0
         rw [e0] at s0
         obtain ⟨tt, htt⟩ : ∃ tt, subT sb t = tt := ⟨_, rfl⟩
         rw [htt] at ht0 ⊢
         obtain ⟨u0, u1, u2, u3, u4, u5, u6, A5, c5, ec, _, _⟩ := ht0.eleven
         subst ec
         replace s0 : a.tmps[52]? = some (.agg #[.string x.1, .string x.2, .int .i64 tt.kd, .string tt.nm.1, .string tt.nm.2, u0, u1, u2, u3, u4, u5, u6, .slice A5 tt.args.length c5]) := s0
         refine wpOp_step rfl fun K' hK' => ?_
         rw [if_pos (wanted_plain rfl)]
         unfold Oper.wp
         simp only [execOp]
         go_simp
         exact hK' _ _ ⟨_, rfl, below_alT _ _, Nat.le_trans hb.size (below_alT _ _).size, _, rfl, heap_alloc_new _ _, by simp, (ht0.below (fun b hb' => upto_lt HSO.out hb.size b hb') (below_alT _ _)).more (fun b hb' => upto_more (below_alT _ _).size b hb')⟩
        | k + 15, h => exact absurd h (by omega)
       case done =>
        intro a w9 v lo hi' hdef hsz hoth hb hj hap
        obtain ⟨_, hv0, _, _⟩ := hj 0 (by omega)
        obtain ⟨_, ⟨hz14, cs3, hv14, hrow, hlt14, h3⟩, hlo14, hhi14⟩ := hj 14 (by omega)
        have ha := eq_puts hdef hsz hoth (fun i hi => (hj i hi).1)
        subst ha
        clear hj hoth hdef hsz hap
        change v 0 = _ at hv0
        simp only [puts, List.getD_cons_zero, List.getD_cons_succ, hv0, hv14]
        generalize v 1 = v1
        generalize v 2 = v2
        generalize v 3 = v3
        generalize v 4 = v4
        generalize v 5 = v5
        generalize v 6 = v6
        generalize v 7 = v7
        generalize v 8 = v8
        generalize v 9 = v9
        generalize v 10 = v10
        generalize v 11 = v11
        generalize v 12 = v12
        generalize v 13 = v13
        clear hv0 hv14
        simp only [Act.put, List.setIfInBounds_toArray, List.set_cons_zero, List.set_cons_succ]
        show wpList _ _ _ [_, _] _ _
        have O3 := hI h3.o11
        have own3 := hI (HMK.out.below hb).own
        rw [HLN.out] at own3
        have HSTEP : Hid (∀ v' w4, w4.ownsRow Y.heap.size 64 13 v' (i + 1) (xs.flatten ++ Value.string x.1 :: Value.string x.2 :: cs3) → w9.grownBy w4 sl.ownBlock → (v'.ownBlock = sl.ownBlock ∨ v'.ownBlock = some w9.heap.size) → CpL Y w4 sa sb (i + 1) v') :=
         fun v' w4 h4 hg hat => ⟨_, by rw [HTK.out]; exact HMK.out.step2 (In.has Y) hb h3 (by rw [HLN.out]; exact h4) hg hat⟩
        have hone : ∀ u ∈ (Value.string x.1 :: Value.string x.2 :: cs3), u.oneCell' = true := by
         intro u hu
         rcases List.mem_cons.1 hu with rfl | hu
         · rfl
         · rcases List.mem_cons.1 hu with rfl | hu
           · rfl
           · exact O3.out.2 u hu
        have hnews : ∀ j u, (Value.string x.1 :: Value.string x.2 :: cs3)[j]? = some u → w9.cell? ((⟨lo 14, 0, none⟩ : Addr).add j) = some u := news_at hrow
        have hs3 : Y.heap.size ≤ w9.heap.size := by have := hb.size; omega
        obtain ⟨tt, htt⟩ : ∃ tt, subT sb t = tt := ⟨_, rfl⟩
        rw [htt] at h3
        obtain ⟨u0, u1, u2, u3, u4, u5, u6, A5, c5, e5, _, _⟩ := h3.eleven
        subst e5
        have HONE := hI hone
        have HNEWS := hI hnews
        generalize lo 14 = q at *
        clear h3 hb CALL hone hnews HMK hYs htt
        go_wp2_with (at_builtin; refine wpList_append_own_at _ rfl (.tmp 39) (.tmp 53) _ rfl Y.heap.size 64 i0 _ 13 208 Tryz.underlying60 HI0.out HZ0.out HZ1.out HZ2.out rfl (by omega) sl i xs.flatten rfl own3.out ⟨q, 0, none⟩ 1 1 [.string x.1, .string x.2, .int .i64 tt.kd, .string tt.nm.1, .string tt.nm.2, u0, u1, u2, u3, u4, u5, u6, .slice A5 tt.args.length c5] rfl rfl HNEWS.out HONE.out (by simp only [maxLen]; omega) (by omega) hs3 ?_; intro v4 w4 hown4 hg4 hnil4 hat4; have hst := hI (HSTEP.out v4 w4 hown4 hg4 hat4); clear hown4 hg4 hnil4 hat4)
        go_roundw
        case rel => exact ⟨i + 1, _, rfl, by omega, by go_num, hst⟩
        case measure => simp [intOf]; omega
     · have hiL2 : i = L := by omega
       have hn2 : ¬ (i : Int) < L := by omega
       have HM2 : Hid (MkA (Has Y) Y wo (sa.map (fun p => (p.1, subT sb p.2))) sl xs) := (show MkA _ _ _ _ _ _ by rw [hiL2, ← HL.out, List.take_length] at hM; exact hM)
       have HV2 : Hid (AsV wo (Has Y) sb (.slice B2 sb.length cb2)) := HBYv.out.keep (fun _ h => h) (fun b hb => hM.bel.block b (In.has Y b hb))
       have HLL : Hid ((sa.map (fun p => (p.1, subT sb p.2))).length + sb.length ≤ 100000) := (show _ ≤ _ by rw [List.length_map, HL.out]; omega)
       clear hM hE hlt hYs
       go_wp2_with (at_builtin; refine wpList_appendA rfl (.tmp 55) (.tmp 56) rfl HM2.out HSY.out HV2.out rfl rfl HLL.out ?_; intro v5 w5 hz5)
       obtain ⟨zs, hZ⟩ := hz5
       have hAll : ∀ p ∈ compA sa sb, p.2.nodes ≤ 144 ∧ p.2.bd 10 := by
        intro p hp
        rcases List.mem_append.1 hp with h | h
        · obtain ⟨p0, h0, rfl⟩ := List.mem_map.1 h
          obtain ⟨_, hbd, _, r2, hm2, hc2⟩ := HPA.out p0 h0
          refine ⟨?_, subT_bd (fun p' hp' => (HPB.out p' hp').2.1) _ hbd⟩
          have h1 := subT_nodes (s := sb) (N := 24) (by decide) (fun p' hp' => (HPB.out p' hp').1) r2 p0.2 hm2
          have h2 : 24 * r2.cnt ≤ 24 * 6 := Nat.mul_le_mul_left _ hc2
          show (subT sb p0.2).nodes ≤ 144
          omega
        · have := HPB.out p h
          exact ⟨by omega, this.2.1⟩
       have hbd0 : t0.bd 10 := mtP_bd _ _ HM.out
       have hn0 := mtP_nodes _ _ HM.out
       have hcn := HCN.out
       have HN0 : Hid (t0.nodes ≤ 3000) := (show _ ≤ _ by omega)
       have HN1 : Hid ((subT sa t0).nodes ≤ 3000) := (show _ ≤ _ by
        have h1 := subT_nodes (s := sa) (N := 24) (by decide) (fun p' hp' => (HPA.out p' hp').1) r' t0 HM.out
        have h2 : 24 * r'.cnt ≤ 24 * 20 := Nat.mul_le_mul_left _ hcn
        omega)
       have HN3 : Hid ((subT (compA sa sb) t0).nodes ≤ 3000) := (show _ ≤ _ by
        have h1 := subT_nodes (s := compA sa sb) (N := 144) (by decide) (fun p' hp' => (hAll p' hp').1) r' t0 HM.out
        have h2 : 144 * r'.cnt ≤ 144 * 20 := Nat.mul_le_mul_left _ hcn
        omega)
       have HN2 : Hid ((subT sb (subT sa t0)).nodes ≤ 3000) := (show _ ≤ _ by rw [subT_comp]; exact HN3.out)
       have HBD2 : Hid ((subT (compA sa sb) t0).bd 10) := subT_bd (fun p' hp' => (hAll p' hp').2) _ hbd0
       have HBD : Hid ((subT sb (subT sa t0)).bd 10) := (show Tm.bd _ _ by rw [subT_comp]; exact HBD2.out)
       have HEQ : Hid (eqT (subT sb (subT sa t0)) (subT (compA sa sb) t0) = true) := (show _ = _ by rw [subT_comp]; exact eqT_refl _)
       have hup : ∀ b, Has Y b → Has w5 b := fun b hb => Nat.lt_of_lt_of_le (In.has Y b hb) hZ.bel.size
       have HT5 : Hid (TmAt w5 (Has w5) t0 cst) := (HTY.out.below (In.has Y) hZ.bel).more hup
       have HA5 : Hid (AsV w5 (Has w5) sa (.slice A1 L ca)) := (show AsV _ _ _ _ by have h := HAY.out.keep hup (fun b hb => hZ.bel.block b (In.has Y b hb)); rw [HL.out] at h; exact h)
       have HB5 : Hid (AsV w5 (Has w5) sb (.slice B2 sb.length cb2)) := HBYv.out.keep hup (fun b hb => hZ.bel.block b (In.has Y b hb))
       have hC5 : AsV w5 (Has w5) (compA sa sb) v5 := hZ.slice.keep (fun b hb => by rcases hb with h | h; exact hup b h; exact h.2) (fun _ _ => rfl)
       have HC5 := hI hC5
       have HLA : Hid (sa.length ≤ 100000) := (show _ ≤ _ by rw [HL.out]; omega)
       have HLB2 : Hid (sb.length ≤ 100000) := (show _ ≤ _ by omega)
       have HLC : Hid ((compA sa sb).length ≤ 100000) := (show _ ≤ _ by have := HLL.out; unfold compA; rw [List.length_append]; exact this)
       have BT5 : Hid (TB w5 g0 cst) := BT.out.keep hZ.bel
       have HBF : Hid (Below w.heap.size w w5) := HBW.out.trans (hZ.bel.mono HBW.out.size)
       obtain ⟨q0, q1, q2, q3, q4, q5, q6, A4, c4, rfl, _, _⟩ := HTY.out.eleven
       clear hAll hbd0 hn0 hcn hup hZ hC5 HTY HAY HBYv BT HBW HR HPA HPB HM2 HV2 HLL HM HCN HSY
       refine wp_region_grow (l := _) 9 (by kernel_rfl) (by kernel_rfl) (fun i => [58, 59, 60, 61, 62, 63, 64, 65, 66].getD i 0) (LR [LV (.agg #[.int .i64 t0.kd, .string t0.nm.1, .string t0.nm.2, q0, q1, q2, q3, q4, q5, q6, .slice A4 t0.args.length c4]), LV (.slice A1 L ca), LTm w5 (Has w5) (subT sa t0), LV (.slice B2 sb.length cb2), LTm w5 (Has w5) (subT sb (subT sa t0)), LV (.agg #[.int .i64 t0.kd, .string t0.nm.1, .string t0.nm.2, q0, q1, q2, q3, q4, q5, q6, .slice A4 t0.args.length c4]), LV (v5), LTm w5 (Has w5) (subT (compA sa sb) t0), LV (.bool true)]) (LR_mono ⟨mLV _, mLV _, mLTm (In.has w5) _, mLV _, mLTm (In.has w5) _, mLV _, mLV _, mLTm (In.has w5) _, mLV _, trivial⟩) (by
        intro i j hi hj h
        exact inj_getD [58, 59, 60, 61, 62, 63, 64, 65, 66] (by decide) i j hi hj h) (by
        intro i hi
        exact lt_getD 67 [58, 59, 60, 61, 62, 63, 64, 65, 66] (by decide) i hi) ?step ?done
       case step =>
        intro ii hii a w9 v lo hi' hoth hb hw
        have sl7 : a.tmps[7]? = some (.pointer (some ⟨g0, 0, none⟩)) := (hoth 7 (fun j hj => ne_getD 7 _ (by decide) j hj)).trans rfl
        have sl8 : a.tmps[8]? = some (.slice A1 L ca) := (hoth 8 (fun j hj => ne_getD 8 _ (by decide) j hj)).trans rfl
        have sl9 : a.tmps[9]? = some (.slice B2 sb.length cb2) := (hoth 9 (fun j hj => ne_getD 9 _ (by decide) j hj)).trans rfl
        have sl10 : a.tmps[10]? = some (v5) := (hoth 10 (fun j hj => ne_getD 10 _ (by decide) j hj)).trans rfl
        match ii, hii with
        | 0, _ =>
         have ck0 := (hb.cell (p := ⟨g0, 0 + 0, none⟩) BT5.out.lt).trans (BT5.out.cell 0 _ rfl)
         have ck1 := (hb.cell (p := ⟨g0, 0 + 1, none⟩) BT5.out.lt).trans (BT5.out.cell 1 _ rfl)
         have ck2 := (hb.cell (p := ⟨g0, 0 + 2, none⟩) BT5.out.lt).trans (BT5.out.cell 2 _ rfl)
         have ck3 := (hb.cell (p := ⟨g0, 0 + 3, none⟩) BT5.out.lt).trans (BT5.out.cell 3 _ rfl)
         have ck4 := (hb.cell (p := ⟨g0, 0 + 4, none⟩) BT5.out.lt).trans (BT5.out.cell 4 _ rfl)
         have ck5 := (hb.cell (p := ⟨g0, 0 + 5, none⟩) BT5.out.lt).trans (BT5.out.cell 5 _ rfl)
         have ck6 := (hb.cell (p := ⟨g0, 0 + 6, none⟩) BT5.out.lt).trans (BT5.out.cell 6 _ rfl)
         have ck7 := (hb.cell (p := ⟨g0, 0 + 7, none⟩) BT5.out.lt).trans (BT5.out.cell 7 _ rfl)
         have ck8 := (hb.cell (p := ⟨g0, 0 + 8, none⟩) BT5.out.lt).trans (BT5.out.cell 8 _ rfl)
         have ck9 := (hb.cell (p := ⟨g0, 0 + 9, none⟩) BT5.out.lt).trans (BT5.out.cell 9 _ rfl)
         have ck10 := (hb.cell (p := ⟨g0, 0 + 10, none⟩) BT5.out.lt).trans (BT5.out.cell 10 _ rfl)
         refine wpOp_step rfl fun K' hK' => ?_
         rw [if_pos (wanted_plain rfl)]
         unfold Oper.wp
         simp only [execOp]
         go_simp
         exact hK' _ _ ⟨_, rfl, Below.refl _ _, rfl⟩
        | 1, _ =>
         exact gw_move rfl (wanted_plain rfl) 8 _ rfl sl8 ⟨_, rfl, Below.refl _ _, rfl⟩
        | 2, _ =>
         obtain ⟨s0, r0, _⟩ := hw 0 (by omega) (by kernel_rfl)
         have e0 : v 0 = .agg #[.int .i64 t0.kd, .string t0.nm.1, .string t0.nm.2, q0, q1, q2, q3, q4, q5, q6, .slice A4 t0.args.length c4] := r0
         rw [e0] at s0
         replace s0 : a.tmps[58]? = some (.agg #[.int .i64 t0.kd, .string t0.nm.1, .string t0.nm.2, q0, q1, q2, q3, q4, q5, q6, .slice A4 t0.args.length c4]) := s0
         obtain ⟨s1, r1, _⟩ := hw 1 (by omega) (by kernel_rfl)
         have e1 : v 1 = .slice A1 L ca := r1
         rw [e1] at s1
         replace s1 : a.tmps[59]? = some (.slice A1 L ca) := s1
         have CC := substituteP sa (.slice A1 L ca) t0 _ w9 (Upto w5 w9 (Has w5)) ((In.has w5).upto hb.size) ((HT5.out.below (In.has w5) hb).more (fun b hb0 => Or.inl hb0)) (HA5.out.keep (fun b hb0 => Or.inl hb0) (fun b hb0 => hb.block b (In.has w5 b hb0))) HN0.out HLA.out
         unfold vTm at CC
         refine gw_tt rfl (wanted_plain rfl) 38 58 59 _ _ _ rfl (fun v u w => by go_simp) s0 s1 ?_
         with_reducible refine (CC).mono ?_
         rintro e w3 ⟨cs3, rfl, h3, hb3⟩
         exact ⟨_, rfl, _, rfl, hb3, Nat.le_trans hb.size hb3.size, cs3, rfl, h3.more (fun b hb0 => upto_two hb.size hb3.size b hb0)⟩
        | 3, _ =>
         exact gw_move rfl (wanted_plain rfl) 9 _ rfl sl9 ⟨_, rfl, Below.refl _ _, rfl⟩
        | 4, _ =>
         obtain ⟨s0, r0, b0⟩ := hw 2 (by omega) (by kernel_rfl)
         obtain ⟨hz0, cs0, e0, ht0⟩ := r0
         rw [e0] at s0
         obtain ⟨s1, r1, _⟩ := hw 3 (by omega) (by kernel_rfl)
         have e1 : v 3 = .slice B2 sb.length cb2 := r1
         rw [e1] at s1
         replace s1 : a.tmps[61]? = some (.slice B2 sb.length cb2) := s1
         have CC := substituteP sb (.slice B2 sb.length cb2) (subT sa t0) cs0 w9 (Upto w5 w9 (Has w5)) ((In.has w5).upto hb.size) ht0 (HB5.out.keep (fun b hb0 => Or.inl hb0) (fun b hb0 => hb.block b (In.has w5 b hb0))) HN1.out HLB2.out
         refine gw_tt rfl (wanted_plain rfl) 38 60 61 _ _ _ rfl (fun v u w => by go_simp) s0 s1 ?_
         with_reducible refine (CC).mono ?_
         rintro e w3 ⟨cs3, rfl, h3, hb3⟩
         exact ⟨_, rfl, _, rfl, hb3, Nat.le_trans hb.size hb3.size, cs3, rfl, h3.more (fun b hb0 => upto_two hb.size hb3.size b hb0)⟩
        | 5, _ =>
         have ck0 := (hb.cell (p := ⟨g0, 0 + 0, none⟩) BT5.out.lt).trans (BT5.out.cell 0 _ rfl)
         have ck1 := (hb.cell (p := ⟨g0, 0 + 1, none⟩) BT5.out.lt).trans (BT5.out.cell 1 _ rfl)
         have ck2 := (hb.cell (p := ⟨g0, 0 + 2, none⟩) BT5.out.lt).trans (BT5.out.cell 2 _ rfl)
         have ck3 := (hb.cell (p := ⟨g0, 0 + 3, none⟩) BT5.out.lt).trans (BT5.out.cell 3 _ rfl)
         have ck4 := (hb.cell (p := ⟨g0, 0 + 4, none⟩) BT5.out.lt).trans (BT5.out.cell 4 _ rfl)
         have ck5 := (hb.cell (p := ⟨g0, 0 + 5, none⟩) BT5.out.lt).trans (BT5.out.cell 5 _ rfl)
         have ck6 := (hb.cell (p := ⟨g0, 0 + 6, none⟩) BT5.out.lt).trans (BT5.out.cell 6 _ rfl)
         have ck7 := (hb.cell (p := ⟨g0, 0 + 7, none⟩) BT5.out.lt).trans (BT5.out.cell 7 _ rfl)
         have ck8 := (hb.cell (p := ⟨g0, 0 + 8, none⟩) BT5.out.lt).trans (BT5.out.cell 8 _ rfl)
         have ck9 := (hb.cell (p := ⟨g0, 0 + 9, none⟩) BT5.out.lt).trans (BT5.out.cell 9 _ rfl)
         have ck10 := (hb.cell (p := ⟨g0, 0 + 10, none⟩) BT5.out.lt).trans (BT5.out.cell 10 _ rfl)
         refine wpOp_step rfl fun K' hK' => ?_
         rw [if_pos (wanted_plain rfl)]
         unfold Oper.wp
         simp only [execOp]
         go_simp
         exact hK' _ _ ⟨_, rfl, Below.refl _ _, rfl⟩
        | 6, _ =>
         exact gw_move rfl (wanted_plain rfl) 10 _ rfl sl10 ⟨_, rfl, Below.refl _ _, rfl⟩
        | 7, _ =>
         obtain ⟨s0, r0, _⟩ := hw 5 (by omega) (by kernel_rfl)
         have e0 : v 5 = .agg #[.int .i64 t0.kd, .string t0.nm.1, .string t0.nm.2, q0, q1, q2, q3, q4, q5, q6, .slice A4 t0.args.length c4] := r0
         rw [e0] at s0
         replace s0 : a.tmps[63]? = some (.agg #[.int .i64 t0.kd, .string t0.nm.1, .string t0.nm.2, q0, q1, q2, q3, q4, q5, q6, .slice A4 t0.args.length c4]) := s0
         obtain ⟨s1, r1, _⟩ := hw 6 (by omega) (by kernel_rfl)
         have e1 : v 6 = v5 := r1
         rw [e1] at s1
         replace s1 : a.tmps[64]? = some (v5) := s1
         have CC := substituteP (compA sa sb) v5 t0 _ w9 (Upto w5 w9 (Has w5)) ((In.has w5).upto hb.size) ((HT5.out.below (In.has w5) hb).more (fun b hb0 => Or.inl hb0)) (HC5.out.keep (fun b hb0 => Or.inl hb0) (fun b hb0 => hb.block b (In.has w5 b hb0))) HN0.out HLC.out
         unfold vTm at CC
         refine gw_tt rfl (wanted_plain rfl) 38 63 64 _ _ _ rfl (fun v u w => by go_simp) s0 s1 ?_
         with_reducible refine (CC).mono ?_
         rintro e w3 ⟨cs3, rfl, h3, hb3⟩
         exact ⟨_, rfl, _, rfl, hb3, Nat.le_trans hb.size hb3.size, cs3, rfl, h3.more (fun b hb0 => upto_two hb.size hb3.size b hb0)⟩
        | 8, _ =>
         obtain ⟨s0, r0, b0⟩ := hw 4 (by omega) (by kernel_rfl)
         obtain ⟨hz0, cs0, e0, ht0⟩ := r0
         rw [e0] at s0
         obtain ⟨s1, r1, b1⟩ := hw 7 (by omega) (by kernel_rfl)
         obtain ⟨hz1, cs1, e1, ht1⟩ := r1
         rw [e1] at s1
         have CC := equalT 10 (by decide) (subT sb (subT sa t0)) (subT (compA sa sb) t0) cs0 cs1 w9 (Upto w5 w9 (Has w5)) ((In.has w5).upto hb.size) ht0 ht1 HBD.out HBD2.out HN2.out
         rw [HEQ.out] at CC
         refine gw_tt rfl (wanted_plain rfl) 41 62 65 _ _ _ rfl (fun v u w => by go_simp) s0 s1 ?_
         with_reducible refine (CC).mono ?_
         rintro e w3 ⟨rfl, hb3⟩
         exact ⟨_, rfl, _, rfl, hb3, rfl⟩
       case done =>
        intro a w9 v lo hi' hdef hsz hoth hb hj hap
        obtain ⟨_, hv8, _, _⟩ := hj 8 (by omega)
        have ha := eq_puts hdef hsz hoth (fun i hi => (hj i hi).1)
        subst ha
        clear hj hoth hdef hsz hap
        change v 8 = _ at hv8
        simp only [puts, List.getD_cons_zero, List.getD_cons_succ, hv8]
        generalize v 0 = v0
        generalize v 1 = v1
        generalize v 2 = v2
        generalize v 3 = v3
        generalize v 4 = v4
        generalize v 5 = v5
        generalize v 6 = v6
        generalize v 7 = v7
        clear hv8
        simp only [Act.put, List.setIfInBounds_toArray, List.set_cons_zero, List.set_cons_succ]
        show wpList _ _ _ [_] _ _
        have HF : Hid (Below w.heap.size w w9) := HBF.out.trans (hb.mono HBF.out.size)
        clear hb
        go_wp2
        go_ret
        exact ⟨rfl, HF.out⟩
theorem termComposes_walk (r : Rw) (r0 r1 r2 r3 : Value) (la : List Rw) (A : Option Addr) (cA : Nat) (lb : List Rw) (B : Option Addr) (cB : Nat) (w : World) (hr : RawAt w (Has w) r [r0, r1, r2, r3]) (hla : la.length ≤ cA) (hca : cA ≤ maxLen) (hA : 0 < la.length → ∃ b o, A = some ⟨b, o, none⟩ ∧ Has w b ∧ RawsAt w (Has w) b o la) (hlb : lb.length ≤ cB) (hcb : cB ≤ maxLen) (hBB : 0 < lb.length → ∃ b o, B = some ⟨b, o, none⟩ ∧ Has w b ∧ RawsAt w (Has w) b o lb) (ht : Tab w) :
 Calls Tryz.prog 7 #[.agg #[r0, r1, r2, r3], .slice A la.length cA, .slice B lb.length cB] w (RetB w true) :=
 termComposesW r r0 r1 r2 r3 la A cA lb B cB w hr hla hca hA hlb hcb hBB ht
end Go.Proofs.YtlocnkobancjmaaGreatDoor
