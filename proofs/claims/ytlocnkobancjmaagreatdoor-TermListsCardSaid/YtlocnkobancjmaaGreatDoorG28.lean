import Derived.Test.YtlocnkobancjmaaGreatDoorAl
import Derived.Test.YtlocnkobancjmaaGreatDoorG19
import Derived.Test.YtlocnkobancjmaaGreatDoorG27
import Derived.Test.YtlocnkobancjmaaGreatDoorG21
import Derived.Test.YtlocnkobancjmaaGreatDoorG24
import Derived.Deep.Upon
namespace Go.Proofs.YtlocnkobancjmaaGreatDoor
open Go Go.RowKit
set_option linter.unusedVariables false
set_option maxHeartbeats 32000000
set_option maxRecDepth 100000
theorem varLit (s : Nm) (w : World) : Calls Tryz.prog 23 #[.agg #[.string s.1, .string s.2]] w (fun e w' => e = .returned (.agg #[.int .i64 1, .string s.1, .string s.2, .int .i64 0, .string ⟨#[]⟩, .string ⟨#[]⟩, .string ⟨#[]⟩, .string ⟨#[]⟩, .string ⟨#[]⟩, .slice none 0 0, .slice none 0 0]) ∧ Below w.heap.size w w') := (varP s w NoB).mono fun e w' ⟨cs, h1, h2, h3⟩ => by
 have e2 : cs = [.int .i64 1, .string s.1, .string s.2, .int .i64 0, .string ⟨#[]⟩, .string ⟨#[]⟩, .string ⟨#[]⟩, .string ⟨#[]⟩, .string ⟨#[]⟩, .slice none 0 0, .slice none 0 0] := h2
 subst e2
 exact ⟨h1, h3⟩
theorem ts2 {w : World} {g : Nat} {X Z : Nm} (h : w.heap[g]? = some (.cells #[.int .i64 1, .string X.1, .string X.2, .int .i64 0, .string ⟨#[]⟩, .string ⟨#[]⟩, .string ⟨#[]⟩, .string ⟨#[]⟩, .string ⟨#[]⟩, .slice none 0 0, .slice none 0 0, .int .i64 1, .string Z.1, .string Z.2, .int .i64 0, .string ⟨#[]⟩, .string ⟨#[]⟩, .string ⟨#[]⟩, .string ⟨#[]⟩, .string ⟨#[]⟩, .slice none 0 0, .slice none 0 0] 45 (0, 0))) : TsV w (fun b => b = g) [.var X, .var Z] (.slice (some ⟨g, 0, none⟩) 2 2) := by
 refine ⟨some ⟨g, 0, none⟩, 2, rfl, Nat.le_refl _, fun _ => ⟨g, 0, rfl, ⟨rfl, _, _, h⟩, ?_⟩⟩
 refine TmsAt.of _ _ fun i hi => ?_
 have hi2 : i < 2 := hi
 match i, hi2 with
 | 0, _ =>
  refine ⟨[.int .i64 1, .string X.1, .string X.2, .int .i64 0, .string ⟨#[]⟩, .string ⟨#[]⟩, .string ⟨#[]⟩, .string ⟨#[]⟩, .string ⟨#[]⟩, .slice none 0 0, .slice none 0 0], rfl, fun j u hj => ?_⟩
  rw [cell_of_row _ _ _ _ _ _ h]
  have hj2 : j < 11 := (List.getElem?_eq_some_iff.1 hj).1
  match j, hj2 with
  | 0, _ | 1, _ | 2, _ | 3, _ | 4, _ | 5, _ | 6, _ | 7, _ | 8, _ | 9, _ | 10, _ => exact hj
 | 1, _ =>
  refine ⟨[.int .i64 1, .string Z.1, .string Z.2, .int .i64 0, .string ⟨#[]⟩, .string ⟨#[]⟩, .string ⟨#[]⟩, .string ⟨#[]⟩, .string ⟨#[]⟩, .slice none 0 0, .slice none 0 0], rfl, fun j u hj => ?_⟩
  rw [cell_of_row _ _ _ _ _ _ h]
  have hj2 : j < 11 := (List.getElem?_eq_some_iff.1 hj).1
  match j, hj2 with
  | 0, _ | 1, _ | 2, _ | 3, _ | 4, _ | 5, _ | 6, _ | 7, _ | 8, _ | 9, _ | 10, _ => exact hj
theorem as2 {w : World} {g : Nat} {X Z : Nm} (h : w.heap[g]? = some (.cells #[.string X.1, .string X.2, .int .i64 1, .string Z.1, .string Z.2, .int .i64 0, .string ⟨#[]⟩, .string ⟨#[]⟩, .string ⟨#[]⟩, .string ⟨#[]⟩, .string ⟨#[]⟩, .slice none 0 0, .slice none 0 0, .string Z.1, .string Z.2, .int .i64 1, .string X.1, .string X.2, .int .i64 0, .string ⟨#[]⟩, .string ⟨#[]⟩, .string ⟨#[]⟩, .string ⟨#[]⟩, .string ⟨#[]⟩, .slice none 0 0, .slice none 0 0] 64 (0, 0))) : AsV w (fun b => b = g) [(X, .var Z), (Z, .var X)] (.slice (some ⟨g, 0, none⟩) 2 2) := by
 refine ⟨some ⟨g, 0, none⟩, 2, rfl, Nat.le_refl _, fun _ => ⟨g, 0, rfl, ⟨rfl, _, _, h⟩, fun i hi => ?_⟩⟩
 have hi2 : i < 2 := hi
 match i, hi2 with
 | 0, _ =>
  refine ⟨[.int .i64 1, .string Z.1, .string Z.2, .int .i64 0, .string ⟨#[]⟩, .string ⟨#[]⟩, .string ⟨#[]⟩, .string ⟨#[]⟩, .string ⟨#[]⟩, .slice none 0 0, .slice none 0 0], rfl, fun j u hj => ?_⟩
  rw [cell_of_row _ _ _ _ _ _ h]
  have hj2 : j < 13 := (List.getElem?_eq_some_iff.1 hj).1
  match j, hj2 with
  | 0, _ | 1, _ | 2, _ | 3, _ | 4, _ | 5, _ | 6, _ | 7, _ | 8, _ | 9, _ | 10, _ | 11, _ | 12, _ => exact hj
 | 1, _ =>
  refine ⟨[.int .i64 1, .string X.1, .string X.2, .int .i64 0, .string ⟨#[]⟩, .string ⟨#[]⟩, .string ⟨#[]⟩, .string ⟨#[]⟩, .string ⟨#[]⟩, .slice none 0 0, .slice none 0 0], rfl, fun j u hj => ?_⟩
  rw [cell_of_row _ _ _ _ _ _ h]
  have hj2 : j < 13 := (List.getElem?_eq_some_iff.1 hj).1
  match j, hj2 with
  | 0, _ | 1, _ | 2, _ | 3, _ | 4, _ | 5, _ | 6, _ | 7, _ | 8, _ | 9, _ | 10, _ | 11, _ | 12, _ => exact hj
def LT2 (X Z : Nm) : Lv := fun v lo hi w => v = .slice (some ⟨lo, 0, none⟩) 2 2 ∧ w.heap[lo]? = some (.cells #[.int .i64 1, .string X.1, .string X.2, .int .i64 0, .string ⟨#[]⟩, .string ⟨#[]⟩, .string ⟨#[]⟩, .string ⟨#[]⟩, .string ⟨#[]⟩, .slice none 0 0, .slice none 0 0, .int .i64 1, .string Z.1, .string Z.2, .int .i64 0, .string ⟨#[]⟩, .string ⟨#[]⟩, .string ⟨#[]⟩, .string ⟨#[]⟩, .string ⟨#[]⟩, .slice none 0 0, .slice none 0 0] 45 (0, 0)) ∧ lo < hi
theorem mLT2 (X Z : Nm) : Mon (LT2 X Z) := fun _ _ _ _ _ ⟨h1, h2, h3⟩ hm hb => ⟨h1, (hb.block _ (by omega)).trans h2, h3⟩
def LA2 (X Z : Nm) : Lv := fun v lo hi w => v = .slice (some ⟨lo, 0, none⟩) 2 2 ∧ w.heap[lo]? = some (.cells #[.string X.1, .string X.2, .int .i64 1, .string Z.1, .string Z.2, .int .i64 0, .string ⟨#[]⟩, .string ⟨#[]⟩, .string ⟨#[]⟩, .string ⟨#[]⟩, .string ⟨#[]⟩, .slice none 0 0, .slice none 0 0, .string Z.1, .string Z.2, .int .i64 1, .string X.1, .string X.2, .int .i64 0, .string ⟨#[]⟩, .string ⟨#[]⟩, .string ⟨#[]⟩, .string ⟨#[]⟩, .string ⟨#[]⟩, .slice none 0 0, .slice none 0 0] 64 (0, 0)) ∧ lo < hi
theorem mLA2 (X Z : Nm) : Mon (LA2 X Z) := fun _ _ _ _ _ ⟨h1, h2, h3⟩ hm hb => ⟨h1, (hb.block _ (by omega)).trans h2, h3⟩
theorem first8 (w : World) : Calls Tryz.prog 17 #[] w (RetB w true) := by
 obtain ⟨X, hX⟩ : ∃ X, X = uN ⟨#[120]⟩ := ⟨_, rfl⟩
 obtain ⟨Z, hZ⟩ : ∃ Z, Z = uN ⟨#[121]⟩ := ⟨_, rfl⟩
 have hne : eqN X Z = false := by rw [hX, hZ]; kernel_rfl
 have hne2 : eqN Z X = false := by rw [hX, hZ]; kernel_rfl
 have HWF : Hid (wfT (.app (uN ⟨#[102]⟩) [.var Z, .var X]) = true) := (show _ = _ by rw [hX, hZ]; kernel_rfl)
 have HX := hI hX
 have HZZ := hI hZ
 have hvs : vN4.take 2 = [X, Z] := by rw [hX, hZ]; rfl
 go_enter Tryz.func17, Tryz.ntmps17
 go_wp2_with fail
 refine (varsT 2 (by decide) w).mono ?_
 rintro e w1 ⟨v, rfl, hv, hb1⟩
 rw [hvs] at hv
 obtain ⟨A, c, hve, hlc, hvv⟩ := hv
 have hve2 : v = .slice A 2 c := hve
 subst hve2
 obtain ⟨b, o, rfl, hbS, hcc⟩ := hvv (by simp)
 have HB := hI hb1
 have hlb : b < w1.heap.size := by
  rcases hbS.1 with h | h
  · exact h.elim
  · exact h.2
 have HLB := hI hlb
 have C0 : Hid (w1.cell? ⟨b, o, none⟩ = some (.string X.1)) := (hcc 0 (by simp)).1
 have C1 : Hid (w1.cell? ⟨b, o + 1, none⟩ = some (.string X.2)) := (hcc 0 (by simp)).2
 have C2 : Hid (w1.cell? ⟨b, o + 2, none⟩ = some (.string Z.1)) := (hcc 1 (by simp)).1
 have C3 : Hid (w1.cell? ⟨b, o + 3, none⟩ = some (.string Z.2)) := (hcc 1 (by simp)).2
 clear hcc hvv hbS hb1 hlb hvs hve hX hZ
 have hlc2 : 2 ≤ c := hlc
 go_wp2_with fail
 refine wp_region_growMT (l := _) 10 1 (by kernel_rfl) (by kernel_rfl) (fun i => [9, 10, 11, 12, 13, 14, 15, 16, 2, 3].getD i 0) (LR [LV (.slice (some ⟨b, o, none⟩) 2 c), LV (.pointer (some ⟨b, o, none⟩)), LV (.agg #[.string X.1, .string X.2]), LV (.agg #[.int .i64 1, .string X.1, .string X.2, .int .i64 0, .string ⟨#[]⟩, .string ⟨#[]⟩, .string ⟨#[]⟩, .string ⟨#[]⟩, .string ⟨#[]⟩, .slice none 0 0, .slice none 0 0]), LV (.slice (some ⟨b, o, none⟩) 2 c), LV (.pointer (some ⟨b, o + 2, none⟩)), LV (.agg #[.string Z.1, .string Z.2]), LV (.agg #[.int .i64 1, .string Z.1, .string Z.2, .int .i64 0, .string ⟨#[]⟩, .string ⟨#[]⟩, .string ⟨#[]⟩, .string ⟨#[]⟩, .string ⟨#[]⟩, .slice none 0 0, .slice none 0 0]), LTx, LTx]) (LR_mono ⟨mLV _, mLV _, mLV _, mLV _, mLV _, mLV _, mLV _, mLV _, mLTx, mLTx, trivial⟩) (by
  intro i j hi hj h
  exact inj_getD [9, 10, 11, 12, 13, 14, 15, 16, 2, 3] (by decide) i j hi hj h) (by
  intro i hi
  exact lt_getD 68 [9, 10, 11, 12, 13, 14, 15, 16, 2, 3] (by decide) i hi) [4, 5, 6] (by kernel_rfl) (fun s => [8].getD s 0) (fun s => [3].getD s 0) (by
  intro s hs
  exact lt_getD 10 [8] (by decide) s hs) (by
  intro s hs
  exact lt_getD 10 [3] (by decide) s hs) (by
  intro i j hi hj h
  exact inj_getD [8] (by decide) i j hi hj h) (by kernel_rfl) (by
  intro s hs
  exact match s, hs with | 0, _ => ⟨_, rfl, rfl, rfl, rfl⟩) (by
  intro s hs
  exact match s, hs with | 0, _ => fun _ _ _ _ h => h) (by
  intro s hs
  exact match s, hs with | 0, _ => fun _ _ _ _ h => ⟨[.int .i64 1, .string X.1, .string X.2, .int .i64 0, .string ⟨#[]⟩, .string ⟨#[]⟩, .string ⟨#[]⟩, .string ⟨#[]⟩, .string ⟨#[]⟩, .slice none 0 0, .slice none 0 0], h, rfl, by simp [Value.oneCell']⟩) ?step ?stepL ?done
 case step =>
  intro ii hii a w9 v lo hi' hoth hb hw
  have sl1 : a.tmps[1]? = some (.slice (some ⟨b, o, none⟩) 2 c) := (hoth 1 (fun j hj => ne_getD 1 _ (by decide) j hj)).trans rfl
  match ii, hii with
  | 0, _ =>
   exact gw_move rfl (wanted_plain rfl) 1 _ rfl sl1 ⟨_, rfl, Below.refl _ _, rfl⟩
  | 1, _ =>
   obtain ⟨s0, r0, _⟩ := hw 0 (by omega) (by kernel_rfl)
   have e0 : v 0 = .slice (some ⟨b, o, none⟩) 2 c := r0
   rw [e0] at s0
   replace s0 : a.tmps[9]? = some (.slice (some ⟨b, o, none⟩) 2 c) := s0
   refine wpOp_step rfl fun K' hK' => ?_
   rw [if_pos (wanted_plain rfl)]
   unfold Oper.wp
   simp only [execOp]
   go_simp
   exact hK' _ _ ⟨_, rfl, Below.refl _ _, rfl⟩
  | 2, _ =>
   obtain ⟨s0, r0, _⟩ := hw 1 (by omega) (by kernel_rfl)
   have e0 : v 1 = .pointer (some ⟨b, o, none⟩) := r0
   rw [e0] at s0
   replace s0 : a.tmps[10]? = some (.pointer (some ⟨b, o, none⟩)) := s0
   have cc0 := (hb.cell (p := ⟨b, o, none⟩) HLB.out).trans C0.out
   have cc1 := (hb.cell (p := ⟨b, o + 1, none⟩) HLB.out).trans C1.out
   refine wpOp_step rfl fun K' hK' => ?_
   rw [if_pos (wanted_plain rfl)]
   unfold Oper.wp
   simp only [execOp]
   go_simp
   exact hK' _ _ ⟨_, rfl, Below.refl _ _, rfl⟩
  | 3, _ =>
   obtain ⟨s0, r0, _⟩ := hw 2 (by omega) (by kernel_rfl)
   have e0 : v 2 = .agg #[.string X.1, .string X.2] := r0
   rw [e0] at s0
   replace s0 : a.tmps[11]? = some (.agg #[.string X.1, .string X.2]) := s0
   refine gw_t rfl (wanted_plain rfl) 23 11 _ _ rfl (fun v w => by go_simp) s0 ?_
   with_reducible refine (varLit X w9).mono ?_
   rintro e w3 ⟨rfl, hb3⟩
   exact ⟨_, rfl, _, rfl, hb3, rfl⟩
  | 4, _ =>
   exact gw_move rfl (wanted_plain rfl) 1 _ rfl sl1 ⟨_, rfl, Below.refl _ _, rfl⟩
  | 5, _ =>
   obtain ⟨s0, r0, _⟩ := hw 4 (by omega) (by kernel_rfl)
   have e0 : v 4 = .slice (some ⟨b, o, none⟩) 2 c := r0
   rw [e0] at s0
   replace s0 : a.tmps[13]? = some (.slice (some ⟨b, o, none⟩) 2 c) := s0
   refine wpOp_step rfl fun K' hK' => ?_
   rw [if_pos (wanted_plain rfl)]
   unfold Oper.wp
   simp only [execOp]
   go_simp
   exact hK' _ _ ⟨_, rfl, Below.refl _ _, rfl⟩
  | 6, _ =>
   obtain ⟨s0, r0, _⟩ := hw 5 (by omega) (by kernel_rfl)
   have e0 : v 5 = .pointer (some ⟨b, o + 2, none⟩) := r0
   rw [e0] at s0
   replace s0 : a.tmps[14]? = some (.pointer (some ⟨b, o + 2, none⟩)) := s0
   have cc0 := (hb.cell (p := ⟨b, o + 2, none⟩) HLB.out).trans C2.out
   have cc1 := (hb.cell (p := ⟨b, o + 3, none⟩) HLB.out).trans C3.out
   refine wpOp_step rfl fun K' hK' => ?_
   rw [if_pos (wanted_plain rfl)]
   unfold Oper.wp
   simp only [execOp]
   go_simp
   exact hK' _ _ ⟨_, rfl, Below.refl _ _, rfl⟩
  | 7, _ =>
   obtain ⟨s0, r0, _⟩ := hw 6 (by omega) (by kernel_rfl)
   have e0 : v 6 = .agg #[.string Z.1, .string Z.2] := r0
   rw [e0] at s0
   replace s0 : a.tmps[15]? = some (.agg #[.string Z.1, .string Z.2]) := s0
   refine gw_t rfl (wanted_plain rfl) 23 15 _ _ rfl (fun v w => by go_simp) s0 ?_
   with_reducible refine (varLit Z w9).mono ?_
   rintro e w3 ⟨rfl, hb3⟩
   exact ⟨_, rfl, _, rfl, hb3, rfl⟩
  | 8, _ =>
   refine wpOp_step rfl fun K' hK' => ?_
   rw [if_pos (wanted_plain rfl)]
   unfold Oper.wp
   simp only [execOp]
   go_simp
   exact hK' _ _ ⟨_, rfl, below_alT _ _, rfl, heap_alloc_new _ _, by simp⟩
  | 9, _ =>
   refine wpOp_step rfl fun K' hK' => ?_
   rw [if_pos (wanted_plain rfl)]
   unfold Oper.wp
   simp only [execOp]
   go_simp
   exact hK' _ _ ⟨_, rfl, below_alT _ _, rfl, heap_alloc_new _ _, by simp⟩
 case stepL =>
  intro ii hii hl a w1 w9 v lo hi' hoth hb0 hbk hsz hw
  have hb := BlkB.of hb0 hbk hsz
  have sl1 : a.tmps[1]? = some (.slice (some ⟨b, o, none⟩) 2 c) := (hoth 1 (fun j hj => ne_getD 1 _ (by decide) j hj)).trans rfl
  match ii, hii with
  | 0, _ => exact absurd hl (by decide)
  | 1, _ => exact absurd hl (by decide)
  | 2, _ => exact absurd hl (by decide)
  | 3, _ => exact absurd hl (by decide)
  | 4, _ =>
   exact gw_move rfl (wanted_plain rfl) 1 _ rfl sl1 ⟨_, _, rfl, .inl ⟨rfl, rfl⟩, rfl⟩
  | 5, _ =>
   obtain ⟨s0, r0⟩ := hw 4 (by omega) (by kernel_rfl)
   have e0 : v 4 = .slice (some ⟨b, o, none⟩) 2 c := r0
   rw [e0] at s0
   replace s0 : a.tmps[13]? = some (.slice (some ⟨b, o, none⟩) 2 c) := s0
   refine wpOp_step rfl fun K' hK' => ?_
   rw [if_pos (wanted_plain rfl)]
   unfold Oper.wp
   simp only [execOp]
   go_simp
   exact hK' _ _ ⟨_, _, rfl, .inl ⟨rfl, rfl⟩, rfl⟩
  | 6, _ =>
   obtain ⟨s0, r0⟩ := hw 5 (by omega) (by kernel_rfl)
   have e0 : v 5 = .pointer (some ⟨b, o + 2, none⟩) := r0
   rw [e0] at s0
   replace s0 : a.tmps[14]? = some (.pointer (some ⟨b, o + 2, none⟩)) := s0
   have cc0 := (hb.cell (p := ⟨b, o + 2, none⟩) HLB.out).trans C2.out
   have cc1 := (hb.cell (p := ⟨b, o + 3, none⟩) HLB.out).trans C3.out
   refine wpOp_step rfl fun K' hK' => ?_
   rw [if_pos (wanted_plain rfl)]
   unfold Oper.wp
   simp only [execOp]
   go_simp
   exact hK' _ _ ⟨_, _, rfl, .inl ⟨rfl, rfl⟩, rfl⟩
  | 7, _ => exact absurd hl (by decide)
  | 8, _ => exact absurd hl (by decide)
  | 9, _ => exact absurd hl (by decide)
 case done =>
  intro a w9 v lo hi' css hdef hsz hoth hb hj hap hbx hvs
  obtain ⟨hv8, hbx0⟩ := hbx 0 (by omega)
  obtain ⟨hv3, ho0⟩ := hvs 0 (by omega)
  change v 8 = _ at hv8
  change v 3 = _ at hv3
  obtain ⟨_, hv7, _, _⟩ := hj 7 (by omega)
  change v 7 = _ at hv7
  obtain ⟨_, ⟨hv8b, hbx8, hlt8⟩, hlo8, hhi8⟩ := hj 8 (by omega)
  obtain ⟨_, ⟨hv9, hbx9, hlt9⟩, hlo9, hhi9⟩ := hj 9 (by omega)
  have ha := eq_puts hdef hsz hoth (fun i hi => (hj i hi).1)
  subst ha
  have hc0 : css 0 = [.int .i64 1, .string X.1, .string X.2, .int .i64 0, .string ⟨#[]⟩, .string ⟨#[]⟩, .string ⟨#[]⟩, .string ⟨#[]⟩, .string ⟨#[]⟩, .slice none 0 0, .slice none 0 0] := vTm_inj (hv3.symm.trans (hj 3 (by omega)).2.1)
  clear hj hoth hdef hsz
  simp only [puts, List.getD_cons_zero, List.getD_cons_succ, hv8, hv3, hv7, hv9]
  generalize v 0 = v0
  generalize v 1 = v1
  generalize v 2 = v2
  generalize v 4 = v4
  generalize v 5 = v5
  generalize v 6 = v6
  simp only [Act.put, List.setIfInBounds_toArray, List.set_cons_zero, List.set_cons_succ]
  show wpList _ _ _ [_] _ _
  have hW : stW (stT lo (fun s => [8].getD s 0) css) w9 1 = w9.setRow (lo 8) (css 0).toArray := rfl
  rw [hW, hc0]
  have hap8 := hap 8 9 (by omega) (by omega) (by omega)
  have hne8 : lo 8 ≠ lo 9 := by omega
  have hs1 := HB.out.size
  have glx : w1.heap.size ≤ lo 8 := hlo8
  have glz : w1.heap.size ≤ lo 9 := hlo9
  change TB w9 (lo 8) zT at hbx0
  clear hap hv8b ho0
  generalize lo 8 = gx at *
  generalize lo 9 = gz at *
  have T1 : Hid (TB (w9.setRow gx [.int .i64 1, .string X.1, .string X.2, .int .i64 0, .string ⟨#[]⟩, .string ⟨#[]⟩, .string ⟨#[]⟩, .string ⟨#[]⟩, .string ⟨#[]⟩, .slice none 0 0, .slice none 0 0].toArray) gx [.int .i64 1, .string X.1, .string X.2, .int .i64 0, .string ⟨#[]⟩, .string ⟨#[]⟩, .string ⟨#[]⟩, .string ⟨#[]⟩, .string ⟨#[]⟩, .slice none 0 0, .slice none 0 0]) := hbx0.set _
  have T2 : Hid (TB (w9.setRow gx [.int .i64 1, .string X.1, .string X.2, .int .i64 0, .string ⟨#[]⟩, .string ⟨#[]⟩, .string ⟨#[]⟩, .string ⟨#[]⟩, .string ⟨#[]⟩, .slice none 0 0, .slice none 0 0].toArray) gz zT) := hbx9.other (fun e => hne8 e.symm)
  have hbX : Below w1.heap.size w1 ((w9.setRow gx [.int .i64 1, .string X.1, .string X.2, .int .i64 0, .string ⟨#[]⟩, .string ⟨#[]⟩, .string ⟨#[]⟩, .string ⟨#[]⟩, .string ⟨#[]⟩, .slice none 0 0, .slice none 0 0].toArray).setRow gz [.int .i64 1, .string Z.1, .string Z.2, .int .i64 0, .string ⟨#[]⟩, .string ⟨#[]⟩, .string ⟨#[]⟩, .string ⟨#[]⟩, .string ⟨#[]⟩, .slice none 0 0, .slice none 0 0].toArray) := below_setRowO (below_setRowO hb glx _) glz _
  have BX : Hid (TB ((w9.setRow gx [.int .i64 1, .string X.1, .string X.2, .int .i64 0, .string ⟨#[]⟩, .string ⟨#[]⟩, .string ⟨#[]⟩, .string ⟨#[]⟩, .string ⟨#[]⟩, .slice none 0 0, .slice none 0 0].toArray).setRow gz [.int .i64 1, .string Z.1, .string Z.2, .int .i64 0, .string ⟨#[]⟩, .string ⟨#[]⟩, .string ⟨#[]⟩, .string ⟨#[]⟩, .string ⟨#[]⟩, .slice none 0 0, .slice none 0 0].toArray) gx [.int .i64 1, .string X.1, .string X.2, .int .i64 0, .string ⟨#[]⟩, .string ⟨#[]⟩, .string ⟨#[]⟩, .string ⟨#[]⟩, .string ⟨#[]⟩, .slice none 0 0, .slice none 0 0]) := T1.out.other hne8
  have BZ : Hid (TB ((w9.setRow gx [.int .i64 1, .string X.1, .string X.2, .int .i64 0, .string ⟨#[]⟩, .string ⟨#[]⟩, .string ⟨#[]⟩, .string ⟨#[]⟩, .string ⟨#[]⟩, .slice none 0 0, .slice none 0 0].toArray).setRow gz [.int .i64 1, .string Z.1, .string Z.2, .int .i64 0, .string ⟨#[]⟩, .string ⟨#[]⟩, .string ⟨#[]⟩, .string ⟨#[]⟩, .string ⟨#[]⟩, .slice none 0 0, .slice none 0 0].toArray) gz [.int .i64 1, .string Z.1, .string Z.2, .int .i64 0, .string ⟨#[]⟩, .string ⟨#[]⟩, .string ⟨#[]⟩, .string ⟨#[]⟩, .string ⟨#[]⟩, .slice none 0 0, .slice none 0 0]) := T2.out.set _
  have HB2 : Hid (Below w1.heap.size w1 ((w9.setRow gx [.int .i64 1, .string X.1, .string X.2, .int .i64 0, .string ⟨#[]⟩, .string ⟨#[]⟩, .string ⟨#[]⟩, .string ⟨#[]⟩, .string ⟨#[]⟩, .slice none 0 0, .slice none 0 0].toArray).setRow gz [.int .i64 1, .string Z.1, .string Z.2, .int .i64 0, .string ⟨#[]⟩, .string ⟨#[]⟩, .string ⟨#[]⟩, .string ⟨#[]⟩, .string ⟨#[]⟩, .slice none 0 0, .slice none 0 0].toArray)) := hbX
  clear hap8 hbx0 hbx8 hbx9 hlt8 hlt9 hhi8 hhi9 hlo8 hlo9 hb hbX hc0 hW T1
  go_wp2_with ((with_reducible refine storeTb (cs := [.int .i64 1, .string Z.1, .string Z.2, .int .i64 0, .string ⟨#[]⟩, .string ⟨#[]⟩, .string ⟨#[]⟩, .string ⟨#[]⟩, .string ⟨#[]⟩, .slice none 0 0, .slice none 0 0]) (.tmp 3) (.tmp 16) ?_ ?_ ?_ ?_ T2.out ?_ ?_ ?_ ?_); rfl; rfl; rfl; rfl; rfl; rfl; exact (by simp [Value.oneCell']))
  clear T2
  generalize (w9.setRow gx [.int .i64 1, .string X.1, .string X.2, .int .i64 0, .string ⟨#[]⟩, .string ⟨#[]⟩, .string ⟨#[]⟩, .string ⟨#[]⟩, .string ⟨#[]⟩, .slice none 0 0, .slice none 0 0].toArray).setRow gz [.int .i64 1, .string Z.1, .string Z.2, .int .i64 0, .string ⟨#[]⟩, .string ⟨#[]⟩, .string ⟨#[]⟩, .string ⟨#[]⟩, .string ⟨#[]⟩, .slice none 0 0, .slice none 0 0].toArray = X2 at *
  have HWW : Hid (w.heap.size ≤ X2.heap.size) := Nat.le_trans hs1 HB2.out.size
  have HBW : Hid (Below w.heap.size w X2) := HB.out.trans (HB2.out.mono hs1)
  replace C0 := hI ((HB2.out.cell (p := ⟨b, o, none⟩) HLB.out).trans C0.out)
  replace C1 := hI ((HB2.out.cell (p := ⟨b, o + 1, none⟩) HLB.out).trans C1.out)
  replace C2 := hI ((HB2.out.cell (p := ⟨b, o + 2, none⟩) HLB.out).trans C2.out)
  replace C3 := hI ((HB2.out.cell (p := ⟨b, o + 3, none⟩) HLB.out).trans C3.out)
  replace HLB := hI (Nat.lt_of_lt_of_le HLB.out HB2.out.size)
  have HGX : Hid (w.heap.size ≤ gx) := Nat.le_trans hs1 glx
  have HGZ : Hid (w.heap.size ≤ gz) := Nat.le_trans hs1 glz
  have HNE := hI hne8
  clear HB2 HB glx glz hs1 hne8
  refine wp_region_grow (l := _) 6 (by kernel_rfl) (by kernel_rfl) (fun i => [17, 18, 19, 20, 21, 4].getD i 0) (LR [LV (.agg #[.string (uN ⟨#[102]⟩).1, .string (uN ⟨#[102]⟩).2]), LV (.agg #[.int .i64 1, .string X.1, .string X.2, .int .i64 0, .string ⟨#[]⟩, .string ⟨#[]⟩, .string ⟨#[]⟩, .string ⟨#[]⟩, .string ⟨#[]⟩, .slice none 0 0, .slice none 0 0]), LV (.agg #[.int .i64 1, .string Z.1, .string Z.2, .int .i64 0, .string ⟨#[]⟩, .string ⟨#[]⟩, .string ⟨#[]⟩, .string ⟨#[]⟩, .string ⟨#[]⟩, .slice none 0 0, .slice none 0 0]), LT2 X Z, LTm w NoB (.app (uN ⟨#[102]⟩) [.var X, .var Z]), LTx]) (LR_mono ⟨mLV _, mLV _, mLV _, mLT2 X Z, mLTm (NoB.in _) _, mLTx, trivial⟩) (by
   intro i j hi hj h
   exact inj_getD [17, 18, 19, 20, 21, 4] (by decide) i j hi hj h) (by
   intro i hi
   exact lt_getD 68 [17, 18, 19, 20, 21, 4] (by decide) i hi) ?step ?done
  case step =>
   intro ii hii a w9 v lo hi' hoth hb hw
   have sl2 : a.tmps[2]? = some (.pointer (some ⟨gx, 0, none⟩)) := (hoth 2 (fun j hj => ne_getD 2 _ (by decide) j hj)).trans rfl
   have sl3 : a.tmps[3]? = some (.pointer (some ⟨gz, 0, none⟩)) := (hoth 3 (fun j hj => ne_getD 3 _ (by decide) j hj)).trans rfl
   match ii, hii with
   | 0, _ =>
    refine gw_c rfl (wanted_plain rfl) 51  _ _ rfl (fun v w => by go_simp)  ?_
    with_reducible refine (userO ⟨#[102]⟩ w9).mono ?_
    rintro e w3 ⟨rfl, hb3⟩
    exact ⟨_, rfl, _, rfl, hb3, rfl⟩
   | 1, _ =>
    have cx0 := (hb.cell (p := ⟨gx, 0 + 0, none⟩) BX.out.lt).trans (BX.out.cell 0 _ rfl)
    have cx1 := (hb.cell (p := ⟨gx, 0 + 1, none⟩) BX.out.lt).trans (BX.out.cell 1 _ rfl)
    have cx2 := (hb.cell (p := ⟨gx, 0 + 2, none⟩) BX.out.lt).trans (BX.out.cell 2 _ rfl)
    have cx3 := (hb.cell (p := ⟨gx, 0 + 3, none⟩) BX.out.lt).trans (BX.out.cell 3 _ rfl)
    have cx4 := (hb.cell (p := ⟨gx, 0 + 4, none⟩) BX.out.lt).trans (BX.out.cell 4 _ rfl)
    have cx5 := (hb.cell (p := ⟨gx, 0 + 5, none⟩) BX.out.lt).trans (BX.out.cell 5 _ rfl)
    have cx6 := (hb.cell (p := ⟨gx, 0 + 6, none⟩) BX.out.lt).trans (BX.out.cell 6 _ rfl)
    have cx7 := (hb.cell (p := ⟨gx, 0 + 7, none⟩) BX.out.lt).trans (BX.out.cell 7 _ rfl)
    have cx8 := (hb.cell (p := ⟨gx, 0 + 8, none⟩) BX.out.lt).trans (BX.out.cell 8 _ rfl)
    have cx9 := (hb.cell (p := ⟨gx, 0 + 9, none⟩) BX.out.lt).trans (BX.out.cell 9 _ rfl)
    have cx10 := (hb.cell (p := ⟨gx, 0 + 10, none⟩) BX.out.lt).trans (BX.out.cell 10 _ rfl)
    refine wpOp_step rfl fun K' hK' => ?_
    rw [if_pos (wanted_plain rfl)]
    unfold Oper.wp
    simp only [execOp]
    go_simp
    exact hK' _ _ ⟨_, rfl, Below.refl _ _, rfl⟩
   | 2, _ =>
    have cz0 := (hb.cell (p := ⟨gz, 0 + 0, none⟩) BZ.out.lt).trans (BZ.out.cell 0 _ rfl)
    have cz1 := (hb.cell (p := ⟨gz, 0 + 1, none⟩) BZ.out.lt).trans (BZ.out.cell 1 _ rfl)
    have cz2 := (hb.cell (p := ⟨gz, 0 + 2, none⟩) BZ.out.lt).trans (BZ.out.cell 2 _ rfl)
    have cz3 := (hb.cell (p := ⟨gz, 0 + 3, none⟩) BZ.out.lt).trans (BZ.out.cell 3 _ rfl)
    have cz4 := (hb.cell (p := ⟨gz, 0 + 4, none⟩) BZ.out.lt).trans (BZ.out.cell 4 _ rfl)
    have cz5 := (hb.cell (p := ⟨gz, 0 + 5, none⟩) BZ.out.lt).trans (BZ.out.cell 5 _ rfl)
    have cz6 := (hb.cell (p := ⟨gz, 0 + 6, none⟩) BZ.out.lt).trans (BZ.out.cell 6 _ rfl)
    have cz7 := (hb.cell (p := ⟨gz, 0 + 7, none⟩) BZ.out.lt).trans (BZ.out.cell 7 _ rfl)
    have cz8 := (hb.cell (p := ⟨gz, 0 + 8, none⟩) BZ.out.lt).trans (BZ.out.cell 8 _ rfl)
    have cz9 := (hb.cell (p := ⟨gz, 0 + 9, none⟩) BZ.out.lt).trans (BZ.out.cell 9 _ rfl)
    have cz10 := (hb.cell (p := ⟨gz, 0 + 10, none⟩) BZ.out.lt).trans (BZ.out.cell 10 _ rfl)
    refine wpOp_step rfl fun K' hK' => ?_
    rw [if_pos (wanted_plain rfl)]
    unfold Oper.wp
    simp only [execOp]
    go_simp
    exact hK' _ _ ⟨_, rfl, Below.refl _ _, rfl⟩
   | 3, _ =>
    obtain ⟨s0, r0, _⟩ := hw 1 (by omega) (by kernel_rfl)
    have e0 : v 1 = .agg #[.int .i64 1, .string X.1, .string X.2, .int .i64 0, .string ⟨#[]⟩, .string ⟨#[]⟩, .string ⟨#[]⟩, .string ⟨#[]⟩, .string ⟨#[]⟩, .slice none 0 0, .slice none 0 0] := r0
    rw [e0] at s0
    replace s0 : a.tmps[18]? = some (.agg #[.int .i64 1, .string X.1, .string X.2, .int .i64 0, .string ⟨#[]⟩, .string ⟨#[]⟩, .string ⟨#[]⟩, .string ⟨#[]⟩, .string ⟨#[]⟩, .slice none 0 0, .slice none 0 0]) := s0
    obtain ⟨s1, r1, _⟩ := hw 2 (by omega) (by kernel_rfl)
    have e1 : v 2 = .agg #[.int .i64 1, .string Z.1, .string Z.2, .int .i64 0, .string ⟨#[]⟩, .string ⟨#[]⟩, .string ⟨#[]⟩, .string ⟨#[]⟩, .string ⟨#[]⟩, .slice none 0 0, .slice none 0 0] := r1
    rw [e1] at s1
    replace s1 : a.tmps[19]? = some (.agg #[.int .i64 1, .string Z.1, .string Z.2, .int .i64 0, .string ⟨#[]⟩, .string ⟨#[]⟩, .string ⟨#[]⟩, .string ⟨#[]⟩, .string ⟨#[]⟩, .slice none 0 0, .slice none 0 0]) := s1
    refine wpOp_step rfl fun K' hK' => ?_
    rw [if_pos (wanted_plain rfl)]
    unfold Oper.wp
    simp only [execOp]
    go_simp
    exact hK' _ _ ⟨_, rfl, below_alT _ _, rfl, heap_alloc_new _ _, by simp⟩
   | 4, _ =>
    obtain ⟨s0, r0, _⟩ := hw 0 (by omega) (by kernel_rfl)
    have e0 : v 0 = .agg #[.string (uN ⟨#[102]⟩).1, .string (uN ⟨#[102]⟩).2] := r0
    rw [e0] at s0
    replace s0 : a.tmps[17]? = some (.agg #[.string (uN ⟨#[102]⟩).1, .string (uN ⟨#[102]⟩).2]) := s0
    obtain ⟨s1, r1, b1⟩ := hw 3 (by omega) (by kernel_rfl)
    obtain ⟨e1, hr1, hl1⟩ := r1
    rw [e1] at s1
    have hww := HWW.out
    have hbs := hb.size
    have CC := appP (uN ⟨#[102]⟩) [.var X, .var Z] (.slice (some ⟨lo 3, 0, none⟩) 2 2) w9 (Upto w w9 NoB) ((NoB.in w).upto (by omega)) ((ts2 hr1).more fun b hb0 => .inr ⟨by omega, by omega⟩) (by show 2 ≤ 3000; decide)
    refine gw_tt rfl (wanted_plain rfl) 27 17 20 _ _ _ rfl (fun v u w => by go_simp) s0 s1 ?_
    with_reducible refine (CC).mono ?_
    rintro e w3 ⟨cs3, rfl, h3, hb3⟩
    exact ⟨_, rfl, _, rfl, hb3, by have := hb3.size; omega, cs3, rfl, h3.more (fun b hb0 => upto_two (by omega) hb3.size b hb0)⟩
   | 5, _ =>
    refine wpOp_step rfl fun K' hK' => ?_
    rw [if_pos (wanted_plain rfl)]
    unfold Oper.wp
    simp only [execOp]
    go_simp
    exact hK' _ _ ⟨_, rfl, below_alT _ _, rfl, heap_alloc_new _ _, by simp⟩
  case done =>
   intro a w9 v lo hi' hdef hsz hoth hb hj hap
   obtain ⟨_, ⟨hz4, cst, hv4, ht4⟩, hlo4, hhi4⟩ := hj 4 (by omega)
   obtain ⟨_, ⟨hv5, hbx5, hlt5⟩, hlo5, hhi5⟩ := hj 5 (by omega)
   have ha := eq_puts hdef hsz hoth (fun i hi => (hj i hi).1)
   subst ha
   clear hj hoth hdef hsz hap
   simp only [puts, List.getD_cons_zero, List.getD_cons_succ, hv4, hv5]
   generalize v 0 = v0
   generalize v 1 = v1
   generalize v 2 = v2
   generalize v 3 = v3
   clear hv4 hv5
   simp only [Act.put, List.setIfInBounds_toArray, List.set_cons_zero, List.set_cons_succ]
   show wpList _ _ _ [_] _ _
   have HB9 := hI hb
   have glt : X2.heap.size ≤ lo 5 := hlo5
   generalize lo 5 = gt at *
   have h3 := ht4
   unfold TmAt at ht4
   obtain ⟨A2, c2, ecs, hlc4, _⟩ := ht4
   have ecs2 : cst = [.int .i64 3, .string (uN ⟨#[102]⟩).1, .string (uN ⟨#[102]⟩).2, .int .i64 0, .string ⟨#[]⟩, .string ⟨#[]⟩, .string ⟨#[]⟩, .string ⟨#[]⟩, .string ⟨#[]⟩, .slice none 0 0, .slice A2 2 c2] := ecs
   subst ecs2
   have BX9 := hI (BX.out.keep hb)
   have BZ9 := hI (BZ.out.keep hb)
   have B5 := hI hbx5
   have HT : Hid (TmAt (w9.setRow gt [.int .i64 3, .string (uN ⟨#[102]⟩).1, .string (uN ⟨#[102]⟩).2, .int .i64 0, .string ⟨#[]⟩, .string ⟨#[]⟩, .string ⟨#[]⟩, .string ⟨#[]⟩, .string ⟨#[]⟩, .slice none 0 0, .slice A2 2 c2].toArray) (Upto w (w9.setRow gt [.int .i64 3, .string (uN ⟨#[102]⟩).1, .string (uN ⟨#[102]⟩).2, .int .i64 0, .string ⟨#[]⟩, .string ⟨#[]⟩, .string ⟨#[]⟩, .string ⟨#[]⟩, .string ⟨#[]⟩, .slice none 0 0, .slice A2 2 c2].toArray) NoB) (.app (uN ⟨#[102]⟩) [.var X, .var Z]) [.int .i64 3, .string (uN ⟨#[102]⟩).1, .string (uN ⟨#[102]⟩).2, .int .i64 0, .string ⟨#[]⟩, .string ⟨#[]⟩, .string ⟨#[]⟩, .string ⟨#[]⟩, .string ⟨#[]⟩, .slice none 0 0, .slice A2 2 c2]) := TmAt.boxed h3 hbx5.nb _
   have BT : Hid (TB (w9.setRow gt [.int .i64 3, .string (uN ⟨#[102]⟩).1, .string (uN ⟨#[102]⟩).2, .int .i64 0, .string ⟨#[]⟩, .string ⟨#[]⟩, .string ⟨#[]⟩, .string ⟨#[]⟩, .string ⟨#[]⟩, .slice none 0 0, .slice A2 2 c2].toArray) gt [.int .i64 3, .string (uN ⟨#[102]⟩).1, .string (uN ⟨#[102]⟩).2, .int .i64 0, .string ⟨#[]⟩, .string ⟨#[]⟩, .string ⟨#[]⟩, .string ⟨#[]⟩, .string ⟨#[]⟩, .slice none 0 0, .slice A2 2 c2]) := hbx5.set _
   have BX3 : Hid (TB (w9.setRow gt [.int .i64 3, .string (uN ⟨#[102]⟩).1, .string (uN ⟨#[102]⟩).2, .int .i64 0, .string ⟨#[]⟩, .string ⟨#[]⟩, .string ⟨#[]⟩, .string ⟨#[]⟩, .string ⟨#[]⟩, .slice none 0 0, .slice A2 2 c2].toArray) gx [.int .i64 1, .string X.1, .string X.2, .int .i64 0, .string ⟨#[]⟩, .string ⟨#[]⟩, .string ⟨#[]⟩, .string ⟨#[]⟩, .string ⟨#[]⟩, .slice none 0 0, .slice none 0 0]) := BX9.out.other (fun e => by have := BX.out.lt; omega)
   have BZ3 : Hid (TB (w9.setRow gt [.int .i64 3, .string (uN ⟨#[102]⟩).1, .string (uN ⟨#[102]⟩).2, .int .i64 0, .string ⟨#[]⟩, .string ⟨#[]⟩, .string ⟨#[]⟩, .string ⟨#[]⟩, .string ⟨#[]⟩, .slice none 0 0, .slice A2 2 c2].toArray) gz [.int .i64 1, .string Z.1, .string Z.2, .int .i64 0, .string ⟨#[]⟩, .string ⟨#[]⟩, .string ⟨#[]⟩, .string ⟨#[]⟩, .string ⟨#[]⟩, .slice none 0 0, .slice none 0 0]) := BZ9.out.other (fun e => by have := BZ.out.lt; omega)
   have HB3 : Hid (Below X2.heap.size X2 (w9.setRow gt [.int .i64 3, .string (uN ⟨#[102]⟩).1, .string (uN ⟨#[102]⟩).2, .int .i64 0, .string ⟨#[]⟩, .string ⟨#[]⟩, .string ⟨#[]⟩, .string ⟨#[]⟩, .string ⟨#[]⟩, .slice none 0 0, .slice A2 2 c2].toArray)) := below_setRowO hb glt _
   have ONE3 := hI h3.o11
   clear h3 hb hbx5 hlt5 hlo5 hhi5 hlo4 hhi4 hz4 ecs hlc4 BX9 BZ9 HB9
   go_wp2_with ((with_reducible refine storeTb (cs := [.int .i64 3, .string (uN ⟨#[102]⟩).1, .string (uN ⟨#[102]⟩).2, .int .i64 0, .string ⟨#[]⟩, .string ⟨#[]⟩, .string ⟨#[]⟩, .string ⟨#[]⟩, .string ⟨#[]⟩, .slice none 0 0, .slice A2 2 c2]) (.tmp 4) (.tmp 21) ?_ ?_ ?_ ?_ B5.out ?_ ?_ ?_ ?_); rfl; rfl; rfl; rfl; rfl; rfl; exact ONE3.out.2)
   generalize w9.setRow gt [.int .i64 3, .string (uN ⟨#[102]⟩).1, .string (uN ⟨#[102]⟩).2, .int .i64 0, .string ⟨#[]⟩, .string ⟨#[]⟩, .string ⟨#[]⟩, .string ⟨#[]⟩, .string ⟨#[]⟩, .slice none 0 0, .slice A2 2 c2].toArray = X3 at *
   replace C0 := hI ((HB3.out.cell (p := ⟨b, o, none⟩) HLB.out).trans C0.out)
   replace C1 := hI ((HB3.out.cell (p := ⟨b, o + 1, none⟩) HLB.out).trans C1.out)
   replace C2 := hI ((HB3.out.cell (p := ⟨b, o + 2, none⟩) HLB.out).trans C2.out)
   replace C3 := hI ((HB3.out.cell (p := ⟨b, o + 3, none⟩) HLB.out).trans C3.out)
   replace HLB := hI (Nat.lt_of_lt_of_le HLB.out HB3.out.size)
   replace HBW : Hid (Below w.heap.size w X3) := HBW.out.trans (HB3.out.mono HWW.out)
   have HGT : Hid (w.heap.size ≤ gt) := Nat.le_trans HWW.out glt
   replace HWW : Hid (w.heap.size ≤ X3.heap.size) := HBW.out.size
   replace BX := BX3
   replace BZ := BZ3
   clear BX3 BZ3 HB3 glt B5
   refine wp_region_grow (l := _) 14 (by kernel_rfl) (by kernel_rfl) (fun i => [22, 23, 24, 25, 26, 27, 28, 29, 30, 31, 32, 33, 34, 5].getD i 0) (LR [LV (.agg #[.int .i64 3, .string (uN ⟨#[102]⟩).1, .string (uN ⟨#[102]⟩).2, .int .i64 0, .string ⟨#[]⟩, .string ⟨#[]⟩, .string ⟨#[]⟩, .string ⟨#[]⟩, .string ⟨#[]⟩, .slice none 0 0, .slice A2 2 c2]), LV (.slice (some ⟨b, o, none⟩) 2 c), LV (.pointer (some ⟨b, o, none⟩)), LV (.agg #[.string X.1, .string X.2]), LV (.agg #[.int .i64 1, .string Z.1, .string Z.2, .int .i64 0, .string ⟨#[]⟩, .string ⟨#[]⟩, .string ⟨#[]⟩, .string ⟨#[]⟩, .string ⟨#[]⟩, .slice none 0 0, .slice none 0 0]), LV (.agg #[.string X.1, .string X.2, .int .i64 1, .string Z.1, .string Z.2, .int .i64 0, .string ⟨#[]⟩, .string ⟨#[]⟩, .string ⟨#[]⟩, .string ⟨#[]⟩, .string ⟨#[]⟩, .slice none 0 0, .slice none 0 0]), LV (.slice (some ⟨b, o, none⟩) 2 c), LV (.pointer (some ⟨b, o + 2, none⟩)), LV (.agg #[.string Z.1, .string Z.2]), LV (.agg #[.int .i64 1, .string X.1, .string X.2, .int .i64 0, .string ⟨#[]⟩, .string ⟨#[]⟩, .string ⟨#[]⟩, .string ⟨#[]⟩, .string ⟨#[]⟩, .slice none 0 0, .slice none 0 0]), LV (.agg #[.string Z.1, .string Z.2, .int .i64 1, .string X.1, .string X.2, .int .i64 0, .string ⟨#[]⟩, .string ⟨#[]⟩, .string ⟨#[]⟩, .string ⟨#[]⟩, .string ⟨#[]⟩, .slice none 0 0, .slice none 0 0]), LA2 X Z, LTm w NoB (subT [(X, .var Z), (Z, .var X)] (.app (uN ⟨#[102]⟩) [.var X, .var Z])), LTx]) (LR_mono ⟨mLV _, mLV _, mLV _, mLV _, mLV _, mLV _, mLV _, mLV _, mLV _, mLV _, mLV _, mLA2 X Z, mLTm (NoB.in _) _, mLTx, trivial⟩) (by
    intro i j hi hj h
    exact inj_getD [22, 23, 24, 25, 26, 27, 28, 29, 30, 31, 32, 33, 34, 5] (by decide) i j hi hj h) (by
    intro i hi
    exact lt_getD 68 [22, 23, 24, 25, 26, 27, 28, 29, 30, 31, 32, 33, 34, 5] (by decide) i hi) ?step ?done
   case step =>
    intro ii hii a w9 v lo hi' hoth hb hw
    have sl1 : a.tmps[1]? = some (.slice (some ⟨b, o, none⟩) 2 c) := (hoth 1 (fun j hj => ne_getD 1 _ (by decide) j hj)).trans rfl
    have sl2 : a.tmps[2]? = some (.pointer (some ⟨gx, 0, none⟩)) := (hoth 2 (fun j hj => ne_getD 2 _ (by decide) j hj)).trans rfl
    have sl3 : a.tmps[3]? = some (.pointer (some ⟨gz, 0, none⟩)) := (hoth 3 (fun j hj => ne_getD 3 _ (by decide) j hj)).trans rfl
    have sl4 : a.tmps[4]? = some (.pointer (some ⟨gt, 0, none⟩)) := (hoth 4 (fun j hj => ne_getD 4 _ (by decide) j hj)).trans rfl
    match ii, hii with
    | 0, _ =>
     have ct0 := (hb.cell (p := ⟨gt, 0 + 0, none⟩) BT.out.lt).trans (BT.out.cell 0 _ rfl)
     have ct1 := (hb.cell (p := ⟨gt, 0 + 1, none⟩) BT.out.lt).trans (BT.out.cell 1 _ rfl)
     have ct2 := (hb.cell (p := ⟨gt, 0 + 2, none⟩) BT.out.lt).trans (BT.out.cell 2 _ rfl)
     have ct3 := (hb.cell (p := ⟨gt, 0 + 3, none⟩) BT.out.lt).trans (BT.out.cell 3 _ rfl)
     have ct4 := (hb.cell (p := ⟨gt, 0 + 4, none⟩) BT.out.lt).trans (BT.out.cell 4 _ rfl)
     have ct5 := (hb.cell (p := ⟨gt, 0 + 5, none⟩) BT.out.lt).trans (BT.out.cell 5 _ rfl)
     have ct6 := (hb.cell (p := ⟨gt, 0 + 6, none⟩) BT.out.lt).trans (BT.out.cell 6 _ rfl)
     have ct7 := (hb.cell (p := ⟨gt, 0 + 7, none⟩) BT.out.lt).trans (BT.out.cell 7 _ rfl)
     have ct8 := (hb.cell (p := ⟨gt, 0 + 8, none⟩) BT.out.lt).trans (BT.out.cell 8 _ rfl)
     have ct9 := (hb.cell (p := ⟨gt, 0 + 9, none⟩) BT.out.lt).trans (BT.out.cell 9 _ rfl)
     have ct10 := (hb.cell (p := ⟨gt, 0 + 10, none⟩) BT.out.lt).trans (BT.out.cell 10 _ rfl)
     refine wpOp_step rfl fun K' hK' => ?_
     rw [if_pos (wanted_plain rfl)]
     unfold Oper.wp
     simp only [execOp]
     go_simp
     exact hK' _ _ ⟨_, rfl, Below.refl _ _, rfl⟩
    | 1, _ =>
     exact gw_move rfl (wanted_plain rfl) 1 _ rfl sl1 ⟨_, rfl, Below.refl _ _, rfl⟩
    | 2, _ =>
     obtain ⟨s0, r0, _⟩ := hw 1 (by omega) (by kernel_rfl)
     have e0 : v 1 = .slice (some ⟨b, o, none⟩) 2 c := r0
     rw [e0] at s0
     replace s0 : a.tmps[23]? = some (.slice (some ⟨b, o, none⟩) 2 c) := s0
     refine wpOp_step rfl fun K' hK' => ?_
     rw [if_pos (wanted_plain rfl)]
     unfold Oper.wp
     simp only [execOp]
     go_simp
     exact hK' _ _ ⟨_, rfl, Below.refl _ _, rfl⟩
    | 3, _ =>
     obtain ⟨s0, r0, _⟩ := hw 2 (by omega) (by kernel_rfl)
     have e0 : v 2 = .pointer (some ⟨b, o, none⟩) := r0
     rw [e0] at s0
     replace s0 : a.tmps[24]? = some (.pointer (some ⟨b, o, none⟩)) := s0
     have cc0 := (hb.cell (p := ⟨b, o, none⟩) HLB.out).trans C0.out
     have cc1 := (hb.cell (p := ⟨b, o + 1, none⟩) HLB.out).trans C1.out
     refine wpOp_step rfl fun K' hK' => ?_
     rw [if_pos (wanted_plain rfl)]
     unfold Oper.wp
     simp only [execOp]
     go_simp
     exact hK' _ _ ⟨_, rfl, Below.refl _ _, rfl⟩
    | 4, _ =>
     have cz0 := (hb.cell (p := ⟨gz, 0 + 0, none⟩) BZ.out.lt).trans (BZ.out.cell 0 _ rfl)
     have cz1 := (hb.cell (p := ⟨gz, 0 + 1, none⟩) BZ.out.lt).trans (BZ.out.cell 1 _ rfl)
     have cz2 := (hb.cell (p := ⟨gz, 0 + 2, none⟩) BZ.out.lt).trans (BZ.out.cell 2 _ rfl)
     have cz3 := (hb.cell (p := ⟨gz, 0 + 3, none⟩) BZ.out.lt).trans (BZ.out.cell 3 _ rfl)
     have cz4 := (hb.cell (p := ⟨gz, 0 + 4, none⟩) BZ.out.lt).trans (BZ.out.cell 4 _ rfl)
     have cz5 := (hb.cell (p := ⟨gz, 0 + 5, none⟩) BZ.out.lt).trans (BZ.out.cell 5 _ rfl)
     have cz6 := (hb.cell (p := ⟨gz, 0 + 6, none⟩) BZ.out.lt).trans (BZ.out.cell 6 _ rfl)
     have cz7 := (hb.cell (p := ⟨gz, 0 + 7, none⟩) BZ.out.lt).trans (BZ.out.cell 7 _ rfl)
     have cz8 := (hb.cell (p := ⟨gz, 0 + 8, none⟩) BZ.out.lt).trans (BZ.out.cell 8 _ rfl)
     have cz9 := (hb.cell (p := ⟨gz, 0 + 9, none⟩) BZ.out.lt).trans (BZ.out.cell 9 _ rfl)
     have cz10 := (hb.cell (p := ⟨gz, 0 + 10, none⟩) BZ.out.lt).trans (BZ.out.cell 10 _ rfl)
     refine wpOp_step rfl fun K' hK' => ?_
     rw [if_pos (wanted_plain rfl)]
     unfold Oper.wp
     simp only [execOp]
     go_simp
     exact hK' _ _ ⟨_, rfl, Below.refl _ _, rfl⟩
    | 5, _ =>
     obtain ⟨s0, r0, _⟩ := hw 3 (by omega) (by kernel_rfl)
     have e0 : v 3 = .agg #[.string X.1, .string X.2] := r0
     rw [e0] at s0
     replace s0 : a.tmps[25]? = some (.agg #[.string X.1, .string X.2]) := s0
     obtain ⟨s1, r1, _⟩ := hw 4 (by omega) (by kernel_rfl)
     have e1 : v 4 = .agg #[.int .i64 1, .string Z.1, .string Z.2, .int .i64 0, .string ⟨#[]⟩, .string ⟨#[]⟩, .string ⟨#[]⟩, .string ⟨#[]⟩, .string ⟨#[]⟩, .slice none 0 0, .slice none 0 0] := r1
     rw [e1] at s1
     replace s1 : a.tmps[26]? = some (.agg #[.int .i64 1, .string Z.1, .string Z.2, .int .i64 0, .string ⟨#[]⟩, .string ⟨#[]⟩, .string ⟨#[]⟩, .string ⟨#[]⟩, .string ⟨#[]⟩, .slice none 0 0, .slice none 0 0]) := s1
     refine wpOp_step rfl fun K' hK' => ?_
     rw [if_pos (wanted_plain rfl)]
     unfold Oper.wp
     simp only [execOp]
     go_simp
     exact hK' _ _ ⟨_, rfl, Below.refl _ _, rfl⟩
    | 6, _ =>
     exact gw_move rfl (wanted_plain rfl) 1 _ rfl sl1 ⟨_, rfl, Below.refl _ _, rfl⟩
    | 7, _ =>
     obtain ⟨s0, r0, _⟩ := hw 6 (by omega) (by kernel_rfl)
     have e0 : v 6 = .slice (some ⟨b, o, none⟩) 2 c := r0
     rw [e0] at s0
     replace s0 : a.tmps[28]? = some (.slice (some ⟨b, o, none⟩) 2 c) := s0
     refine wpOp_step rfl fun K' hK' => ?_
     rw [if_pos (wanted_plain rfl)]
     unfold Oper.wp
     simp only [execOp]
     go_simp
     exact hK' _ _ ⟨_, rfl, Below.refl _ _, rfl⟩
    | 8, _ =>
     obtain ⟨s0, r0, _⟩ := hw 7 (by omega) (by kernel_rfl)
     have e0 : v 7 = .pointer (some ⟨b, o + 2, none⟩) := r0
     rw [e0] at s0
     replace s0 : a.tmps[29]? = some (.pointer (some ⟨b, o + 2, none⟩)) := s0
     have cc0 := (hb.cell (p := ⟨b, o + 2, none⟩) HLB.out).trans C2.out
     have cc1 := (hb.cell (p := ⟨b, o + 3, none⟩) HLB.out).trans C3.out
     refine wpOp_step rfl fun K' hK' => ?_
     rw [if_pos (wanted_plain rfl)]
     unfold Oper.wp
     simp only [execOp]
     go_simp
     exact hK' _ _ ⟨_, rfl, Below.refl _ _, rfl⟩
    | 9, _ =>
     have cx0 := (hb.cell (p := ⟨gx, 0 + 0, none⟩) BX.out.lt).trans (BX.out.cell 0 _ rfl)
     have cx1 := (hb.cell (p := ⟨gx, 0 + 1, none⟩) BX.out.lt).trans (BX.out.cell 1 _ rfl)
     have cx2 := (hb.cell (p := ⟨gx, 0 + 2, none⟩) BX.out.lt).trans (BX.out.cell 2 _ rfl)
     have cx3 := (hb.cell (p := ⟨gx, 0 + 3, none⟩) BX.out.lt).trans (BX.out.cell 3 _ rfl)
     have cx4 := (hb.cell (p := ⟨gx, 0 + 4, none⟩) BX.out.lt).trans (BX.out.cell 4 _ rfl)
     have cx5 := (hb.cell (p := ⟨gx, 0 + 5, none⟩) BX.out.lt).trans (BX.out.cell 5 _ rfl)
     have cx6 := (hb.cell (p := ⟨gx, 0 + 6, none⟩) BX.out.lt).trans (BX.out.cell 6 _ rfl)
     have cx7 := (hb.cell (p := ⟨gx, 0 + 7, none⟩) BX.out.lt).trans (BX.out.cell 7 _ rfl)
     have cx8 := (hb.cell (p := ⟨gx, 0 + 8, none⟩) BX.out.lt).trans (BX.out.cell 8 _ rfl)
     have cx9 := (hb.cell (p := ⟨gx, 0 + 9, none⟩) BX.out.lt).trans (BX.out.cell 9 _ rfl)
     have cx10 := (hb.cell (p := ⟨gx, 0 + 10, none⟩) BX.out.lt).trans (BX.out.cell 10 _ rfl)
     refine wpOp_step rfl fun K' hK' => ?_
     rw [if_pos (wanted_plain rfl)]
     unfold Oper.wp
     simp only [execOp]
     go_simp
     exact hK' _ _ ⟨_, rfl, Below.refl _ _, rfl⟩
    | 10, _ =>
     obtain ⟨s0, r0, _⟩ := hw 8 (by omega) (by kernel_rfl)
     have e0 : v 8 = .agg #[.string Z.1, .string Z.2] := r0
     rw [e0] at s0
     replace s0 : a.tmps[30]? = some (.agg #[.string Z.1, .string Z.2]) := s0
     obtain ⟨s1, r1, _⟩ := hw 9 (by omega) (by kernel_rfl)
     have e1 : v 9 = .agg #[.int .i64 1, .string X.1, .string X.2, .int .i64 0, .string ⟨#[]⟩, .string ⟨#[]⟩, .string ⟨#[]⟩, .string ⟨#[]⟩, .string ⟨#[]⟩, .slice none 0 0, .slice none 0 0] := r1
     rw [e1] at s1
     replace s1 : a.tmps[31]? = some (.agg #[.int .i64 1, .string X.1, .string X.2, .int .i64 0, .string ⟨#[]⟩, .string ⟨#[]⟩, .string ⟨#[]⟩, .string ⟨#[]⟩, .string ⟨#[]⟩, .slice none 0 0, .slice none 0 0]) := s1
     refine wpOp_step rfl fun K' hK' => ?_
     rw [if_pos (wanted_plain rfl)]
     unfold Oper.wp
     simp only [execOp]
     go_simp
     exact hK' _ _ ⟨_, rfl, Below.refl _ _, rfl⟩
    | 11, _ =>
     obtain ⟨s0, r0, _⟩ := hw 5 (by omega) (by kernel_rfl)
     have e0 : v 5 = .agg #[.string X.1, .string X.2, .int .i64 1, .string Z.1, .string Z.2, .int .i64 0, .string ⟨#[]⟩, .string ⟨#[]⟩, .string ⟨#[]⟩, .string ⟨#[]⟩, .string ⟨#[]⟩, .slice none 0 0, .slice none 0 0] := r0
     rw [e0] at s0
     replace s0 : a.tmps[27]? = some (.agg #[.string X.1, .string X.2, .int .i64 1, .string Z.1, .string Z.2, .int .i64 0, .string ⟨#[]⟩, .string ⟨#[]⟩, .string ⟨#[]⟩, .string ⟨#[]⟩, .string ⟨#[]⟩, .slice none 0 0, .slice none 0 0]) := s0
     obtain ⟨s1, r1, _⟩ := hw 10 (by omega) (by kernel_rfl)
     have e1 : v 10 = .agg #[.string Z.1, .string Z.2, .int .i64 1, .string X.1, .string X.2, .int .i64 0, .string ⟨#[]⟩, .string ⟨#[]⟩, .string ⟨#[]⟩, .string ⟨#[]⟩, .string ⟨#[]⟩, .slice none 0 0, .slice none 0 0] := r1
     rw [e1] at s1
     replace s1 : a.tmps[32]? = some (.agg #[.string Z.1, .string Z.2, .int .i64 1, .string X.1, .string X.2, .int .i64 0, .string ⟨#[]⟩, .string ⟨#[]⟩, .string ⟨#[]⟩, .string ⟨#[]⟩, .string ⟨#[]⟩, .slice none 0 0, .slice none 0 0]) := s1
     refine wpOp_step rfl fun K' hK' => ?_
     rw [if_pos (wanted_plain rfl)]
     unfold Oper.wp
     simp only [execOp]
     go_simp
     exact hK' _ _ ⟨_, rfl, below_alT _ _, rfl, heap_alloc_new _ _, by simp⟩
    | 12, _ =>
     obtain ⟨s0, r0, _⟩ := hw 0 (by omega) (by kernel_rfl)
     have e0 : v 0 = .agg #[.int .i64 3, .string (uN ⟨#[102]⟩).1, .string (uN ⟨#[102]⟩).2, .int .i64 0, .string ⟨#[]⟩, .string ⟨#[]⟩, .string ⟨#[]⟩, .string ⟨#[]⟩, .string ⟨#[]⟩, .slice none 0 0, .slice A2 2 c2] := r0
     rw [e0] at s0
     replace s0 : a.tmps[22]? = some (.agg #[.int .i64 3, .string (uN ⟨#[102]⟩).1, .string (uN ⟨#[102]⟩).2, .int .i64 0, .string ⟨#[]⟩, .string ⟨#[]⟩, .string ⟨#[]⟩, .string ⟨#[]⟩, .string ⟨#[]⟩, .slice none 0 0, .slice A2 2 c2]) := s0
     obtain ⟨s1, r1, b1⟩ := hw 11 (by omega) (by kernel_rfl)
     obtain ⟨e1, hr1, hl1⟩ := r1
     rw [e1] at s1
     have hww := HWW.out
     have hbs := hb.size
     have CC := substituteP [(X, .var Z), (Z, .var X)] (.slice (some ⟨lo 11, 0, none⟩) 2 2) (.app (uN ⟨#[102]⟩) [.var X, .var Z]) [.int .i64 3, .string (uN ⟨#[102]⟩).1, .string (uN ⟨#[102]⟩).2, .int .i64 0, .string ⟨#[]⟩, .string ⟨#[]⟩, .string ⟨#[]⟩, .string ⟨#[]⟩, .string ⟨#[]⟩, .slice none 0 0, .slice A2 2 c2] w9 (Upto w w9 NoB) ((NoB.in w).upto (by omega)) ((HT.out.below (fun b hb0 => upto_lt (NoB.in w) HWW.out b hb0) hb).more (fun b hb0 => upto_more hb.size b hb0)) ((as2 hr1).more fun b hb0 => .inr ⟨by omega, by omega⟩) (by simp [Tm.nodes, Tm.nodesL]) (by show 2 ≤ 100000; decide)
     unfold vTm at CC
     refine gw_tt rfl (wanted_plain rfl) 38 22 33 _ _ _ rfl (fun v u w => by go_simp) s0 s1 ?_
     with_reducible refine (CC).mono ?_
     rintro e w3 ⟨cs3, rfl, h3, hb3⟩
     exact ⟨_, rfl, _, rfl, hb3, by have := hb3.size; omega, cs3, rfl, h3.more (fun b hb0 => upto_two (by omega) hb3.size b hb0)⟩
    | 13, _ =>
     refine wpOp_step rfl fun K' hK' => ?_
     rw [if_pos (wanted_plain rfl)]
     unfold Oper.wp
     simp only [execOp]
     go_simp
     exact hK' _ _ ⟨_, rfl, below_alT _ _, rfl, heap_alloc_new _ _, by simp⟩
    | k + 14, h => exact absurd h (by omega)
   case done =>
    intro a w9 v lo hi' hdef hsz hoth hb hj hap
    obtain ⟨_, ⟨hz12, csu, hv12, ht12⟩, hlo12, hhi12⟩ := hj 12 (by omega)
    obtain ⟨_, ⟨hv13, hbx13, hlt13⟩, hlo13, hhi13⟩ := hj 13 (by omega)
    have ha := eq_puts hdef hsz hoth (fun i hi => (hj i hi).1)
    subst ha
    clear hj hoth hdef hsz hap
    simp only [puts, List.getD_cons_zero, List.getD_cons_succ, hv12, hv13]
    generalize v 0 = v0
    generalize v 1 = v1
    generalize v 2 = v2
    generalize v 3 = v3
    generalize v 4 = v4
    generalize v 5 = v5
    generalize v 6 = v6
    generalize v 7 = v7
    generalize v 8 = v8
    generalize v 9 = v9
    generalize v 10 = v10
    generalize v 11 = v11
    clear hv12 hv13
    simp only [Act.put, List.setIfInBounds_toArray, List.set_cons_zero, List.set_cons_succ]
    show wpList _ _ _ [_] _ _
    have e4 : subT [(X, .var Z), (Z, .var X)] (.app (uN ⟨#[102]⟩) [.var X, .var Z]) = .app (uN ⟨#[102]⟩) [.var Z, .var X] := by
     have hxx : eqN X X = true := eqN_iff.2 rfl
     have hzz : eqN Z Z = true := eqN_iff.2 rfl
     simp [subT, subTs, findA, hxx, hzz, hne]
    rw [e4] at ht12
    obtain ⟨T1, hT1⟩ : ∃ T1, T1 = Tm.app (uN ⟨#[102]⟩) [.var Z, .var X] := ⟨_, rfl⟩
    have HT1 := hI hT1
    have h3 := ht12
    unfold TmAt at ht12
    obtain ⟨A3, c3, ecs, _, _⟩ := ht12
    have ecs2 : csu = [.int .i64 3, .string (uN ⟨#[102]⟩).1, .string (uN ⟨#[102]⟩).2, .int .i64 0, .string ⟨#[]⟩, .string ⟨#[]⟩, .string ⟨#[]⟩, .string ⟨#[]⟩, .string ⟨#[]⟩, .slice none 0 0, .slice A3 2 c3] := ecs
    subst ecs2
    have gls : X3.heap.size ≤ lo 13 := hlo13
    generalize lo 13 = gs at *
    have B13 := hI hbx13
    rw [← hT1] at h3
    have HU : Hid (TmAt (w9.setRow gs [.int .i64 3, .string (uN ⟨#[102]⟩).1, .string (uN ⟨#[102]⟩).2, .int .i64 0, .string ⟨#[]⟩, .string ⟨#[]⟩, .string ⟨#[]⟩, .string ⟨#[]⟩, .string ⟨#[]⟩, .slice none 0 0, .slice A3 2 c3].toArray) (Upto w (w9.setRow gs [.int .i64 3, .string (uN ⟨#[102]⟩).1, .string (uN ⟨#[102]⟩).2, .int .i64 0, .string ⟨#[]⟩, .string ⟨#[]⟩, .string ⟨#[]⟩, .string ⟨#[]⟩, .string ⟨#[]⟩, .slice none 0 0, .slice A3 2 c3].toArray) NoB) T1 [.int .i64 3, .string (uN ⟨#[102]⟩).1, .string (uN ⟨#[102]⟩).2, .int .i64 0, .string ⟨#[]⟩, .string ⟨#[]⟩, .string ⟨#[]⟩, .string ⟨#[]⟩, .string ⟨#[]⟩, .slice none 0 0, .slice A3 2 c3]) := TmAt.boxed h3 hbx13.nb _
    have BU : Hid (TB (w9.setRow gs [.int .i64 3, .string (uN ⟨#[102]⟩).1, .string (uN ⟨#[102]⟩).2, .int .i64 0, .string ⟨#[]⟩, .string ⟨#[]⟩, .string ⟨#[]⟩, .string ⟨#[]⟩, .string ⟨#[]⟩, .slice none 0 0, .slice A3 2 c3].toArray) gs [.int .i64 3, .string (uN ⟨#[102]⟩).1, .string (uN ⟨#[102]⟩).2, .int .i64 0, .string ⟨#[]⟩, .string ⟨#[]⟩, .string ⟨#[]⟩, .string ⟨#[]⟩, .string ⟨#[]⟩, .slice none 0 0, .slice A3 2 c3]) := hbx13.set _
    have BZ5 : Hid (TB (w9.setRow gs [.int .i64 3, .string (uN ⟨#[102]⟩).1, .string (uN ⟨#[102]⟩).2, .int .i64 0, .string ⟨#[]⟩, .string ⟨#[]⟩, .string ⟨#[]⟩, .string ⟨#[]⟩, .string ⟨#[]⟩, .slice none 0 0, .slice A3 2 c3].toArray) gz [.int .i64 1, .string Z.1, .string Z.2, .int .i64 0, .string ⟨#[]⟩, .string ⟨#[]⟩, .string ⟨#[]⟩, .string ⟨#[]⟩, .string ⟨#[]⟩, .slice none 0 0, .slice none 0 0]) := (BZ.out.keep hb).other (fun e => by have := BZ.out.lt; omega)
    have HB5 : Hid (Below w.heap.size w (w9.setRow gs [.int .i64 3, .string (uN ⟨#[102]⟩).1, .string (uN ⟨#[102]⟩).2, .int .i64 0, .string ⟨#[]⟩, .string ⟨#[]⟩, .string ⟨#[]⟩, .string ⟨#[]⟩, .string ⟨#[]⟩, .slice none 0 0, .slice A3 2 c3].toArray)) := HBW.out.trans ((below_setRowO hb gls _).mono HWW.out)
    have ONE5 := hI h3.o11
    clear h3 hb hbx13 hlt13 hlo13 hhi13 hlo12 hhi12 hz12 ecs BX BT HT BZ HBW HGT HGX HGZ HNE HWW HLB C0 C1 C2 C3 e4 hT1 hne hne2 gls
    go_upto_region 5 with ((with_reducible refine storeTb (cs := [.int .i64 3, .string (uN ⟨#[102]⟩).1, .string (uN ⟨#[102]⟩).2, .int .i64 0, .string ⟨#[]⟩, .string ⟨#[]⟩, .string ⟨#[]⟩, .string ⟨#[]⟩, .string ⟨#[]⟩, .slice none 0 0, .slice A3 2 c3]) (.tmp 5) (.tmp 34) ?_ ?_ ?_ ?_ B13.out ?_ ?_ ?_ ?_); rfl; rfl; rfl; rfl; rfl; rfl; exact ONE5.out.2)
    generalize w9.setRow gs [.int .i64 3, .string (uN ⟨#[102]⟩).1, .string (uN ⟨#[102]⟩).2, .int .i64 0, .string ⟨#[]⟩, .string ⟨#[]⟩, .string ⟨#[]⟩, .string ⟨#[]⟩, .string ⟨#[]⟩, .slice none 0 0, .slice A3 2 c3].toArray = X5 at *
    have hA5 := below_alT X5 (.cells #[.int .i64 0] 3)
    have HW5 := HB5.out.size
    have hIs : IsV (X5.alloc (.cells #[.int .i64 0] 3)) (Upto w (X5.alloc (.cells #[.int .i64 0] 3)) NoB) [0] (.slice (some ⟨X5.heap.size, 0, none⟩) 1 1) := by
     refine ⟨_, 1, rfl, Nat.le_refl _, fun _ => ⟨X5.heap.size, 0, rfl, Or.inr ⟨HW5, by simp⟩, fun i hi => ?_⟩⟩
     have hi1 : i < 1 := hi
     have : i = 0 := by omega
     subst this
     rw [cell_of_row _ _ _ _ _ _ (heap_alloc_new X5 _)]; rfl
    have hU5 : TmAt (X5.alloc (.cells #[.int .i64 0] 3)) (Upto w (X5.alloc (.cells #[.int .i64 0] 3)) NoB) T1 [.int .i64 3, .string (uN ⟨#[102]⟩).1, .string (uN ⟨#[102]⟩).2, .int .i64 0, .string ⟨#[]⟩, .string ⟨#[]⟩, .string ⟨#[]⟩, .string ⟨#[]⟩, .string ⟨#[]⟩, .slice none 0 0, .slice A3 2 c3] := (HU.out.below (fun b hb0 => upto_lt (NoB.in w) HW5 b hb0) hA5).more (fun b hb0 => upto_more hA5.size b hb0)
    have A5 := atT T1 [.int .i64 3, .string (uN ⟨#[102]⟩).1, .string (uN ⟨#[102]⟩).2, .int .i64 0, .string ⟨#[]⟩, .string ⟨#[]⟩, .string ⟨#[]⟩, .string ⟨#[]⟩, .string ⟨#[]⟩, .slice none 0 0, .slice A3 2 c3] [0] _ _ _ ((NoB.in w).upto (Nat.le_trans HW5 hA5.size)) hU5 hIs (by decide)
    have eA : atP T1 [0] = some (.var Z) := by rw [HT1.out]; rfl
    rw [eA] at A5
    replace A5 := hI A5
    unfold vTm at A5
    have HA5 := hI hA5
    clear hA5 hIs hU5 eA HW5
    go_wp2_with ((with_reducible refine loadTb (cs := [.int .i64 3, .string (uN ⟨#[102]⟩).1, .string (uN ⟨#[102]⟩).2, .int .i64 0, .string ⟨#[]⟩, .string ⟨#[]⟩, .string ⟨#[]⟩, .string ⟨#[]⟩, .string ⟨#[]⟩, .slice none 0 0, .slice A3 2 c3]) (.tmp 5) ?_ ?_ ?_ BU.out ?_ ?_); rfl; rfl; rfl; rfl)
    refine A5.out.mono ?_
    rintro e w6 ⟨cs6, rfl, h6, hb6⟩
    have e6 : cs6 = [.int .i64 1, .string Z.1, .string Z.2, .int .i64 0, .string ⟨#[]⟩, .string ⟨#[]⟩, .string ⟨#[]⟩, .string ⟨#[]⟩, .string ⟨#[]⟩, .slice none 0 0, .slice none 0 0] := h6
    subst e6
    have HB6 := hI (HA5.out.trans (hb6.mono HA5.out.size))
    have HS6 : Hid (X5.heap.size ≤ w6.heap.size) := HB6.out.size
    have HC6 : Hid (Below X5.heap.size X5 (w6.alloc (.cells #[.int .i64 1, .string Z.1, .string Z.2, .int .i64 0, .string ⟨#[]⟩, .string ⟨#[]⟩, .string ⟨#[]⟩, .string ⟨#[]⟩, .string ⟨#[]⟩, .slice none 0 0, .slice none 0 0] 45))) := HB6.out.trans ((below_alT w6 _).mono HS6.out)
    have BT6 : Hid (TB (w6.alloc (.cells #[.int .i64 1, .string Z.1, .string Z.2, .int .i64 0, .string ⟨#[]⟩, .string ⟨#[]⟩, .string ⟨#[]⟩, .string ⟨#[]⟩, .string ⟨#[]⟩, .slice none 0 0, .slice none 0 0] 45)) w6.heap.size [.int .i64 1, .string Z.1, .string Z.2, .int .i64 0, .string ⟨#[]⟩, .string ⟨#[]⟩, .string ⟨#[]⟩, .string ⟨#[]⟩, .string ⟨#[]⟩, .slice none 0 0, .slice none 0 0]) := heap_alloc_new _ _
    clear hb6 h6 A5 HA5 HB6 HS6
    unfold vTm
    go_upto_region 6 with fail
    generalize w6.alloc (.cells #[.int .i64 1, .string Z.1, .string Z.2, .int .i64 0, .string ⟨#[]⟩, .string ⟨#[]⟩, .string ⟨#[]⟩, .string ⟨#[]⟩, .string ⟨#[]⟩, .slice none 0 0, .slice none 0 0] 45) = Y at *
    generalize w6.heap.size = g6 at *
    have BUY := hI (BU.out.keep HC6.out)
    have BZY := hI (BZ5.out.keep HC6.out)
    have HUY : Hid (TmAt Y (Upto w Y NoB) T1 [.int .i64 3, .string (uN ⟨#[102]⟩).1, .string (uN ⟨#[102]⟩).2, .int .i64 0, .string ⟨#[]⟩, .string ⟨#[]⟩, .string ⟨#[]⟩, .string ⟨#[]⟩, .string ⟨#[]⟩, .slice none 0 0, .slice A3 2 c3]) := (HU.out.below (fun b hb0 => upto_lt (NoB.in w) HB5.out.size b hb0) HC6.out).more (fun b hb0 => upto_more HC6.out.size b hb0)
    have HBY : Hid (Below w.heap.size w Y) := HB5.out.trans (HC6.out.mono HB5.out.size)
    clear BU BZ5 HU HB5 HC6 B13
    have EQ1 : Hid (Calls Tryz.prog 41 #[.agg #[.int .i64 1, .string Z.1, .string Z.2, .int .i64 0, .string ⟨#[]⟩, .string ⟨#[]⟩, .string ⟨#[]⟩, .string ⟨#[]⟩, .string ⟨#[]⟩, .slice none 0 0, .slice none 0 0], .agg #[.int .i64 1, .string Z.1, .string Z.2, .int .i64 0, .string ⟨#[]⟩, .string ⟨#[]⟩, .string ⟨#[]⟩, .string ⟨#[]⟩, .string ⟨#[]⟩, .slice none 0 0, .slice none 0 0]] Y (RetB Y true)) := by
     have h := equalT 10 (by decide) (.var Z) (.var Z) [.int .i64 1, .string Z.1, .string Z.2, .int .i64 0, .string ⟨#[]⟩, .string ⟨#[]⟩, .string ⟨#[]⟩, .string ⟨#[]⟩, .string ⟨#[]⟩, .slice none 0 0, .slice none 0 0] [.int .i64 1, .string Z.1, .string Z.2, .int .i64 0, .string ⟨#[]⟩, .string ⟨#[]⟩, .string ⟨#[]⟩, .string ⟨#[]⟩, .string ⟨#[]⟩, .slice none 0 0, .slice none 0 0] Y NoB (NoB.in Y) rfl rfl (by unfold Tm.bd; trivial) (by unfold Tm.bd; trivial) (by simp [Tm.nodes])
     rw [eqT_refl] at h
     exact h
    repeat (first | ((with_reducible refine loadTg (cs := [.int .i64 1, .string Z.1, .string Z.2, .int .i64 0, .string ⟨#[]⟩, .string ⟨#[]⟩, .string ⟨#[]⟩, .string ⟨#[]⟩, .string ⟨#[]⟩, .slice none 0 0, .slice none 0 0]) (.tmp 6) ?_ ?_ ?_ BT6.out ?_ ?_); rfl; rfl; rfl; rfl; unfold vTm) | ((with_reducible refine loadTg (cs := [.int .i64 1, .string Z.1, .string Z.2, .int .i64 0, .string ⟨#[]⟩, .string ⟨#[]⟩, .string ⟨#[]⟩, .string ⟨#[]⟩, .string ⟨#[]⟩, .slice none 0 0, .slice none 0 0]) (.tmp 3) ?_ ?_ ?_ BZY.out ?_ ?_); rfl; rfl; rfl; rfl; unfold vTm) | go_skip | go_guarded | go_step | go_upon | go_back)
    refine EQ1.out.mono ?_
    rintro e w7 ⟨rfl, hb⟩
    dsimp only
    have BU7 := hI (BUY.out.keep hb)
    have HU7 : Hid (TmAt w7 (Upto w w7 NoB) T1 [.int .i64 3, .string (uN ⟨#[102]⟩).1, .string (uN ⟨#[102]⟩).2, .int .i64 0, .string ⟨#[]⟩, .string ⟨#[]⟩, .string ⟨#[]⟩, .string ⟨#[]⟩, .string ⟨#[]⟩, .slice none 0 0, .slice A3 2 c3]) := (HUY.out.below (fun b hb0 => upto_lt (NoB.in w) HBY.out.size b hb0) hb).more (fun b hb0 => upto_more hb.size b hb0)
    have HB7 : Hid (Below w.heap.size w w7) := HBY.out.trans (hb.mono HBY.out.size)
    clear hb EQ1 BUY HUY HBY BZY BT6
    have VAL : Hid (Calls Tryz.prog 74 #[.agg #[.int .i64 3, .string (uN ⟨#[102]⟩).1, .string (uN ⟨#[102]⟩).2, .int .i64 0, .string ⟨#[]⟩, .string ⟨#[]⟩, .string ⟨#[]⟩, .string ⟨#[]⟩, .string ⟨#[]⟩, .slice none 0 0, .slice A3 2 c3]] w7 (RetB w7 true)) := by
     have h := validT T1 [.int .i64 3, .string (uN ⟨#[102]⟩).1, .string (uN ⟨#[102]⟩).2, .int .i64 0, .string ⟨#[]⟩, .string ⟨#[]⟩, .string ⟨#[]⟩, .string ⟨#[]⟩, .string ⟨#[]⟩, .slice none 0 0, .slice A3 2 c3] w7 _ ((NoB.in w).upto HB7.out.size) HU7.out (by rw [HT1.out]; simp [Tm.nodes, Tm.nodesL]) (by rw [HT1.out]; simp [Tm.dep, Tm.depL]) (by rw [HT1.out]; simp [Tm.bd, Tm.bdL])
     rw [show wfT T1 = true from by rw [HT1.out]; exact HWF.out] at h
     exact h
    repeat (first | ((with_reducible refine loadTg (cs := [.int .i64 3, .string (uN ⟨#[102]⟩).1, .string (uN ⟨#[102]⟩).2, .int .i64 0, .string ⟨#[]⟩, .string ⟨#[]⟩, .string ⟨#[]⟩, .string ⟨#[]⟩, .string ⟨#[]⟩, .slice none 0 0, .slice A3 2 c3]) (.tmp 5) ?_ ?_ ?_ BU7.out ?_ ?_); rfl; rfl; rfl; rfl; unfold vTm) | go_skip | go_guarded | go_step | go_upon | go_back)
    refine VAL.out.mono ?_
    rintro e w8 ⟨rfl, hb⟩
    dsimp only
    have BU8 := hI (BU7.out.keep hb)
    have HU8 : Hid (TmAt w8 (Upto w w8 NoB) T1 [.int .i64 3, .string (uN ⟨#[102]⟩).1, .string (uN ⟨#[102]⟩).2, .int .i64 0, .string ⟨#[]⟩, .string ⟨#[]⟩, .string ⟨#[]⟩, .string ⟨#[]⟩, .string ⟨#[]⟩, .slice none 0 0, .slice A3 2 c3]) := (HU7.out.below (fun b hb0 => upto_lt (NoB.in w) HB7.out.size b hb0) hb).more (fun b hb0 => upto_more hb.size b hb0)
    have HB8 : Hid (Below w.heap.size w w8) := HB7.out.trans (hb.mono HB7.out.size)
    clear hb VAL BU7 HU7 HB7
    have NOD : Hid (Calls Tryz.prog 75 #[.agg #[.int .i64 3, .string (uN ⟨#[102]⟩).1, .string (uN ⟨#[102]⟩).2, .int .i64 0, .string ⟨#[]⟩, .string ⟨#[]⟩, .string ⟨#[]⟩, .string ⟨#[]⟩, .string ⟨#[]⟩, .slice none 0 0, .slice A3 2 c3]] w8 (RetI w8 3)) := by
     have h := nodesT T1 [.int .i64 3, .string (uN ⟨#[102]⟩).1, .string (uN ⟨#[102]⟩).2, .int .i64 0, .string ⟨#[]⟩, .string ⟨#[]⟩, .string ⟨#[]⟩, .string ⟨#[]⟩, .string ⟨#[]⟩, .slice none 0 0, .slice A3 2 c3] w8 _ ((NoB.in w).upto HB8.out.size) HU8.out (by rw [HT1.out]; simp [Tm.nodes, Tm.nodesL])
     rw [show ((T1.nodes : Nat) : Int) = 3 from by rw [HT1.out]; simp [Tm.nodes, Tm.nodesL]] at h
     exact h
    repeat (first | ((with_reducible refine loadTg (cs := [.int .i64 3, .string (uN ⟨#[102]⟩).1, .string (uN ⟨#[102]⟩).2, .int .i64 0, .string ⟨#[]⟩, .string ⟨#[]⟩, .string ⟨#[]⟩, .string ⟨#[]⟩, .string ⟨#[]⟩, .slice none 0 0, .slice A3 2 c3]) (.tmp 5) ?_ ?_ ?_ BU8.out ?_ ?_); rfl; rfl; rfl; rfl; unfold vTm) | go_skip | go_guarded | go_step | go_upon | go_back)
    refine NOD.out.mono ?_
    rintro e w9 ⟨rfl, hb⟩
    dsimp only
    have BU9 := hI (BU8.out.keep hb)
    have HU9 : Hid (TmAt w9 (Upto w w9 NoB) T1 [.int .i64 3, .string (uN ⟨#[102]⟩).1, .string (uN ⟨#[102]⟩).2, .int .i64 0, .string ⟨#[]⟩, .string ⟨#[]⟩, .string ⟨#[]⟩, .string ⟨#[]⟩, .string ⟨#[]⟩, .slice none 0 0, .slice A3 2 c3]) := (HU8.out.below (fun b hb0 => upto_lt (NoB.in w) HB8.out.size b hb0) hb).more (fun b hb0 => upto_more hb.size b hb0)
    have HB9 : Hid (Below w.heap.size w w9) := HB8.out.trans (hb.mono HB8.out.size)
    clear hb NOD BU8 HU8 HB8
    have hA9 := below_alT w9 (.cells #[.int .i64 3, .string (uN ⟨#[102]⟩).1, .string (uN ⟨#[102]⟩).2, .int .i64 0, .string ⟨#[]⟩, .string ⟨#[]⟩, .string ⟨#[]⟩, .string ⟨#[]⟩, .string ⟨#[]⟩, .slice none 0 0, .slice A3 2 c3] 45)
    have hR9 : (w9.alloc (.cells #[.int .i64 3, .string (uN ⟨#[102]⟩).1, .string (uN ⟨#[102]⟩).2, .int .i64 0, .string ⟨#[]⟩, .string ⟨#[]⟩, .string ⟨#[]⟩, .string ⟨#[]⟩, .string ⟨#[]⟩, .slice none 0 0, .slice A3 2 c3] 45)).heap[w9.heap.size]? = some (.cells #[.int .i64 3, .string (uN ⟨#[102]⟩).1, .string (uN ⟨#[102]⟩).2, .int .i64 0, .string ⟨#[]⟩, .string ⟨#[]⟩, .string ⟨#[]⟩, .string ⟨#[]⟩, .string ⟨#[]⟩, .slice none 0 0, .slice A3 2 c3] 45 (0, 0)) := heap_alloc_new w9 _
    have hU9 : TmAt (w9.alloc (.cells #[.int .i64 3, .string (uN ⟨#[102]⟩).1, .string (uN ⟨#[102]⟩).2, .int .i64 0, .string ⟨#[]⟩, .string ⟨#[]⟩, .string ⟨#[]⟩, .string ⟨#[]⟩, .string ⟨#[]⟩, .slice none 0 0, .slice A3 2 c3] 45)) (Upto w (w9.alloc (.cells #[.int .i64 3, .string (uN ⟨#[102]⟩).1, .string (uN ⟨#[102]⟩).2, .int .i64 0, .string ⟨#[]⟩, .string ⟨#[]⟩, .string ⟨#[]⟩, .string ⟨#[]⟩, .string ⟨#[]⟩, .slice none 0 0, .slice A3 2 c3] 45)) NoB) T1 [.int .i64 3, .string (uN ⟨#[102]⟩).1, .string (uN ⟨#[102]⟩).2, .int .i64 0, .string ⟨#[]⟩, .string ⟨#[]⟩, .string ⟨#[]⟩, .string ⟨#[]⟩, .string ⟨#[]⟩, .slice none 0 0, .slice A3 2 c3] := (HU9.out.below (fun b hb0 => upto_lt (NoB.in w) HB9.out.size b hb0) hA9).more (fun b hb0 => upto_more hA9.size b hb0)
    have hAA : ArgsAt (w9.alloc (.cells #[.int .i64 3, .string (uN ⟨#[102]⟩).1, .string (uN ⟨#[102]⟩).2, .int .i64 0, .string ⟨#[]⟩, .string ⟨#[]⟩, .string ⟨#[]⟩, .string ⟨#[]⟩, .string ⟨#[]⟩, .slice none 0 0, .slice A3 2 c3] 45)) (Upto w (w9.alloc (.cells #[.int .i64 3, .string (uN ⟨#[102]⟩).1, .string (uN ⟨#[102]⟩).2, .int .i64 0, .string ⟨#[]⟩, .string ⟨#[]⟩, .string ⟨#[]⟩, .string ⟨#[]⟩, .string ⟨#[]⟩, .slice none 0 0, .slice A3 2 c3] 45)) NoB) [T1] (some ⟨w9.heap.size, 0, none⟩) 1 := by
     refine ⟨Nat.le_refl _, fun _ => ⟨_, _, rfl, ⟨.inr ⟨HB9.out.size, by simp⟩, _, _, hR9⟩, ?_⟩⟩
     unfold TmsAt
     refine ⟨⟨_, hU9, fun j u hj => TB.cell (g := w9.heap.size) hR9 j u hj⟩, ?_⟩
     unfold TmsAt; trivial
    have hshort : ∀ u ∈ subsTs [T1], NmOk u := by
     rw [HT1.out, HX.out, HZZ.out]
     intro u hu
     simp [subsTs, subsT] at hu
     rcases hu with rfl | rfl | rfl <;> exact ⟨by show _ ≤ maxLen; decide, by show _ ≤ maxLen; decide⟩
    have VAR := variablesT [T1] _ _ _ _ ((NoB.in w).upto (Nat.le_trans HB9.out.size hA9.size)) hAA hshort (fun x hx => by rw [List.mem_singleton] at hx; rw [hx, HT1.out]; simp [Tm.nodes, Tm.nodesL]) (by simp) (by rw [HT1.out]; simp [subsTs, subsT])
    have hnl : (namesF 1 (subsTs [T1])).length = 2 := by rw [HT1.out, HX.out, HZZ.out]; kernel_rfl
    replace VAR := hI VAR
    have HA9 := hI hA9
    have HNL := hI hnl
    have HSH := hI hshort
    clear hA9 hR9 hU9 hAA hshort hnl
    repeat (first | ((with_reducible refine loadTg (cs := [.int .i64 3, .string (uN ⟨#[102]⟩).1, .string (uN ⟨#[102]⟩).2, .int .i64 0, .string ⟨#[]⟩, .string ⟨#[]⟩, .string ⟨#[]⟩, .string ⟨#[]⟩, .string ⟨#[]⟩, .slice none 0 0, .slice A3 2 c3]) (.tmp 5) ?_ ?_ ?_ BU9.out ?_ ?_); rfl; rfl; rfl; rfl; unfold vTm) | go_skip | go_guarded | go_step | go_upon | go_back)
    refine VAR.out.mono ?_
    rintro e w10 ⟨v, rfl, ⟨A4, c4, rfl, _, _⟩, hb⟩
    dsimp only
    rw [HNL.out]
    have hb0 := HA9.out.trans (hb.mono HA9.out.size)
    have BU10 := hI (BU9.out.keep hb0)
    have HU10 : Hid (TmAt w10 (Upto w w10 NoB) T1 [.int .i64 3, .string (uN ⟨#[102]⟩).1, .string (uN ⟨#[102]⟩).2, .int .i64 0, .string ⟨#[]⟩, .string ⟨#[]⟩, .string ⟨#[]⟩, .string ⟨#[]⟩, .string ⟨#[]⟩, .slice none 0 0, .slice A3 2 c3]) := (HU9.out.below (fun b hb0 => upto_lt (NoB.in w) HB9.out.size b hb0) hb0).more (fun b hb1 => upto_more hb0.size b hb1)
    have HB10 : Hid (Below w.heap.size w w10) := HB9.out.trans (hb0.mono HB9.out.size)
    clear hb hb0 VAR BU9 HU9 HB9 HA9
    have GRD : Hid (Calls Tryz.prog 31 #[.agg #[.int .i64 3, .string (uN ⟨#[102]⟩).1, .string (uN ⟨#[102]⟩).2, .int .i64 0, .string ⟨#[]⟩, .string ⟨#[]⟩, .string ⟨#[]⟩, .string ⟨#[]⟩, .string ⟨#[]⟩, .slice none 0 0, .slice A3 2 c3]] w10 (RetB w10 false)) := by
     have h := groundT T1 [.int .i64 3, .string (uN ⟨#[102]⟩).1, .string (uN ⟨#[102]⟩).2, .int .i64 0, .string ⟨#[]⟩, .string ⟨#[]⟩, .string ⟨#[]⟩, .string ⟨#[]⟩, .string ⟨#[]⟩, .slice none 0 0, .slice A3 2 c3] w10 _ ((NoB.in w).upto HB10.out.size) HU10.out (fun u hu => HSH.out u (by unfold subsTs; exact List.mem_append.2 (.inl hu))) (by rw [HT1.out]; simp [Tm.nodes, Tm.nodesL])
     rw [show noVar (subsT T1) = false from by rw [HT1.out]; simp [subsT, subsTs, noVar, Tm.kd]] at h
     exact h
    repeat (first | ((with_reducible refine loadTg (cs := [.int .i64 3, .string (uN ⟨#[102]⟩).1, .string (uN ⟨#[102]⟩).2, .int .i64 0, .string ⟨#[]⟩, .string ⟨#[]⟩, .string ⟨#[]⟩, .string ⟨#[]⟩, .string ⟨#[]⟩, .slice none 0 0, .slice A3 2 c3]) (.tmp 5) ?_ ?_ ?_ BU10.out ?_ ?_); rfl; rfl; rfl; rfl; unfold vTm) | go_skip | go_guarded | go_step | go_upon | go_back)
    refine GRD.out.mono ?_
    rintro e w11 ⟨rfl, hb⟩
    dsimp only
    have HF : Hid (Below w.heap.size w w11) := HB10.out.trans (hb.mono HB10.out.size)
    clear hb GRD
    go_wp2
    go_ret
    exact ⟨rfl, HF.out⟩
theorem Tm.nodesL_snoc : ∀ (l : List Tm) (t : Tm), Tm.nodesL (l ++ [t]) = Tm.nodesL l + t.nodes
 | [], t => by simp [Tm.nodesL]
 | x :: l, t => by
  have := Tm.nodesL_snoc l t
  simp only [List.cons_append, Tm.nodesL]; omega
theorem subsTs_cons (t : Tm) (l : List Tm) : subsTs (t :: l) = subsT t ++ subsTs l := by conv => lhs; unfold subsTs
theorem subsTs_nil : subsTs [] = [] := by unfold subsTs; rfl
theorem subsTs_append : ∀ l m : List Tm, subsTs (l ++ m) = subsTs l ++ subsTs m
 | [], m => by rw [List.nil_append, subsTs_nil, List.nil_append]
 | t :: l, m => by rw [List.cons_append, subsTs_cons, subsTs_cons, subsTs_append l m, List.append_assoc]
theorem subsTs_take {l : List Tm} {i : Nat} (hi : i < l.length) : subsTs (l.take (i + 1)) = subsTs (l.take i) ++ subsT l[i] := by
 rw [List.take_succ_eq_append_getElem hi, subsTs_append]
 congr 1
 rw [subsTs_cons, subsTs_nil, List.append_nil]
mutual
theorem subsT_len : ∀ t : Tm, (subsT t).length ≤ t.nodes
 | .var s => by unfold subsT Tm.nodes; simp
 | .con o => by have := Tm.nodes_pos (.con o); unfold subsT; simpa using this
 | .app s l => by have := subsTs_len l; unfold subsT Tm.nodes; simp; omega
theorem subsTs_len : ∀ l : List Tm, (subsTs l).length ≤ Tm.nodesL l
 | [] => by unfold subsTs; simp [Tm.nodesL]
 | t :: l => by have h1 := subsT_len t; have h2 := subsTs_len l; unfold subsTs Tm.nodesL; simp; omega
end
theorem addMs_len : ∀ (l acc : List Nm), (l.foldl addM acc).length ≤ acc.length + l.length
 | [], acc => by simp
 | s :: l, acc => by
  have h := addMs_len l (addM acc s)
  have h1 : (addM acc s).length ≤ acc.length + 1 := by unfold addM; split <;> simp
  show (l.foldl addM (addM acc s)).length ≤ _
  simp only [List.length_cons]; omega
theorem names_var {X : List Tm} {t : Tm} (hk : t.kd = 1) : [t.nm].foldl addM (namesF 1 X) = namesF 1 (X ++ subsT t) := by
 have ha : t.args = [] := by
  cases t with
  | var s => rfl
  | con o => rfl
  | app s l => exact absurd hk (by simp [Tm.kd])
 rw [subsT_eq, ha]
 show addM (namesF 1 X) t.nm = namesF 1 (X ++ [t])
 rw [namesF_snoc, addN_on hk]
theorem names_notvar {X : List Tm} {t : Tm} (hk : t.kd ≠ 1) : (namesF 1 (subsTs t.args)).foldl addM (namesF 1 X) = namesF 1 (X ++ subsT t) := by
 rw [subsT_eq, addMs_namesF]
 unfold namesF
 rw [List.foldl_append, List.foldl_cons, addN_off hk]
theorem names_fun {X : List Tm} {t : Tm} (hk : t.kd = 3) : (t.nm :: namesF 3 (subsTs t.args)).foldl addM (namesF 3 X) = namesF 3 (X ++ subsT t) := by
 rw [subsT_eq, List.foldl_cons, addMs_namesF]
 unfold namesF
 rw [List.foldl_append, List.foldl_cons, addN_on hk]
theorem names_notfun {X : List Tm} {t : Tm} (hk : t.kd ≠ 3) : namesF 3 X = namesF 3 (X ++ subsT t) := by
 have ha : t.args = [] := by
  cases t with
  | var s => rfl
  | con o => rfl
  | app s l => exact absurd rfl hk
 rw [subsT_eq, ha]
 show _ = namesF 3 (X ++ [t])
 rw [namesF_snoc, addN_off hk]
structure NsO (Y wr : World) (l : List Nm) (v : Value) : Prop where
 own : wr.ownsRow Y.heap.size 24 2 v l.length (flatN l)
 bel : Below Y.heap.size Y wr
theorem NsO.start (Y : World) : NsO Y Y [] (.slice none 0 0) := ⟨⟨rfl, .inl ⟨rfl, rfl⟩⟩, Below.refl _ _⟩
theorem NsO.keep {Y wr w' : World} {l : List Nm} {v : Value} (h : NsO Y wr l v) (hb : Below wr.heap.size wr w') : NsO Y w' l v := ⟨own_keep h.own fun g hg => hb.block g (own_lt h.own g hg).2, h.bel.trans (hb.mono h.bel.size)⟩
theorem NsO.step {Y wr w4 : World} {l : List Nm} {v v' : Value} {s : Nm} (h : NsO Y wr l v) (h4 : w4.ownsRow Y.heap.size 24 2 v' (l.length + 1) (flatN l ++ [.string s.1, .string s.2])) (hg : wr.grownBy w4 v.ownBlock) : NsO Y w4 (l ++ [s]) v' :=
 ⟨by rw [List.length_append, show flatN (l ++ [s]) = flatN l ++ [.string s.1, .string s.2] by simp [flatN]]; exact h4, h.bel.grown hg h.bel.size (fun k hk => by have := (own_lt h.own k hk).1; omega)⟩
theorem NsO.ret {Y wr : World} {l : List Nm} {v : Value} (h : NsO Y wr l v) : RetNs Y l (.returned v) wr := ⟨v, rfl, (nsV_own h.own).more fun b hb => .inr ⟨hb.1, hb.2.1⟩, h.bel⟩
structure InW (Y wr : World) (SF : Nat → Prop) (F : List Nm) (fv : Value) (acc0 : List Nm) (j : Nat) (sl : Value) : Prop where
 row : NsO Y wr ((F.take j).foldl addM acc0) sl
 fnd : NsV wr SF F fv
 off : ∀ g, sl.ownBlock = some g → ¬ SF g
 lt : ∀ b, SF b → b < wr.heap.size
theorem InW.keep {Y wr w' : World} {SF : Nat → Prop} {F : List Nm} {fv : Value} {acc0 : List Nm} {j : Nat} {sl : Value} (h : InW Y wr SF F fv acc0 j sl) (hb : Below wr.heap.size wr w') : InW Y w' SF F fv acc0 j sl :=
 ⟨h.row.keep hb, h.fnd.below h.lt hb, h.off, fun b hb' => Nat.lt_of_lt_of_le (h.lt b hb') hb.size⟩
theorem InW.same {Y wr : World} {SF : Nat → Prop} {F : List Nm} {fv : Value} {acc0 : List Nm} {j : Nat} {sl : Value} (h : InW Y wr SF F fv acc0 j sl) (hj : j < F.length) {x : Nm} (hx : F[j] = x) (ha : (((F.take j).foldl addM acc0).any fun y => eqN y x) = true) : InW Y wr SF F fv acc0 (j + 1) sl :=
 ⟨by rw [addMs_take hj, hx, addM_on ha]; exact h.row, h.fnd, h.off, h.lt⟩
theorem InW.step {Y wr w4 : World} {SF : Nat → Prop} {F : List Nm} {fv : Value} {acc0 : List Nm} {j : Nat} {sl v' : Value} (h : InW Y wr SF F fv acc0 j sl) (hj : j < F.length) {x : Nm} (hx : F[j] = x) (ha : (((F.take j).foldl addM acc0).any fun y => eqN y x) = false)
 (h4 : w4.ownsRow Y.heap.size 24 2 v' (((F.take j).foldl addM acc0).length + 1) (flatN ((F.take j).foldl addM acc0) ++ [.string x.1, .string x.2])) (hg : wr.grownBy w4 sl.ownBlock) (hat : v'.ownBlock = sl.ownBlock ∨ v'.ownBlock = some wr.heap.size) : InW Y w4 SF F fv acc0 (j + 1) v' :=
 ⟨by rw [addMs_take hj, hx, addM_off ha]; exact h.row.step h4 hg, h.fnd.keep (fun _ h => h) (fun b hb => hg.block b (h.lt b hb) (fun e => h.off b e.symm hb)), fun g hv hs => by
  rcases hat with e | e
  · exact h.off g (e.symm.trans hv) hs
  · rw [e] at hv
    have := h.lt g hs
    injection hv with hv
    omega, fun b hb => Nat.lt_of_lt_of_le (h.lt b hb) hg.size⟩
theorem InW.get {Y wr : World} {SF : Nat → Prop} {F : List Nm} {Af : Option Addr} {FL cf : Nat} {acc0 : List Nm} {j : Nat} {sl : Value} (h : InW Y wr SF F (.slice Af FL cf) acc0 j sl) (hj : j < F.length) {x : Nm} (hx : F[j] = x) : ∃ b o, Af = some ⟨b, o, none⟩ ∧ wr.cell? ⟨b, o + j * 2, none⟩ = some (.string x.1) ∧ wr.cell? ⟨b, o + j * 2 + 1, none⟩ = some (.string x.2) ∧ b < wr.heap.size ∧ FL ≤ cf := by
 obtain ⟨A, c, e, h1, h2⟩ := h.fnd
 obtain ⟨b, o, e2, h3, h4⟩ := h2 (by omega)
 injection e with e3 e4 e5
 subst e3 e4 e5 hx
 exact ⟨b, o, e2, (h4 j hj).1, (h4 j hj).2, h.lt b h3.1, h1⟩
theorem InW.among {Y wr : World} {SF : Nat → Prop} {F : List Nm} {fv : Value} {acc0 : List Nm} {j : Nat} {sl : Value} (h : InW Y wr SF F fv acc0 j sl) (x : Nm) (hl : ((F.take j).foldl addM acc0).length ≤ 1000000) : Calls Tryz.prog 89 #[sl, .agg #[.string x.1, .string x.2]] wr (RetB wr (((F.take j).foldl addM acc0).any fun y => eqN y x)) :=
 amongR _ sl x wr _ (fun b hb => hb.2.1) (nsV_own h.row.own) hl
theorem InW.start {Y wo wf : World} {F : List Nm} {fv : Value} {acc0 : List Nm} {sl : Value} (h : NsO Y wo acc0 sl) (hb : Below wo.heap.size wo wf) (hf : NsV wf (fun b => wo.heap.size ≤ b ∧ b < wf.heap.size) F fv) : InW Y wf (fun b => wo.heap.size ≤ b ∧ b < wf.heap.size) F fv acc0 0 sl :=
 ⟨h.keep hb, hf, fun g hg hs => by have := (own_lt h.own g hg).2; omega, fun b hb => hb.2⟩
theorem variablesR : ∀ (N : Nat) (ts : List Tm) (A : Option Addr) (c : Nat) (w : World) (S : Nat → Prop), In S w → ArgsAt w S ts A c → Tm.nodesL ts ≤ N → N ≤ 100000 →
 Calls Tryz.prog 35 #[.slice A ts.length c] w (RetNs w (namesF 1 (subsTs ts))) := by
 intro N
 induction N using Nat.strongRecOn with
 | ind N ih =>
  intro ts A c w S hS h hN hN1
  have IH : Hid (∀ t ∈ ts, ∀ (A : Option Addr) (c : Nat) (w : World) (S : Nat → Prop), In S w → ArgsAt w S t.args A c → Calls Tryz.prog 35 #[.slice A t.args.length c] w (RetNs w (namesF 1 (subsTs t.args)))) := fun t ht A c w S hS h => by
   have h1 := Tm.nodes_mem ht
   have h2 := t.nodes_args
   exact ih (Tm.nodesL t.args) (by omega) t.args A c w S hS h (Nat.le_refl _) (by omega)
  have HNL : Hid (∀ t ∈ ts, (namesF 1 (subsTs t.args)).length ≤ 100000) := fun t ht => by
   have h1 := Tm.nodes_mem ht
   have h2 := t.nodes_args
   have h3 := subsTs_len t.args
   have h4 := namesF_len 1 (subsTs t.args)
   omega
  have HAL : Hid (∀ i, (namesF 1 (subsTs (ts.take i))).length ≤ 100000) := fun i => by
   have h3 := subsTs_len (ts.take i)
   have h4 := namesF_len 1 (subsTs (ts.take i))
   have h5 : subsTs ts = subsTs (ts.take i) ++ subsTs (ts.drop i) := by rw [← subsTs_append, List.take_append_drop]
   have h6 := subsTs_len ts
   rw [h5, List.length_append] at h6
   omega
  have hl : ts.length ≤ 100000 := by have := Tm.nodesL_len ts; omega
  have HA := hI h
  have HS := hI hS
  obtain ⟨i0, hi0, hz0, hz1, hz2⟩ := infoN
  have HI0' := hI hi0
  have HZ0 := hI hz0
  have HZ1 := hI hz1
  have HZ2 := hI hz2
  have hlc : ts.length ≤ c := h.1
  obtain ⟨L, hL⟩ : ∃ L, ts.length = L := ⟨_, rfl⟩
  have HL := hI hL
  have HFIN : Hid (∀ wr sl, NsO w wr (namesF 1 (subsTs (ts.take L))) sl → RetNs w (namesF 1 (subsTs ts)) (.returned sl) wr) := fun wr sl h => by
   rw [← hL, List.take_length] at h
   exact h.ret
  have h0 : Hid (NsO w w (namesF 1 (subsTs (ts.take 0))) (.slice none 0 0)) := NsO.start w
  rw [hL] at hl hlc ⊢
  generalize RetNs w (namesF 1 (subsTs ts)) = RT at HFIN ⊢
  clear ih hS h hi0 hz0 hz1 hz2 hL hN hN1
  go_enter Tryz.func35, Tryz.ntmps35
  go_wp2_with fail
  go_loopw [3, 4] (fun u v wr => ∃ (i : Nat) (sl : Value), sl = u ∧ i ≤ L ∧ v = .int .i64 (i : Int) ∧ Hid (NsO w wr (namesF 1 (subsTs (ts.take i))) sl)) (fun _ v _ => L - (intOf v).toNat)
  case atStart => exact ⟨0, _, rfl, Nat.zero_le _, rfl, h0⟩
  case round =>
   clear h0
   obtain ⟨i, sl, rfl, hiL, rfl, hE⟩ := hrel
   obtain ⟨wo, rfl⟩ : ∃ wo : World, wo = wr := ⟨_, rfl⟩
   by_cases hlt : i < L
   · have hil : i < ts.length := by rw [HL.out]; exact hlt
     obtain ⟨ba, oa, cs, rfl, hP⟩ := HA.out.arg hil
     have hP' := hP.below HS.out hE.out.bel
     obtain ⟨t, ht⟩ : ∃ t, t = ts[i] := ⟨_, rfl⟩
     have HTK : Hid (subsTs (ts.take (i + 1)) = subsTs (ts.take i) ++ subsT t) := (show _ = _ by rw [subsTs_take hil, ht])
     have htm : t ∈ ts := by rw [ht]; exact List.getElem_mem hil
     rw [← ht] at hP'
     have HNT := hI (HNL.out t htm)
     have IHT := hI (IH.out t htm)
     obtain ⟨x0, x1, x2, x3, x4, x5, x6, A1, c1, rfl, hva, har, k0, k1, k2, k3, k4, k5, k6, k7, k8, k9, k10⟩ := hP'.cells
     have HSO : Hid (In S wo) := HS.out.later hE.out.bel.size
     have HT := hI hP'.2.1
     have HAR := hI har
     have hbS : ba < w.heap.size := HS.out ba hP.1.1
     have HBA : Hid (ba < wo.heap.size) := Nat.lt_of_lt_of_le hbS hE.out.bel.size
     clear hP hP' ht htm hva har IH HNL hbS
     by_cases hk : t.kd = 1
     · have HNX : Hid ([t.nm].foldl addM (namesF 1 (subsTs (ts.take i))) = namesF 1 (subsTs (ts.take (i + 1)))) := (show _ = _ by rw [HTK.out]; exact names_var hk)
       rw [hk] at k0
       have HI0 : Hid (InW w (wo.alloc (.cells #[.string t.nm.1, .string t.nm.2] 24)) (fun b => wo.heap.size ≤ b ∧ b < (wo.alloc (.cells #[.string t.nm.1, .string t.nm.2] 24)).heap.size) [t.nm] (.slice (some ⟨wo.heap.size, 0, none⟩) 1 1) (namesF 1 (subsTs (ts.take i))) 0 sl) :=
        InW.start hE.out (below_alT wo _) ⟨_, _, rfl, Nat.le_refl _, fun _ => ⟨_, _, rfl, ⟨⟨Nat.le_refl _, by simp⟩, _, _, heap_alloc_new wo _⟩, fun j hj => by
         obtain rfl : j = 0 := by simpa using hj
         rw [Nat.zero_mul, cell_of_row _ _ _ _ _ _ (heap_alloc_new wo _), cell_of_row _ _ _ _ _ _ (heap_alloc_new wo _)]
         exact ⟨rfl, rfl⟩⟩⟩
       have HLEN : Hid (∀ j, (([t.nm].take j).foldl addM (namesF 1 (subsTs (ts.take i)))).length ≤ 200001) := fun j => by
        have h1 := addMs_len ([t.nm].take j) (namesF 1 (subsTs (ts.take i)))
        have h2 := HAL.out i
        have h3 : ([t.nm].take j).length ≤ 1 := by rw [List.length_take]; exact Nat.min_le_right _ _
        omega
       have HFL : Hid ([t.nm].length = 1) := rfl
       clear hE HT HAR HNT IHT HAL HSO HTK HBA
       go_upto_region 9 with fail
       generalize (fun b => wo.heap.size ≤ b ∧ b < (wo.alloc (.cells #[.string t.nm.1, .string t.nm.2] 24)).heap.size) = SF at *
       generalize (some ⟨wo.heap.size, 0, none⟩ : Option Addr) = Af at HI0 ⊢
       generalize wo.alloc (.cells #[.string t.nm.1, .string t.nm.2] 24) = Z at *
       generalize [t.nm] = F at *
       generalize namesF 1 (subsTs (ts.take i)) = acc0 at *
       go_wp2_with fail
       go_loopw [3, 6] (fun u v wr => ∃ (j : Nat) (s2 : Value), s2 = u ∧ j ≤ 1 ∧ v = .int .i64 (j : Int) ∧ Hid (InW w wr SF F (.slice Af 1 1) acc0 j s2)) (fun _ v _ => 1 - (intOf v).toNat)
       case atStart => exact ⟨0, _, rfl, Nat.zero_le _, rfl, HI0⟩
       case round =>
        clear HI0
        obtain ⟨j, s2, rfl, hjL, rfl, hJ⟩ := hrel
        obtain ⟨wi, rfl⟩ : ∃ wi : World, wi = wr := ⟨_, rfl⟩
        by_cases hlt2 : j < 1
        · have hjl : j < F.length := by rw [HFL.out]; exact hlt2
          obtain ⟨x, hx⟩ : ∃ x, F[j] = x := ⟨_, rfl⟩
          obtain ⟨bf, of, rfl, f0, f1, hbl, hcf⟩ := hJ.out.get hjl hx
          have HX := hI hx
          clear hx
          have HLJ := hI (HLEN.out j)
          have AMC := hI (hJ.out.among x (by have := HLEN.out j; omega))
          have HJL := hI hjl
          obtain ⟨q, hq⟩ : ∃ q, (((F.take j).foldl addM acc0).any fun y => eqN y x) = q := ⟨_, rfl⟩
          have HQ := hI hq
          rw [hq] at AMC
          have HF0 := hI f0
          have HF1 := hI f1
          have HBL := hI hbl
          clear hq hbl
          go_wp2_with fail
          refine AMC.out.mono ?_
          rintro e w3 ⟨rfl, hb3⟩
          cases q with
          | true =>
           have HJ2 := hI ((hJ.out.keep hb3).same HJL.out HX.out HQ.out)
           clear hJ AMC hb3 f0 f1
           go_wp2
           go_roundw
           case rel => exact ⟨j + 1, _, rfl, by omega, by go_num, HJ2⟩
           case measure => simp [intOf]; omega
          | false =>
           clear f0 f1
           have f0 := (hb3.cell (p := ⟨bf, of + j * 2, none⟩) HBL.out).trans HF0.out
           have f1 := (hb3.cell (p := ⟨bf, of + j * 2 + 1, none⟩) HBL.out).trans HF1.out
           have HK := hI ((hJ.out.keep hb3).keep (below_alT w3 (.cells #[.string x.1, .string x.2] 24)))
           have own3 := hI HK.out.row.own
           have HSTEP : Hid (∀ v' w4, w4.ownsRow w.heap.size 24 2 v' (((F.take j).foldl addM acc0).length + 1) (flatN ((F.take j).foldl addM acc0) ++ [.string x.1, .string x.2]) → (w3.alloc (.cells #[.string x.1, .string x.2] 24)).grownBy w4 s2.ownBlock → (v'.ownBlock = s2.ownBlock ∨ v'.ownBlock = some (w3.alloc (.cells #[.string x.1, .string x.2] 24)).heap.size) → InW w w4 SF F (.slice (some ⟨bf, of, none⟩) 1 1) acc0 (j + 1) v') :=
            fun v' w4 h4 hg hat => HK.out.step HJL.out HX.out HQ.out h4 hg hat
           have hbs := HK.out.row.bel.size
           have hnews : ∀ i u, ([.string x.1, .string x.2] : List Value)[i]? = some u → (w3.alloc (.cells #[.string x.1, .string x.2] 24)).cell? ((⟨w3.heap.size, 0, none⟩ : Addr).add i) = some u := news_at (heap_alloc_new w3 _)
           have HNEWS := hI hnews
           have hacc := HLJ.out
           have hw3 : w.heap.size ≤ w3.heap.size := by have h1 := hJ.out.row.bel.size; have h2 := hb3.size; omega
           clear hJ AMC hb3 hnews HK HQ HF0 HF1 HX
           generalize (F.take j).foldl addM acc0 = acc at *
           go_wp2_with (at_builtin; refine wpList_append_own_at _ rfl (.tmp 44) (.tmp 49) _ rfl w.heap.size 24 i0 _ 2 32 Tryz.underlying56 HI0'.out HZ0.out HZ1.out HZ2.out rfl (by omega) s2 acc.length (flatN acc) rfl own3.out ⟨w3.heap.size, 0, none⟩ 1 1 [.string x.1, .string x.2] rfl rfl HNEWS.out (by simp [Value.oneCell']) (by simp only [maxLen]; omega) (by omega) hbs ?_; intro v4 w4 hown4 hg4 hnil4 hat4; have hst := hI (HSTEP.out v4 w4 hown4 hg4 hat4); clear hown4 hg4 hnil4 hat4)
           go_roundw
           case rel => exact ⟨j + 1, _, rfl, by omega, by go_num, hst⟩
           case measure => simp [intOf]; omega
        · have hj2 : j = 1 := by omega
          have hn3 : ¬ (j : Int) < 1 := by omega
          have HR2 : Hid (NsO w wi (namesF 1 (subsTs (ts.take (i + 1)))) s2) := (show NsO _ _ _ _ by
           have h := hJ.out.row
           rw [hj2, ← HFL.out, List.take_length, HNX.out] at h
           exact h)
          clear hJ hj2
          go_wp2
          go_roundw
          case rel => exact ⟨i + 1, _, rfl, by omega, by go_num, HR2⟩
          case measure => simp [intOf]; omega
     · have HNX : Hid ((namesF 1 (subsTs t.args)).foldl addM (namesF 1 (subsTs (ts.take i))) = namesF 1 (subsTs (ts.take (i + 1)))) := (show _ = _ by rw [HTK.out]; exact names_notvar hk)
       have CAR : Hid (Calls Tryz.prog 88 #[.agg #[.int .i64 t.kd, .string t.nm.1, .string t.nm.2, x0, x1, x2, x3, x4, x5, x6, .slice A1 t.args.length c1]] wo (RetAr wo S t.args)) := argsR t _ wo S HT.out
       have hkn : (t.kd == 1) = false := by simpa using hk
       generalize t.kd = kd at *
       go_wp2_with fail
       refine CAR.out.mono ?_
       rintro e w2 ⟨A2, c2, rfl, har2, hb2⟩
       have CRC := hI (IHT.out A2 c2 w2 S (HSO.out.later hb2.size) (har2.below HSO.out hb2))
       clear CAR har2 k0 k1 k2 k3 k4 k5 k6 k7 k8 k9 k10
       generalize namesF 1 (subsTs t.args) = F at *
       generalize t.args.length = tl at *
       go_wp2_with fail
       refine CRC.out.mono ?_
       rintro e w3 ⟨fv, rfl, hfv, hb3⟩
       obtain ⟨Af, cf, rfl, _, _⟩ := id hfv
       have HI0 : Hid (InW w w3 (fun b => wo.heap.size ≤ b ∧ b < w3.heap.size) F (.slice Af F.length cf) (namesF 1 (subsTs (ts.take i))) 0 sl) :=
        InW.start hE.out (chain2 hb2 hb3 (Nat.le_refl _)) (hfv.more fun b hb => by
         rcases hb with h | ⟨h, h'⟩
         · exact h.elim
         · exact ⟨Nat.le_trans hb2.size h, h'⟩)
       have HLEN : Hid (∀ j, ((F.take j).foldl addM (namesF 1 (subsTs (ts.take i)))).length ≤ 200001) := fun j => by
        have h1 := addMs_len (F.take j) (namesF 1 (subsTs (ts.take i)))
        have h2 := HAL.out i
        have h3 : (F.take j).length ≤ F.length := by rw [List.length_take]; exact Nat.min_le_right _ _
        have h4 := HNT.out
        omega
       obtain ⟨FL, hFL⟩ : ∃ FL, F.length = FL := ⟨_, rfl⟩
       have HFL := hI hFL
       have hFLb : FL ≤ 100000 := by have := HNT.out; omega
       rw [hFL] at HI0 ⊢
       clear hE HT HAR HNT IHT HAL HSO HTK HBA hfv hb2 hb3 CRC hFL
       generalize (fun b => wo.heap.size ≤ b ∧ b < w3.heap.size) = SF at *
       generalize namesF 1 (subsTs (ts.take i)) = acc0 at *
       go_wp2_with fail
       go_loopw [3, 6] (fun u v wr => ∃ (j : Nat) (s2 : Value), s2 = u ∧ j ≤ FL ∧ v = .int .i64 (j : Int) ∧ Hid (InW w wr SF F (.slice Af FL cf) acc0 j s2)) (fun _ v _ => FL - (intOf v).toNat)
       case atStart => exact ⟨0, _, rfl, Nat.zero_le _, rfl, HI0⟩
       case round =>
        clear HI0
        obtain ⟨j, s2, rfl, hjL, rfl, hJ⟩ := hrel
        obtain ⟨wi, rfl⟩ : ∃ wi : World, wi = wr := ⟨_, rfl⟩
        by_cases hlt2 : j < FL
        · have hjl : j < F.length := by rw [HFL.out]; exact hlt2
          obtain ⟨x, hx⟩ : ∃ x, F[j] = x := ⟨_, rfl⟩
          obtain ⟨bf, of, rfl, f0, f1, hbl, hcf⟩ := hJ.out.get hjl hx
          have HX := hI hx
          clear hx
          have HLJ := hI (HLEN.out j)
          have AMC := hI (hJ.out.among x (by have := HLEN.out j; omega))
          have HJL := hI hjl
          obtain ⟨q, hq⟩ : ∃ q, (((F.take j).foldl addM acc0).any fun y => eqN y x) = q := ⟨_, rfl⟩
          have HQ := hI hq
          rw [hq] at AMC
          have HF0 := hI f0
          have HF1 := hI f1
          have HBL := hI hbl
          clear hq hbl
          go_wp2_with fail
          refine AMC.out.mono ?_
          rintro e w3 ⟨rfl, hb3⟩
          cases q with
          | true =>
           have HJ2 := hI ((hJ.out.keep hb3).same HJL.out HX.out HQ.out)
           clear hJ AMC hb3 f0 f1
           go_wp2
           go_roundw
           case rel => exact ⟨j + 1, _, rfl, by omega, by go_num, HJ2⟩
           case measure => simp [intOf]; omega
          | false =>
           clear f0 f1
           have f0 := (hb3.cell (p := ⟨bf, of + j * 2, none⟩) HBL.out).trans HF0.out
           have f1 := (hb3.cell (p := ⟨bf, of + j * 2 + 1, none⟩) HBL.out).trans HF1.out
           have HK := hI ((hJ.out.keep hb3).keep (below_alT w3 (.cells #[.string x.1, .string x.2] 24)))
           have own3 := hI HK.out.row.own
           have HSTEP : Hid (∀ v' w4, w4.ownsRow w.heap.size 24 2 v' (((F.take j).foldl addM acc0).length + 1) (flatN ((F.take j).foldl addM acc0) ++ [.string x.1, .string x.2]) → (w3.alloc (.cells #[.string x.1, .string x.2] 24)).grownBy w4 s2.ownBlock → (v'.ownBlock = s2.ownBlock ∨ v'.ownBlock = some (w3.alloc (.cells #[.string x.1, .string x.2] 24)).heap.size) → InW w w4 SF F (.slice (some ⟨bf, of, none⟩) FL cf) acc0 (j + 1) v') :=
            fun v' w4 h4 hg hat => HK.out.step HJL.out HX.out HQ.out h4 hg hat
           have hbs := HK.out.row.bel.size
           have hnews : ∀ i u, ([.string x.1, .string x.2] : List Value)[i]? = some u → (w3.alloc (.cells #[.string x.1, .string x.2] 24)).cell? ((⟨w3.heap.size, 0, none⟩ : Addr).add i) = some u := news_at (heap_alloc_new w3 _)
           have HNEWS := hI hnews
           have hacc := HLJ.out
           have hw3 : w.heap.size ≤ w3.heap.size := by have h1 := hJ.out.row.bel.size; have h2 := hb3.size; omega
           clear hJ AMC hb3 hnews HK HQ HF0 HF1 HX
           generalize (F.take j).foldl addM acc0 = acc at *
           go_wp2_with (at_builtin; refine wpList_append_own_at _ rfl (.tmp 44) (.tmp 49) _ rfl w.heap.size 24 i0 _ 2 32 Tryz.underlying56 HI0'.out HZ0.out HZ1.out HZ2.out rfl (by omega) s2 acc.length (flatN acc) rfl own3.out ⟨w3.heap.size, 0, none⟩ 1 1 [.string x.1, .string x.2] rfl rfl HNEWS.out (by simp [Value.oneCell']) (by simp only [maxLen]; omega) (by omega) hbs ?_; intro v4 w4 hown4 hg4 hnil4 hat4; have hst := hI (HSTEP.out v4 w4 hown4 hg4 hat4); clear hown4 hg4 hnil4 hat4)
           go_roundw
           case rel => exact ⟨j + 1, _, rfl, by omega, by go_num, hst⟩
           case measure => simp [intOf]; omega
        · have hj2 : j = FL := by omega
          have hn3 : ¬ (j : Int) < FL := by omega
          have HR2 : Hid (NsO w wi (namesF 1 (subsTs (ts.take (i + 1)))) s2) := (show NsO _ _ _ _ by
           have h := hJ.out.row
           rw [hj2, ← HFL.out, List.take_length, HNX.out] at h
           exact h)
          clear hJ hj2
          go_wp2
          go_roundw
          case rel => exact ⟨i + 1, _, rfl, by omega, by go_num, HR2⟩
          case measure => simp [intOf]; omega
   · have hiL2 : i = L := by omega
     have hn2 : ¬ (i : Int) < L := by omega
     have HR := hI (HFIN.out wo sl (hiL2 ▸ hE.out))
     clear hE hiL2 hlt
     go_wp2
     exact HR.out
theorem flatN_at : ∀ (s : List Nm) (j : Nat) (u : Value), (flatN s)[j]? = some u → ∃ i, ∃ hi : i < s.length, (j = i * 2 ∧ u = .string s[i].1) ∨ (j = i * 2 + 1 ∧ u = .string s[i].2)
 | [], j, u, h => by simp [flatN] at h
 | s :: l, 0, u, h => by
  have e : flatN (s :: l) = .string s.1 :: .string s.2 :: flatN l := rfl
  rw [e] at h
  exact ⟨0, by simp, .inl ⟨rfl, by simpa using h.symm⟩⟩
 | s :: l, 1, u, h => by
  have e : flatN (s :: l) = .string s.1 :: .string s.2 :: flatN l := rfl
  rw [e] at h
  exact ⟨0, by simp, .inr ⟨rfl, by simpa using h.symm⟩⟩
 | s :: l, j + 2, u, h => by
  have e : flatN (s :: l) = .string s.1 :: .string s.2 :: flatN l := rfl
  rw [e] at h
  obtain ⟨i, hi, hh⟩ := flatN_at l j u (by simpa using h)
  refine ⟨i + 1, by simpa using hi, ?_⟩
  rcases hh with ⟨h1, h2⟩ | ⟨h1, h2⟩
  · exact .inl ⟨by omega, h2⟩
  · exact .inr ⟨by omega, h2⟩
theorem flatN_length (s : List Nm) : (flatN s).length = s.length * 2 := by
 induction s with
 | nil => rfl
 | cons x l ih =>
  have e : flatN (x :: l) = .string x.1 :: .string x.2 :: flatN l := rfl
  rw [e]; simp only [List.length_cons, ih]; omega
theorem addr_add (b o j : Nat) : ((⟨b, o, none⟩ : Addr).add j) = ⟨b, o + j, none⟩ := by
 unfold Addr.add
 split
 · rename_i h; rw [h]; rfl
 · rfl
theorem NsO.appends {Y wr w4 : World} {l s : List Nm} {v v' : Value} (h : NsO Y wr l v) (h4 : w4.ownsRow Y.heap.size 24 2 v' (l.length + s.length) (flatN l ++ flatN s)) (hg : wr.grownBy w4 v.ownBlock) : NsO Y w4 (l ++ s) v' :=
 ⟨by rw [List.length_append, show flatN (l ++ s) = flatN l ++ flatN s by simp [flatN]]; exact h4, h.bel.grown hg h.bel.size (fun k hk => by have := (own_lt h.own k hk).1; omega)⟩
theorem wpList_appendN {ops : Array Oper} {rest : List Oper} {o : Oper} {a : Act} {wo : World} {Q : Exit → Act → World → Prop} (hgd : o.guard = none) (sx tx : Operand)
 (ho : o.op = .call { callee := .builtin .append, args := #[sx, tx], argTypes := #[56, 56] })
 {S0 : Nat → Prop} {W : World} {l s : List Nm} {sl v2 : Value} (h : NsO W wo l sl) (hv : NsV wo S0 s v2) (hs : a.eval sx = sl) (hx : a.eval tx = v2) (hlen : l.length + s.length ≤ 1000000)
 (K : ∀ v' w4, NsO W w4 (l ++ s) v' → wpList Tryz.prog ops Q rest (a.put o.dst v') w4) : wpList Tryz.prog ops Q (o :: rest) a wo := by
 obtain ⟨i0, hi0, hz0, hz1, hz2⟩ := infoN
 by_cases h0 : s.length = 0
 · have e0 : s = [] := List.length_eq_zero_iff.1 h0
   subst e0
   obtain ⟨A, c, rfl, _, _⟩ := hv
   obtain ⟨base, n, cap, rfl, hle⟩ : ∃ base n cap, sl = .slice base n cap ∧ n ≤ cap := by
    rcases h.own.2 with ⟨rfl, _⟩ | ⟨g, cap, cur, rfl, _, _, hn, _⟩
    · exact ⟨_, _, _, rfl, Nat.le_refl _⟩
    · exact ⟨_, _, _, rfl, hn⟩
   have hsrc : Src Tryz.prog i0.size 56 (.slice A ([] : List Nm).length c) 0 [] wo := by
    cases A with
    | none => exact Src.ofNil wo Tryz.underlying56 c
    | some ad => exact Src.ofSlice wo Tryz.underlying56 ad 0 c [] (by simp) (by simp) (by simp)
   refine wpList_plain hgd fun K' hK' => ?_
   have hr := run_append_nothing (P := Tryz.prog) wo 56 56 o.type 24 i0 Tryz.underlying56 hi0 base n cap hle _ hsrc
   unfold Oper.wp
   simp [execOp, ho, resolve, invoke, builtin, hs, hx, Result.andThen]
   simp only [List.length_nil] at hr
   rw [hr]
   exact hK' _ _ (K _ _ (by rw [List.append_nil]; exact h))
 · obtain ⟨A, c, rfl, hc, hr⟩ := hv
   obtain ⟨b, off, rfl, hb, hcell⟩ := hr (by omega)
   refine wpList_append_own_at _ hgd sx tx _ ho W.heap.size 24 i0 _ 2 32 Tryz.underlying56 hi0 hz0 hz1 hz2 rfl (by omega) sl l.length (flatN l) hs h.own ⟨b, off, none⟩ s.length c (flatN s) hx (flatN_length s) (fun j u hj => ?_) (fun u hu => ?_) (by unfold maxLen; omega) (by omega) h.bel.size ?_
   · obtain ⟨i, hi, hh⟩ := flatN_at s j u hj
     rw [addr_add]
     rcases hh with ⟨rfl, rfl⟩ | ⟨rfl, rfl⟩
     · exact (hcell i hi).1
     · exact (hcell i hi).2
   · obtain ⟨j, hj, rfl⟩ := List.getElem_of_mem hu
     obtain ⟨i, hi, hh⟩ := flatN_at s j _ (List.getElem?_eq_getElem hj)
     rcases hh with ⟨_, e⟩ | ⟨_, e⟩ <;> rw [e] <;> rfl
   · intro v' w4 hown4 hg4 _ hat4
     exact K v' w4 (h.appends hown4 hg4)
theorem namesF_off {kd : Int} : ∀ (L : List Tm) (acc : List Nm), (∀ t ∈ L, t.kd ≠ kd) → L.foldl (addN kd) acc = acc
 | [], _, _ => rfl
 | t :: L, acc, h => by rw [List.foldl_cons, addN_off (h t (by simp)), namesF_off L acc fun x hx => h x (by simp [hx])]
theorem addN_len (kd : Int) (acc : List Nm) (t : Tm) : acc.length ≤ (addN kd acc t).length := by unfold addN; split <;> simp
theorem foldN_len (kd : Int) : ∀ (L : List Tm) (acc : List Nm), acc.length ≤ (L.foldl (addN kd) acc).length
 | [], _ => Nat.le_refl _
 | t :: L, acc => by rw [List.foldl_cons]; exact Nat.le_trans (addN_len kd acc t) (foldN_len kd L _)
theorem foldN_pos {kd : Int} : ∀ (L : List Tm) (acc : List Nm), (∃ t ∈ L, t.kd = kd) → 0 < (L.foldl (addN kd) acc).length
 | [], _, ⟨t, ht, _⟩ => by simp at ht
 | x :: L, acc, ⟨t, ht, hk⟩ => by
  rw [List.foldl_cons]
  by_cases hx : x.kd = kd
  · refine Nat.lt_of_lt_of_le ?_ (foldN_len kd L _)
    rw [addN_on hx]
    unfold addM
    split
    · rename_i h
      cases acc with
      | nil => simp at h
      | cons _ _ => simp
    · simp
  · rcases List.mem_cons.1 ht with rfl | ht
    · exact absurd hk hx
    · exact foldN_pos L _ ⟨t, ht, hk⟩
theorem noVar_len (L : List Tm) : noVar L = ((namesF 1 L).length == 0) := by
 cases h : noVar L with
 | true =>
  have h1 : namesF 1 L = [] := namesF_off L [] fun t ht => by
   have := List.all_eq_true.1 h t ht
   simpa using this
  rw [h1]; rfl
 | false =>
  have h1 : ∃ t ∈ L, t.kd = 1 := by
   have : ¬ ∀ t ∈ L, (t.kd != 1) = true := fun hh => by
    have := List.all_eq_true.2 hh
    unfold noVar at h
    rw [this] at h; cases h
   apply Classical.byContradiction
   intro hc
   exact this fun t ht => by
    rw [bne_iff_ne]
    exact fun e => hc ⟨t, ht, e⟩
  have h2 := foldN_pos L [] h1
  show false = ((L.foldl (addN 1) []).length == 0)
  symm
  rw [beq_eq_false_iff_ne]; omega
def LNs (l : List Nm) : Lv := fun v lo hi w => NsV w (fun b => lo ≤ b ∧ b < hi) l v
theorem mLNs (l : List Nm) : Mon (LNs l) := fun _ _ _ _ _ h hm hb => NsV.keep (fun _ h => h) (fun b hb' => hb.block b (by omega)) h
theorem functionsR : ∀ (N : Nat) (ts : List Tm) (A : Option Addr) (c : Nat) (w : World) (S : Nat → Prop), In S w → ArgsAt w S ts A c → Tm.nodesL ts ≤ N → N ≤ 100000 →
 Calls Tryz.prog 37 #[.slice A ts.length c] w (RetNs w (namesF 3 (subsTs ts))) := by
 intro N
 induction N using Nat.strongRecOn with
 | ind N ih =>
  intro ts A c w S hS h hN hN1
  have IH : Hid (∀ t ∈ ts, ∀ (A : Option Addr) (c : Nat) (w : World) (S : Nat → Prop), In S w → ArgsAt w S t.args A c → Calls Tryz.prog 37 #[.slice A t.args.length c] w (RetNs w (namesF 3 (subsTs t.args)))) := fun t ht A c w S hS h => by
   have h1 := Tm.nodes_mem ht
   have h2 := t.nodes_args
   exact ih (Tm.nodesL t.args) (by omega) t.args A c w S hS h (Nat.le_refl _) (by omega)
  have HNL : Hid (∀ t ∈ ts, (namesF 3 (subsTs t.args)).length ≤ 100000) := fun t ht => by
   have h1 := Tm.nodes_mem ht
   have h2 := t.nodes_args
   have h3 := subsTs_len t.args
   have h4 := namesF_len 3 (subsTs t.args)
   omega
  have HAL : Hid (∀ i, (namesF 3 (subsTs (ts.take i))).length ≤ 100000) := fun i => by
   have h3 := subsTs_len (ts.take i)
   have h4 := namesF_len 3 (subsTs (ts.take i))
   have h5 : subsTs ts = subsTs (ts.take i) ++ subsTs (ts.drop i) := by rw [← subsTs_append, List.take_append_drop]
   have h6 := subsTs_len ts
   rw [h5, List.length_append] at h6
   omega
  have hl : ts.length ≤ 100000 := by have := Tm.nodesL_len ts; omega
  have HA := hI h
  have HS := hI hS
  obtain ⟨i0, hi0, hz0, hz1, hz2⟩ := infoN
  have HI0' := hI hi0
  have HZ0 := hI hz0
  have HZ1 := hI hz1
  have HZ2 := hI hz2
  have hlc : ts.length ≤ c := h.1
  obtain ⟨L, hL⟩ : ∃ L, ts.length = L := ⟨_, rfl⟩
  have HL := hI hL
  have HFIN : Hid (∀ wr sl, NsO w wr (namesF 3 (subsTs (ts.take L))) sl → RetNs w (namesF 3 (subsTs ts)) (.returned sl) wr) := fun wr sl h => by
   rw [← hL, List.take_length] at h
   exact h.ret
  have h0 : Hid (NsO w w (namesF 3 (subsTs (ts.take 0))) (.slice none 0 0)) := NsO.start w
  rw [hL] at hl hlc ⊢
  generalize RetNs w (namesF 3 (subsTs ts)) = RT at HFIN ⊢
  clear ih hS h hi0 hz0 hz1 hz2 hL hN hN1
  go_enter Tryz.func37, Tryz.ntmps37
  go_wp2_with fail
  go_loopw [3, 4] (fun u v wr => ∃ (i : Nat) (sl : Value), sl = u ∧ i ≤ L ∧ v = .int .i64 (i : Int) ∧ Hid (NsO w wr (namesF 3 (subsTs (ts.take i))) sl)) (fun _ v _ => L - (intOf v).toNat)
  case atStart => exact ⟨0, _, rfl, Nat.zero_le _, rfl, h0⟩
  case round =>
   clear h0
   obtain ⟨i, sl, rfl, hiL, rfl, hE⟩ := hrel
   obtain ⟨wo, rfl⟩ : ∃ wo : World, wo = wr := ⟨_, rfl⟩
   by_cases hlt : i < L
   · have hil : i < ts.length := by rw [HL.out]; exact hlt
     obtain ⟨ba, oa, cs, rfl, hP⟩ := HA.out.arg hil
     have hP' := hP.below HS.out hE.out.bel
     obtain ⟨t, ht⟩ : ∃ t, t = ts[i] := ⟨_, rfl⟩
     have HTK : Hid (subsTs (ts.take (i + 1)) = subsTs (ts.take i) ++ subsT t) := (show _ = _ by rw [subsTs_take hil, ht])
     have htm : t ∈ ts := by rw [ht]; exact List.getElem_mem hil
     rw [← ht] at hP'
     have HNT := hI (HNL.out t htm)
     have IHT := hI (IH.out t htm)
     obtain ⟨x0, x1, x2, x3, x4, x5, x6, A1, c1, rfl, hva, har, k0, k1, k2, k3, k4, k5, k6, k7, k8, k9, k10⟩ := hP'.cells
     have HSO : Hid (In S wo) := HS.out.later hE.out.bel.size
     have HT := hI hP'.2.1
     have HAR := hI har
     have hbS : ba < w.heap.size := HS.out ba hP.1.1
     have HBA : Hid (ba < wo.heap.size) := Nat.lt_of_lt_of_le hbS hE.out.bel.size
     clear hP hP' ht htm hva har IH HNL hbS
     by_cases hk : t.kd = 3
     · have HNX : Hid ((t.nm :: namesF 3 (subsTs t.args)).foldl addM (namesF 3 (subsTs (ts.take i))) = namesF 3 (subsTs (ts.take (i + 1)))) := (show _ = _ by rw [HTK.out]; exact names_fun hk)
       have CRC : Hid (∀ X, Below wo.heap.size wo X → Calls Tryz.prog 37 #[.slice A1 t.args.length c1] X (RetNs X (namesF 3 (subsTs t.args)))) := fun X hX => IHT.out A1 c1 X S (HSO.out.later hX.size) (HAR.out.below HSO.out hX)
       have K1 := hI k1
       have K2 := hI k2
       have K10 := hI k10
       rw [hk] at k0
       have HE := hI hE.out
       clear HT HAR IHT k1 k2 k3 k4 k5 k6 k7 k8 k9 k10 HTK HSO hk hE
       generalize namesF 3 (subsTs t.args) = F at *
       generalize t.args.length = tl at *
       go_wp2_with fail
       refine wp_region_grow (l := _) 12 (by kernel_rfl) (by kernel_rfl) (fun i => [19, 20, 21, 22, 23, 24, 25, 26, 27, 28, 29, 30].getD i 0) (LR [LV (.slice (some ⟨ba, oa, none⟩) L c), LV (.int .i64 (i : Int)), LV (.pointer (some ⟨ba, oa + i * 11, none⟩)), LV (.pointer (some ⟨ba, oa + i * 11 + 1, none⟩)), LV (.agg #[.string t.nm.1, .string t.nm.2]), LBN t.nm, LV (.slice (some ⟨ba, oa, none⟩) L c), LV (.int .i64 (i : Int)), LV (.pointer (some ⟨ba, oa + i * 11, none⟩)), LV (.pointer (some ⟨ba, oa + i * 11 + 10, none⟩)), LV (.slice A1 tl c1), LNs F]) (LR_mono ⟨mLV _, mLV _, mLV _, mLV _, mLV _, mLBN _, mLV _, mLV _, mLV _, mLV _, mLV _, mLNs _, trivial⟩) (by
        intro i j hi hj h
        exact inj_getD [19, 20, 21, 22, 23, 24, 25, 26, 27, 28, 29, 30] (by decide) i j hi hj h) (by
        intro i hi
        exact lt_getD 53 [19, 20, 21, 22, 23, 24, 25, 26, 27, 28, 29, 30] (by decide) i hi) ?step ?done
       case step =>
        intro ii hii a w9 v lo hi' hoth hb hw
        have sl0 : a.tmps[0]? = some (.slice (some ⟨ba, oa, none⟩) L c) := (hoth 0 (fun j hj => ne_getD 0 _ (by decide) j hj)).trans rfl
        have sl4 : a.tmps[4]? = some (.int .i64 (i : Int)) := (hoth 4 (fun j hj => ne_getD 4 _ (by decide) j hj)).trans rfl
        match ii, hii with
        | 0, _ =>
         exact gw_move rfl (wanted_plain rfl) 0 _ rfl sl0 ⟨_, rfl, Below.refl _ _, rfl⟩
        | 1, _ =>
         exact gw_move rfl (wanted_plain rfl) 4 _ rfl sl4 ⟨_, rfl, Below.refl _ _, rfl⟩
        | 2, _ =>
         obtain ⟨s0, r0, _⟩ := hw 0 (by omega) (by kernel_rfl)
         have e0 : v 0 = .slice (some ⟨ba, oa, none⟩) L c := r0
         rw [e0] at s0
         replace s0 : a.tmps[19]? = some (.slice (some ⟨ba, oa, none⟩) L c) := s0
         obtain ⟨s1, r1, _⟩ := hw 1 (by omega) (by kernel_rfl)
         have e1 : v 1 = .int .i64 (i : Int) := r1
         rw [e1] at s1
         replace s1 : a.tmps[20]? = some (.int .i64 (i : Int)) := s1
         refine wpOp_step rfl fun K' hK' => ?_
         rw [if_pos (wanted_plain rfl)]
         unfold Oper.wp
         simp only [execOp]
         go_simp
         exact hK' _ _ ⟨_, rfl, Below.refl _ _, rfl⟩
        | 3, _ =>
         obtain ⟨s0, r0, _⟩ := hw 2 (by omega) (by kernel_rfl)
         have e0 : v 2 = .pointer (some ⟨ba, oa + i * 11, none⟩) := r0
         rw [e0] at s0
         replace s0 : a.tmps[21]? = some (.pointer (some ⟨ba, oa + i * 11, none⟩)) := s0
         refine wpOp_step rfl fun K' hK' => ?_
         rw [if_pos (wanted_plain rfl)]
         unfold Oper.wp
         simp only [execOp]
         go_simp
         exact hK' _ _ ⟨_, rfl, Below.refl _ _, rfl⟩
        | 4, _ =>
         obtain ⟨s0, r0, _⟩ := hw 3 (by omega) (by kernel_rfl)
         have e0 : v 3 = .pointer (some ⟨ba, oa + i * 11 + 1, none⟩) := r0
         rw [e0] at s0
         replace s0 : a.tmps[22]? = some (.pointer (some ⟨ba, oa + i * 11 + 1, none⟩)) := s0
         have cc0 := (hb.cell (p := ⟨ba, oa + i * 11 + 1, none⟩) HBA.out).trans K1.out
         have cc1 := (hb.cell (p := ⟨ba, oa + i * 11 + 2, none⟩) HBA.out).trans K2.out
         refine wpOp_step rfl fun K' hK' => ?_
         rw [if_pos (wanted_plain rfl)]
         unfold Oper.wp
         simp only [execOp]
         go_simp
         exact hK' _ _ ⟨_, rfl, Below.refl _ _, rfl⟩
        | 5, _ =>
         obtain ⟨s0, r0, _⟩ := hw 4 (by omega) (by kernel_rfl)
         have e0 : v 4 = .agg #[.string t.nm.1, .string t.nm.2] := r0
         rw [e0] at s0
         replace s0 : a.tmps[23]? = some (.agg #[.string t.nm.1, .string t.nm.2]) := s0
         refine wpOp_step rfl fun K' hK' => ?_
         rw [if_pos (wanted_plain rfl)]
         unfold Oper.wp
         simp only [execOp]
         go_simp
         exact hK' _ _ ⟨_, rfl, below_alT _ _, rfl, heap_alloc_new _ _, by simp⟩
        | 6, _ =>
         exact gw_move rfl (wanted_plain rfl) 0 _ rfl sl0 ⟨_, rfl, Below.refl _ _, rfl⟩
        | 7, _ =>
         exact gw_move rfl (wanted_plain rfl) 4 _ rfl sl4 ⟨_, rfl, Below.refl _ _, rfl⟩
        | 8, _ =>
         obtain ⟨s0, r0, _⟩ := hw 6 (by omega) (by kernel_rfl)
         have e0 : v 6 = .slice (some ⟨ba, oa, none⟩) L c := r0
         rw [e0] at s0
         replace s0 : a.tmps[25]? = some (.slice (some ⟨ba, oa, none⟩) L c) := s0
         obtain ⟨s1, r1, _⟩ := hw 7 (by omega) (by kernel_rfl)
         have e1 : v 7 = .int .i64 (i : Int) := r1
         rw [e1] at s1
         replace s1 : a.tmps[26]? = some (.int .i64 (i : Int)) := s1
         refine wpOp_step rfl fun K' hK' => ?_
         rw [if_pos (wanted_plain rfl)]
         unfold Oper.wp
         simp only [execOp]
         go_simp
         exact hK' _ _ ⟨_, rfl, Below.refl _ _, rfl⟩
        | 9, _ =>
         obtain ⟨s0, r0, _⟩ := hw 8 (by omega) (by kernel_rfl)
         have e0 : v 8 = .pointer (some ⟨ba, oa + i * 11, none⟩) := r0
         rw [e0] at s0
         replace s0 : a.tmps[27]? = some (.pointer (some ⟨ba, oa + i * 11, none⟩)) := s0
         refine wpOp_step rfl fun K' hK' => ?_
         rw [if_pos (wanted_plain rfl)]
         unfold Oper.wp
         simp only [execOp]
         go_simp
         exact hK' _ _ ⟨_, rfl, Below.refl _ _, rfl⟩
        | 10, _ =>
         obtain ⟨s0, r0, _⟩ := hw 9 (by omega) (by kernel_rfl)
         have e0 : v 9 = .pointer (some ⟨ba, oa + i * 11 + 10, none⟩) := r0
         rw [e0] at s0
         replace s0 : a.tmps[28]? = some (.pointer (some ⟨ba, oa + i * 11 + 10, none⟩)) := s0
         have cc0 := (hb.cell (p := ⟨ba, oa + i * 11 + 10, none⟩) HBA.out).trans K10.out
         refine wpOp_step rfl fun K' hK' => ?_
         rw [if_pos (wanted_plain rfl)]
         unfold Oper.wp
         simp only [execOp]
         go_simp
         exact hK' _ _ ⟨_, rfl, Below.refl _ _, rfl⟩
        | 11, _ =>
         obtain ⟨s0, r0, _⟩ := hw 10 (by omega) (by kernel_rfl)
         have e0 : v 10 = .slice A1 tl c1 := r0
         rw [e0] at s0
         replace s0 : a.tmps[29]? = some (.slice A1 tl c1) := s0
         refine gw_t rfl (wanted_plain rfl) 37 29 _ _ rfl (fun v w => by go_simp) s0 ?_
         with_reducible refine (CRC.out w9 hb).mono ?_
         rintro e w3 ⟨v3, rfl, h3, hb3⟩
         exact ⟨_, rfl, _, rfl, hb3, h3.more (fun b hb0 => by rcases hb0 with h | h; exact h.elim; exact h)⟩
       case done =>
        intro a w9 v lo hi' hdef hsz hoth hb hj hap
        obtain ⟨_, ⟨hv5, hrow5, hlt5⟩, hlo5, hhi5⟩ := hj 5 (by omega)
        obtain ⟨_, ⟨A11, c11, hv11, hle11, hn11⟩, hlo11, hhi11⟩ := hj 11 (by omega)
        have ha := eq_puts hdef hsz hoth (fun i hi => (hj i hi).1)
        subst ha
        clear hj hoth hdef hsz
        simp only [puts, List.getD_cons_zero, List.getD_cons_succ, hv5, hv11]
        generalize v 0 = v0
        generalize v 1 = v1
        generalize v 2 = v2
        generalize v 3 = v3
        generalize v 4 = v4
        generalize v 6 = v6
        generalize v 7 = v7
        generalize v 8 = v8
        generalize v 9 = v9
        generalize v 10 = v10
        clear hv5 hv11
        simp only [Act.put, List.setIfInBounds_toArray, List.set_cons_zero, List.set_cons_succ]
        show wpList _ _ _ [_, _] _ _
        have hap5 := hap 5 11 (by omega) (by omega) (by omega)
        have HO : Hid (NsO wo w9 [t.nm] (.slice (some ⟨lo 5, 0, none⟩) 1 1)) := ⟨⟨rfl, .inr ⟨lo 5, 1, _, rfl, hlo5, hrow5, Nat.le_refl _, (by first | decide | rfl | simp | omega), (by first | rfl | decide | simp | omega), (by first | rfl | simp [flatN])⟩⟩, hb⟩
        have HN11 : Hid (NsV w9 (fun b => lo 11 ≤ b ∧ b < hi' 11) F (.slice A11 F.length c11)) := ⟨A11, c11, rfl, hle11, hn11⟩
        have HXE := hI (HE.out.keep hb)
        have HLF : Hid (F.length ≤ 100000) := HNT.out
        generalize lo 5 = q at *
        clear hap hap5 hrow5 hlt5 hn11 hle11 CRC k0
        go_wp2_with (at_builtin; refine wpList_appendN rfl (.tmp 24) (.tmp 30) rfl HO.out HN11.out rfl rfl (by have := HLF.out; have h5 : [t.nm].length = 1 := rfl; omega) ?_; intro v4 w4 hz4)
        have hz4' : NsO wo w4 (t.nm :: F) v4 := hz4
        have hfv : NsV w4 (fun b => wo.heap.size ≤ b ∧ b < w4.heap.size) (t.nm :: F) v4 := (nsV_own hz4'.own).more fun b hb => ⟨hb.1, hb.2.1⟩
        have HBL := hI hz4'.bel
        clear hz4 hz4' HO HN11
        obtain ⟨Af, cf, rfl, _, _⟩ := id hfv
        have HI0 : Hid (InW w w4 (fun b => wo.heap.size ≤ b ∧ b < w4.heap.size) (t.nm :: F) (.slice Af (t.nm :: F).length cf) (namesF 3 (subsTs (ts.take i))) 0 sl) := InW.start HE.out HBL.out hfv
        have HLEN : Hid (∀ j, (((t.nm :: F).take j).foldl addM (namesF 3 (subsTs (ts.take i)))).length ≤ 200001) := fun j => by
         have h1 := addMs_len ((t.nm :: F).take j) (namesF 3 (subsTs (ts.take i)))
         have h2 := HAL.out i
         have h3 : ((t.nm :: F).take j).length ≤ (t.nm :: F).length := by rw [List.length_take]; exact Nat.min_le_right _ _
         have h4 := HLF.out
         have h5 : (t.nm :: F).length = F.length + 1 := rfl
         omega
        obtain ⟨FL, hFL⟩ : ∃ FL, (t.nm :: F).length = FL := ⟨_, rfl⟩
        have HFL := hI hFL
        have hFLb : FL ≤ 100001 := by have h4 := HLF.out; have h5 : (t.nm :: F).length = F.length + 1 := rfl; omega
        rw [hFL] at HI0 ⊢
        generalize t.nm :: F = F2 at *
        generalize (fun b => wo.heap.size ≤ b ∧ b < w4.heap.size) = SF at *
        generalize namesF 3 (subsTs (ts.take i)) = acc0 at *
        clear HE HXE HAL HNT HLF hfv hFL hb HBA HBL K1 K2 K10 hlo5 hhi5
        go_wp2_with fail
        go_loopw [3, 6] (fun u v wr => ∃ (j : Nat) (s2 : Value), s2 = u ∧ j ≤ FL ∧ v = .int .i64 (j : Int) ∧ Hid (InW w wr SF F2 (.slice Af FL cf) acc0 j s2)) (fun _ v _ => FL - (intOf v).toNat)
        case atStart => exact ⟨0, _, rfl, Nat.zero_le _, rfl, HI0⟩
        case round =>
         clear HI0
         obtain ⟨j, s2, rfl, hjL, rfl, hJ⟩ := hrel
         obtain ⟨wi, rfl⟩ : ∃ wi : World, wi = wr := ⟨_, rfl⟩
         by_cases hlt2 : j < FL
         · have hjl : j < F2.length := by rw [HFL.out]; exact hlt2
           obtain ⟨x, hx⟩ : ∃ x, F2[j] = x := ⟨_, rfl⟩
           obtain ⟨bf, of, rfl, f0, f1, hbl, hcf⟩ := hJ.out.get hjl hx
           have HX := hI hx
           clear hx
           have HLJ := hI (HLEN.out j)
           have AMC := hI (hJ.out.among x (by have := HLEN.out j; omega))
           have HJL := hI hjl
           obtain ⟨q, hq⟩ : ∃ q, (((F2.take j).foldl addM acc0).any fun y => eqN y x) = q := ⟨_, rfl⟩
           have HQ := hI hq
           rw [hq] at AMC
           have HF0 := hI f0
           have HF1 := hI f1
           have HBL := hI hbl
           clear hq hbl
           go_wp2_with fail
           refine AMC.out.mono ?_
           rintro e w3 ⟨rfl, hb3⟩
           cases q with
           | true =>
            have HJ2 := hI ((hJ.out.keep hb3).same HJL.out HX.out HQ.out)
            clear hJ AMC hb3 f0 f1
            go_wp2
            go_roundw
            case rel => exact ⟨j + 1, _, rfl, by omega, by go_num, HJ2⟩
            case measure => simp [intOf]; omega
           | false =>
            clear f0 f1
            have f0 := (hb3.cell (p := ⟨bf, of + j * 2, none⟩) HBL.out).trans HF0.out
            have f1 := (hb3.cell (p := ⟨bf, of + j * 2 + 1, none⟩) HBL.out).trans HF1.out
            have HK := hI ((hJ.out.keep hb3).keep (below_alT w3 (.cells #[.string x.1, .string x.2] 24)))
            have own3 := hI HK.out.row.own
            have HSTEP : Hid (∀ v' w4, w4.ownsRow w.heap.size 24 2 v' (((F2.take j).foldl addM acc0).length + 1) (flatN ((F2.take j).foldl addM acc0) ++ [.string x.1, .string x.2]) → (w3.alloc (.cells #[.string x.1, .string x.2] 24)).grownBy w4 s2.ownBlock → (v'.ownBlock = s2.ownBlock ∨ v'.ownBlock = some (w3.alloc (.cells #[.string x.1, .string x.2] 24)).heap.size) → InW w w4 SF F2 (.slice (some ⟨bf, of, none⟩) FL cf) acc0 (j + 1) v') :=
             fun v' w4 h4 hg hat => HK.out.step HJL.out HX.out HQ.out h4 hg hat
            have hbs := HK.out.row.bel.size
            have hnews : ∀ i u, ([.string x.1, .string x.2] : List Value)[i]? = some u → (w3.alloc (.cells #[.string x.1, .string x.2] 24)).cell? ((⟨w3.heap.size, 0, none⟩ : Addr).add i) = some u := news_at (heap_alloc_new w3 _)
            have HNEWS := hI hnews
            have hacc := HLJ.out
            have hw3 : w.heap.size ≤ w3.heap.size := by have h1 := hJ.out.row.bel.size; have h2 := hb3.size; omega
            clear hJ AMC hb3 hnews HK HQ HF0 HF1 HX
            generalize (F2.take j).foldl addM acc0 = acc at *
            go_wp2_with (at_builtin; refine wpList_append_own_at _ rfl (.tmp 45) (.tmp 50) _ rfl w.heap.size 24 i0 _ 2 32 Tryz.underlying56 HI0'.out HZ0.out HZ1.out HZ2.out rfl (by omega) s2 acc.length (flatN acc) rfl own3.out ⟨w3.heap.size, 0, none⟩ 1 1 [.string x.1, .string x.2] rfl rfl HNEWS.out (by simp [Value.oneCell']) (by simp only [maxLen]; omega) (by omega) hbs ?_; intro v4 w4 hown4 hg4 hnil4 hat4; have hst := hI (HSTEP.out v4 w4 hown4 hg4 hat4); clear hown4 hg4 hnil4 hat4)
            go_roundw
            case rel => exact ⟨j + 1, _, rfl, by omega, by go_num, hst⟩
            case measure => simp [intOf]; omega
         · have hj2 : j = FL := by omega
           have hn3 : ¬ (j : Int) < FL := by omega
           have HR2 : Hid (NsO w wi (namesF 3 (subsTs (ts.take (i + 1)))) s2) := (show NsO _ _ _ _ by
            have h := hJ.out.row
            rw [hj2, ← HFL.out, List.take_length, HNX.out] at h
            exact h)
           clear hJ hj2
           go_wp2
           go_roundw
           case rel => exact ⟨i + 1, _, rfl, by omega, by go_num, HR2⟩
           case measure => simp [intOf]; omega
     · have HR2 : Hid (NsO w wo (namesF 3 (subsTs (ts.take (i + 1)))) sl) := (show NsO _ _ _ _ by rw [HTK.out, ← names_notfun hk]; exact hE.out)
       have hkn : (t.kd != 3) = true := by rw [bne_iff_ne]; exact hk
       clear hE HTK HT HAR IHT HNT
       generalize t.kd = kd at *
       go_wp2_with fail
       go_roundw
       case rel => exact ⟨i + 1, _, rfl, by omega, by go_num, HR2⟩
       case measure => simp [intOf]; omega
   · have hiL2 : i = L := by omega
     have hn2 : ¬ (i : Int) < L := by omega
     have HR := hI (HFIN.out wo sl (hiL2 ▸ hE.out))
     clear hE hiL2 hlt
     go_wp2
     exact HR.out
theorem fewAllO (l : List Rw) (A : Option Addr) (c : Nat) (m : Int) (w : World) (S : Nat → Prop) (hS : In S w) (hc : l.length ≤ c) (hcm : c ≤ maxLen) (hm : 0 ≤ m) (hm' : m ≤ 1000)
 (hA : 0 < l.length → ∃ b o, A = some ⟨b, o, none⟩ ∧ S b ∧ RawsAt w S b o l) :
 Calls Tryz.prog 18 #[.slice A l.length c, .int .i64 m] w (fun e w' => ∃ t, e = .returned (.bool t) ∧ Below w.heap.size w w' ∧ (t = true → l.length ≤ 8 ∧ ∀ i (hi : i < l.length), few l[i] m = true)) := by
 have HS := qh9 hS
 have HA := qh9 hA
 clear hS hA
 have HF : Hid (∀ i (hi : i < l.length) cs w', RawAt w' S l[i] cs → In S w' → Calls Tryz.prog 19 #[.agg cs.toArray, .int .i64 m] w' (fun e w'' => e = .returned (.bool (few l[i] m)) ∧ Below w'.heap.size w' w'')) := fun i hi cs w' h hs => fewO l[i] cs m w' S hs h hm hm'
 have HE1 : Hid (∀ w', Below w.heap.size w w' → ∃ t, Ending.returned (.bool false) = .returned (.bool t) ∧ Below w.heap.size w w' ∧ (t = true → l.length ≤ 8 ∧ ∀ i (hi : i < l.length), few l[i] m = true)) := fun w' h => ⟨false, rfl, h, fun h => by cases h⟩
 have HE2 : Hid (∀ w', Below w.heap.size w w' → l.length ≤ 8 → (∀ i (hi : i < l.length), few l[i] m = true) → ∃ t, Ending.returned (.bool true) = .returned (.bool t) ∧ Below w.heap.size w w' ∧ (t = true → l.length ≤ 8 ∧ ∀ i (hi : i < l.length), few l[i] m = true)) := fun w' h h1 h2 => ⟨true, rfl, h, fun _ => ⟨h1, h2⟩⟩
 generalize hP : (fun (e : Ending) (w' : World) => ∃ t, e = .returned (.bool t) ∧ Below w.heap.size w w' ∧ (t = true → l.length ≤ 8 ∧ ∀ i (hi : i < l.length), few l[i] m = true)) = P
 have E1 : Hid (∀ w', Below w.heap.size w w' → P (.returned (.bool false)) w') := by subst hP; exact HE1
 have E2 : Hid (∀ w', Below w.heap.size w w' → l.length ≤ 8 → (∀ i (hi : i < l.length), few l[i] m = true) → P (.returned (.bool true)) w') := by subst hP; exact HE2
 clear hP HE1 HE2
 obtain ⟨L, hL⟩ : ∃ L, l.length = L := ⟨_, rfl⟩
 have HL := qh9 hL
 rw [hL] at hc ⊢
 clear hL
 unfold maxLen at hcm
 by_cases hbig : 8 < L
 · go_enter Tryz.func18, Tryz.ntmps18
   go_wp2
   exact E1.out _ (Below.refl _ _)
 · have hL8 : L ≤ 8 := by omega
   clear hbig
   go_enter Tryz.func18, Tryz.ntmps18
   go_wp2_with fail
   have h0 : Hid (∀ j (hj : j < l.length), j < 0 → few l[j] m = true) := fun j _ h => absurd h (Nat.not_lt_zero _)
   go_loopw [5] (fun v wr => ∃ i : Nat, i ≤ L ∧ v = .int .i64 (i : Int) ∧ Hid (Below w.heap.size w wr) ∧ Hid (∀ j (hj : j < l.length), j < i → few l[j] m = true)) (fun v _ => L - (intOf v).toNat)
   case atStart => exact ⟨0, Nat.zero_le _, rfl, Below.refl _ _, h0⟩
   case round =>
    clear h0
    obtain ⟨i, hiL, rfl, hb, hall⟩ := hrel
    obtain ⟨wo, rfl⟩ : ∃ wo : World, wo = wr := ⟨_, rfl⟩
    by_cases hlt : i < L
    · have hil : i < l.length := by rw [HL.out]; exact hlt
      obtain ⟨b, o, rfl, hbS, hrs⟩ := HA.out (by omega)
      obtain ⟨cs, hcs, hcell⟩ := hrs.get hil
      have hcs' := hcs.below HS.out hb.out
      have ha0 : b < w.heap.size := HS.out b hbS
      obtain ⟨z0, z1, z2, z3, rfl⟩ : ∃ z0 z1 z2 z3, cs = [z0, z1, z2, z3] := by
       generalize l[i] = r at hcs
       cases r with
       | mk k n s l => unfold RawAt at hcs; obtain ⟨A, c, e, _⟩ := hcs; exact ⟨_, _, _, _, e⟩
      have l0 := (hb.out.cell (p := ⟨b, o + i * 4 + 0, none⟩) ha0).trans (hcell 0 z0 rfl)
      have l1 := (hb.out.cell (p := ⟨b, o + i * 4 + 1, none⟩) ha0).trans (hcell 1 z1 rfl)
      have l2 := (hb.out.cell (p := ⟨b, o + i * 4 + 2, none⟩) ha0).trans (hcell 2 z2 rfl)
      have l3 := (hb.out.cell (p := ⟨b, o + i * 4 + 3, none⟩) ha0).trans (hcell 3 z3 rfl)
      rw [Nat.add_zero] at l0
      have call := qh9 (HF.out i hil [z0, z1, z2, z3] wo hcs' (HS.out.later hb.out.size))
      have hnext : Hid (few l[i] m = true → ∀ j (hj : j < l.length), j < i + 1 → few l[j] m = true) := fun hf j hj hji => by
       by_cases e : j = i
       · subst e; exact hf
       · exact hall.out j hj (by omega)
      clear hcell hcs hcs' hrs
      generalize few l[i] m = f at call hnext
      go_wp2_with fail
      refine call.out.mono ?_
      rintro e w3 ⟨rfl, hb3⟩
      have hb4 := qc9 hb hb3
      clear l0 l1 l2 l3 hb3 call hb hall
      cases f with
      | false =>
       clear hnext
       go_wp2
       exact E1.out _ hb4.out
      | true =>
       have hn2 := qh9 (hnext.out (by simp))
       clear hnext
       go_wp2
       go_roundw
       case rel => exact ⟨i + 1, by omega, by go_num, hb4, hn2⟩
       case measure => simp [intOf]; omega
    · have hn : ¬ (i : Int) < L := by omega
      have HR := qh9 (E2.out wo hb.out (by rw [HL.out]; exact hL8) (fun j hj => hall.out j hj (by have := HL.out; omega)))
      clear hb hall hlt
      go_wp2
      exact HR.out

end Go.Proofs.YtlocnkobancjmaaGreatDoor
