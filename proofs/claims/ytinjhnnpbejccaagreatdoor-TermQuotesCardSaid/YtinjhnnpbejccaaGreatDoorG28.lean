/- first. -/
import Derived.Test.YtinjhnnpbejccaaGreatDoorG19
import Derived.Test.YtinjhnnpbejccaaGreatDoorG27
import Derived.Test.YtinjhnnpbejccaaGreatDoorG21
import Derived.Test.YtinjhnnpbejccaaGreatDoorG24
namespace Go.Proofs.YtinjhnnpbejccaaGreatDoor
open Go Go.RowKit
set_option linter.unusedVariables false
set_option maxHeartbeats 32000000
set_option maxRecDepth 100000
theorem varLit (s : Nm) (w : World) : Calls Tryz.prog 18 #[.agg #[.string s.1, .string s.2]] w (fun e w' => e = .returned (.agg #[.int .i64 1, .string s.1, .string s.2, .int .i64 0, .string ⟨#[]⟩, .string ⟨#[]⟩, .string ⟨#[]⟩, .string ⟨#[]⟩, .string ⟨#[]⟩, .slice none 0 0, .slice none 0 0]) ∧ Below w.heap.size w w') := (varP s w NoB).mono fun e w' ⟨cs, h1, h2, h3⟩ => by
 have e2 : cs = [.int .i64 1, .string s.1, .string s.2, .int .i64 0, .string ⟨#[]⟩, .string ⟨#[]⟩, .string ⟨#[]⟩, .string ⟨#[]⟩, .string ⟨#[]⟩, .slice none 0 0, .slice none 0 0] := h2
 subst e2
 exact ⟨h1, h3⟩
theorem ts2 {w : World} {g : Nat} {X Z : Nm} (h : w.heap[g]? = some (.cells #[.int .i64 1, .string X.1, .string X.2, .int .i64 0, .string ⟨#[]⟩, .string ⟨#[]⟩, .string ⟨#[]⟩, .string ⟨#[]⟩, .string ⟨#[]⟩, .slice none 0 0, .slice none 0 0, .int .i64 1, .string Z.1, .string Z.2, .int .i64 0, .string ⟨#[]⟩, .string ⟨#[]⟩, .string ⟨#[]⟩, .string ⟨#[]⟩, .string ⟨#[]⟩, .slice none 0 0, .slice none 0 0] 35 (0, 0))) : TsV w (fun b => b = g) [.var X, .var Z] (.slice (some ⟨g, 0, none⟩) 2 2) := by
 refine ⟨some ⟨g, 0, none⟩, 2, rfl, Nat.le_refl _, fun _ => ⟨g, 0, rfl, ⟨rfl, _, _, h⟩, ?_⟩⟩
 refine TmsAt.of _ _ fun i hi => ?_
 have hi2 : i < 2 := hi
 match i, hi2 with
 | 0, _ =>
  refine ⟨[.int .i64 1, .string X.1, .string X.2, .int .i64 0, .string ⟨#[]⟩, .string ⟨#[]⟩, .string ⟨#[]⟩, .string ⟨#[]⟩, .string ⟨#[]⟩, .slice none 0 0, .slice none 0 0], rfl, fun j u hj => ?_⟩
  rw [cell_of_row _ _ _ _ _ _ h]
  have hj2 : j < 11 := (List.getElem?_eq_some_iff.1 hj).1
  match j, hj2 with
  | 0, _ | 1, _ | 2, _ | 3, _ | 4, _ | 5, _ | 6, _ | 7, _ | 8, _ | 9, _ | 10, _ => exact hj
 | 1, _ =>
  refine ⟨[.int .i64 1, .string Z.1, .string Z.2, .int .i64 0, .string ⟨#[]⟩, .string ⟨#[]⟩, .string ⟨#[]⟩, .string ⟨#[]⟩, .string ⟨#[]⟩, .slice none 0 0, .slice none 0 0], rfl, fun j u hj => ?_⟩
  rw [cell_of_row _ _ _ _ _ _ h]
  have hj2 : j < 11 := (List.getElem?_eq_some_iff.1 hj).1
  match j, hj2 with
  | 0, _ | 1, _ | 2, _ | 3, _ | 4, _ | 5, _ | 6, _ | 7, _ | 8, _ | 9, _ | 10, _ => exact hj
theorem as2 {w : World} {g : Nat} {X Z : Nm} (h : w.heap[g]? = some (.cells #[.string X.1, .string X.2, .int .i64 1, .string Z.1, .string Z.2, .int .i64 0, .string ⟨#[]⟩, .string ⟨#[]⟩, .string ⟨#[]⟩, .string ⟨#[]⟩, .string ⟨#[]⟩, .slice none 0 0, .slice none 0 0, .string Z.1, .string Z.2, .int .i64 1, .string X.1, .string X.2, .int .i64 0, .string ⟨#[]⟩, .string ⟨#[]⟩, .string ⟨#[]⟩, .string ⟨#[]⟩, .string ⟨#[]⟩, .slice none 0 0, .slice none 0 0] 54 (0, 0))) : AsV w (fun b => b = g) [(X, .var Z), (Z, .var X)] (.slice (some ⟨g, 0, none⟩) 2 2) := by
 refine ⟨some ⟨g, 0, none⟩, 2, rfl, Nat.le_refl _, fun _ => ⟨g, 0, rfl, ⟨rfl, _, _, h⟩, fun i hi => ?_⟩⟩
 have hi2 : i < 2 := hi
 match i, hi2 with
 | 0, _ =>
  refine ⟨[.int .i64 1, .string Z.1, .string Z.2, .int .i64 0, .string ⟨#[]⟩, .string ⟨#[]⟩, .string ⟨#[]⟩, .string ⟨#[]⟩, .string ⟨#[]⟩, .slice none 0 0, .slice none 0 0], rfl, fun j u hj => ?_⟩
  rw [cell_of_row _ _ _ _ _ _ h]
  have hj2 : j < 13 := (List.getElem?_eq_some_iff.1 hj).1
  match j, hj2 with
  | 0, _ | 1, _ | 2, _ | 3, _ | 4, _ | 5, _ | 6, _ | 7, _ | 8, _ | 9, _ | 10, _ | 11, _ | 12, _ => exact hj
 | 1, _ =>
  refine ⟨[.int .i64 1, .string X.1, .string X.2, .int .i64 0, .string ⟨#[]⟩, .string ⟨#[]⟩, .string ⟨#[]⟩, .string ⟨#[]⟩, .string ⟨#[]⟩, .slice none 0 0, .slice none 0 0], rfl, fun j u hj => ?_⟩
  rw [cell_of_row _ _ _ _ _ _ h]
  have hj2 : j < 13 := (List.getElem?_eq_some_iff.1 hj).1
  match j, hj2 with
  | 0, _ | 1, _ | 2, _ | 3, _ | 4, _ | 5, _ | 6, _ | 7, _ | 8, _ | 9, _ | 10, _ | 11, _ | 12, _ => exact hj
def LT2 (X Z : Nm) : Lv := fun v lo hi w => v = .slice (some ⟨lo, 0, none⟩) 2 2 ∧ w.heap[lo]? = some (.cells #[.int .i64 1, .string X.1, .string X.2, .int .i64 0, .string ⟨#[]⟩, .string ⟨#[]⟩, .string ⟨#[]⟩, .string ⟨#[]⟩, .string ⟨#[]⟩, .slice none 0 0, .slice none 0 0, .int .i64 1, .string Z.1, .string Z.2, .int .i64 0, .string ⟨#[]⟩, .string ⟨#[]⟩, .string ⟨#[]⟩, .string ⟨#[]⟩, .string ⟨#[]⟩, .slice none 0 0, .slice none 0 0] 35 (0, 0)) ∧ lo < hi
theorem mLT2 (X Z : Nm) : Mon (LT2 X Z) := fun _ _ _ _ _ ⟨h1, h2, h3⟩ hm hb => ⟨h1, (hb.block _ (by omega)).trans h2, h3⟩
def LA2 (X Z : Nm) : Lv := fun v lo hi w => v = .slice (some ⟨lo, 0, none⟩) 2 2 ∧ w.heap[lo]? = some (.cells #[.string X.1, .string X.2, .int .i64 1, .string Z.1, .string Z.2, .int .i64 0, .string ⟨#[]⟩, .string ⟨#[]⟩, .string ⟨#[]⟩, .string ⟨#[]⟩, .string ⟨#[]⟩, .slice none 0 0, .slice none 0 0, .string Z.1, .string Z.2, .int .i64 1, .string X.1, .string X.2, .int .i64 0, .string ⟨#[]⟩, .string ⟨#[]⟩, .string ⟨#[]⟩, .string ⟨#[]⟩, .string ⟨#[]⟩, .slice none 0 0, .slice none 0 0] 54 (0, 0)) ∧ lo < hi
theorem mLA2 (X Z : Nm) : Mon (LA2 X Z) := fun _ _ _ _ _ ⟨h1, h2, h3⟩ hm hb => ⟨h1, (hb.block _ (by omega)).trans h2, h3⟩
theorem first8 (w : World) : Calls Tryz.prog 12 #[] w (RetB w true) := by
 obtain ⟨X, hX⟩ : ∃ X, X = uN ⟨#[120]⟩ := ⟨_, rfl⟩
 obtain ⟨Z, hZ⟩ : ∃ Z, Z = uN ⟨#[121]⟩ := ⟨_, rfl⟩
 have hne : eqN X Z = false := by rw [hX, hZ]; kernel_rfl
 have hne2 : eqN Z X = false := by rw [hX, hZ]; kernel_rfl
 have HWF : Hid (wfT (.app (uN ⟨#[102]⟩) [.var Z, .var X]) = true) := (show _ = _ by rw [hX, hZ]; kernel_rfl)
 have HX := hI hX
 have HZZ := hI hZ
 have hvs : vN4.take 2 = [X, Z] := by rw [hX, hZ]; rfl
 go_enter Tryz.func12, Tryz.ntmps12
 go_wp2_with fail
 refine (varsT 2 (by decide) w).mono ?_
 rintro e w1 ⟨v, rfl, hv, hb1⟩
 rw [hvs] at hv
 obtain ⟨A, c, hve, hlc, hvv⟩ := hv
 have hve2 : v = .slice A 2 c := hve
 subst hve2
 obtain ⟨b, o, rfl, hbS, hcc⟩ := hvv (by simp)
 have HB := hI hb1
 have hlb : b < w1.heap.size := by
  rcases hbS.1 with h | h
  · exact h.elim
  · exact h.2
 have HLB := hI hlb
 have C0 : Hid (w1.cell? ⟨b, o, none⟩ = some (.string X.1)) := (hcc 0 (by simp)).1
 have C1 : Hid (w1.cell? ⟨b, o + 1, none⟩ = some (.string X.2)) := (hcc 0 (by simp)).2
 have C2 : Hid (w1.cell? ⟨b, o + 2, none⟩ = some (.string Z.1)) := (hcc 1 (by simp)).1
 have C3 : Hid (w1.cell? ⟨b, o + 3, none⟩ = some (.string Z.2)) := (hcc 1 (by simp)).2
 clear hcc hvv hbS hb1 hlb hvs hve hX hZ
 have hlc2 : 2 ≤ c := hlc
 go_wp2_with fail
 refine wp_region_growMT (l := _) 10 1 (by kernel_rfl) (by kernel_rfl) (fun i => [9, 10, 11, 12, 13, 14, 15, 16, 2, 3].getD i 0) (LR [LV (.slice (some ⟨b, o, none⟩) 2 c), LV (.pointer (some ⟨b, o, none⟩)), LV (.agg #[.string X.1, .string X.2]), LV (.agg #[.int .i64 1, .string X.1, .string X.2, .int .i64 0, .string ⟨#[]⟩, .string ⟨#[]⟩, .string ⟨#[]⟩, .string ⟨#[]⟩, .string ⟨#[]⟩, .slice none 0 0, .slice none 0 0]), LV (.slice (some ⟨b, o, none⟩) 2 c), LV (.pointer (some ⟨b, o + 2, none⟩)), LV (.agg #[.string Z.1, .string Z.2]), LV (.agg #[.int .i64 1, .string Z.1, .string Z.2, .int .i64 0, .string ⟨#[]⟩, .string ⟨#[]⟩, .string ⟨#[]⟩, .string ⟨#[]⟩, .string ⟨#[]⟩, .slice none 0 0, .slice none 0 0]), LTx, LTx]) (LR_mono ⟨mLV _, mLV _, mLV _, mLV _, mLV _, mLV _, mLV _, mLV _, mLTx, mLTx, trivial⟩) (by
  intro i j hi hj h
  exact inj_getD [9, 10, 11, 12, 13, 14, 15, 16, 2, 3] (by decide) i j hi hj h) (by
  intro i hi
  exact lt_getD 68 [9, 10, 11, 12, 13, 14, 15, 16, 2, 3] (by decide) i hi) [4, 5, 6] (by kernel_rfl) (fun s => [8].getD s 0) (fun s => [3].getD s 0) (by
  intro s hs
  exact lt_getD 10 [8] (by decide) s hs) (by
  intro s hs
  exact lt_getD 10 [3] (by decide) s hs) (by
  intro i j hi hj h
  exact inj_getD [8] (by decide) i j hi hj h) (by kernel_rfl) (by
  intro s hs
  exact match s, hs with | 0, _ => ⟨_, rfl, rfl, rfl, rfl⟩) (by
  intro s hs
  exact match s, hs with | 0, _ => fun _ _ _ _ h => h) (by
  intro s hs
  exact match s, hs with | 0, _ => fun _ _ _ _ h => ⟨[.int .i64 1, .string X.1, .string X.2, .int .i64 0, .string ⟨#[]⟩, .string ⟨#[]⟩, .string ⟨#[]⟩, .string ⟨#[]⟩, .string ⟨#[]⟩, .slice none 0 0, .slice none 0 0], h, rfl, by simp [Value.oneCell']⟩) ?step ?stepL ?done
 case step =>
  intro ii hii a w9 v lo hi' hoth hb hw
  have sl1 : a.tmps[1]? = some (.slice (some ⟨b, o, none⟩) 2 c) := (hoth 1 (fun j hj => ne_getD 1 _ (by decide) j hj)).trans rfl
  match ii, hii with
  | 0, _ =>
   exact gw_move rfl (wanted_plain rfl) 1 _ rfl sl1 ⟨_, rfl, Below.refl _ _, rfl⟩
  | 1, _ =>
   obtain ⟨s0, r0, _⟩ := hw 0 (by omega) (by kernel_rfl)
   have e0 : v 0 = .slice (some ⟨b, o, none⟩) 2 c := r0
   rw [e0] at s0
   replace s0 : a.tmps[9]? = some (.slice (some ⟨b, o, none⟩) 2 c) := s0
   refine wpOp_step rfl fun K' hK' => ?_
   rw [if_pos (wanted_plain rfl)]
   unfold Oper.wp
   simp only [execOp]
   go_simp
   exact hK' _ _ ⟨_, rfl, Below.refl _ _, rfl⟩
  | 2, _ =>
   obtain ⟨s0, r0, _⟩ := hw 1 (by omega) (by kernel_rfl)
   have e0 : v 1 = .pointer (some ⟨b, o, none⟩) := r0
   rw [e0] at s0
   replace s0 : a.tmps[10]? = some (.pointer (some ⟨b, o, none⟩)) := s0
   have cc0 := (hb.cell (p := ⟨b, o, none⟩) HLB.out).trans C0.out
   have cc1 := (hb.cell (p := ⟨b, o + 1, none⟩) HLB.out).trans C1.out
   refine wpOp_step rfl fun K' hK' => ?_
   rw [if_pos (wanted_plain rfl)]
   unfold Oper.wp
   simp only [execOp]
   go_simp
   exact hK' _ _ ⟨_, rfl, Below.refl _ _, rfl⟩
  | 3, _ =>
   obtain ⟨s0, r0, _⟩ := hw 2 (by omega) (by kernel_rfl)
   have e0 : v 2 = .agg #[.string X.1, .string X.2] := r0
   rw [e0] at s0
   replace s0 : a.tmps[11]? = some (.agg #[.string X.1, .string X.2]) := s0
   refine gw_t rfl (wanted_plain rfl) 18 11 _ _ rfl (fun v w => by go_simp) s0 ?_
   with_reducible refine (varLit X w9).mono ?_
   rintro e w3 ⟨rfl, hb3⟩
   exact ⟨_, rfl, _, rfl, hb3, rfl⟩
  | 4, _ =>
   exact gw_move rfl (wanted_plain rfl) 1 _ rfl sl1 ⟨_, rfl, Below.refl _ _, rfl⟩
  | 5, _ =>
   obtain ⟨s0, r0, _⟩ := hw 4 (by omega) (by kernel_rfl)
   have e0 : v 4 = .slice (some ⟨b, o, none⟩) 2 c := r0
   rw [e0] at s0
   replace s0 : a.tmps[13]? = some (.slice (some ⟨b, o, none⟩) 2 c) := s0
   refine wpOp_step rfl fun K' hK' => ?_
   rw [if_pos (wanted_plain rfl)]
   unfold Oper.wp
   simp only [execOp]
   go_simp
   exact hK' _ _ ⟨_, rfl, Below.refl _ _, rfl⟩
  | 6, _ =>
   obtain ⟨s0, r0, _⟩ := hw 5 (by omega) (by kernel_rfl)
   have e0 : v 5 = .pointer (some ⟨b, o + 2, none⟩) := r0
   rw [e0] at s0
   replace s0 : a.tmps[14]? = some (.pointer (some ⟨b, o + 2, none⟩)) := s0
   have cc0 := (hb.cell (p := ⟨b, o + 2, none⟩) HLB.out).trans C2.out
   have cc1 := (hb.cell (p := ⟨b, o + 3, none⟩) HLB.out).trans C3.out
   refine wpOp_step rfl fun K' hK' => ?_
   rw [if_pos (wanted_plain rfl)]
   unfold Oper.wp
   simp only [execOp]
   go_simp
   exact hK' _ _ ⟨_, rfl, Below.refl _ _, rfl⟩
  | 7, _ =>
   obtain ⟨s0, r0, _⟩ := hw 6 (by omega) (by kernel_rfl)
   have e0 : v 6 = .agg #[.string Z.1, .string Z.2] := r0
   rw [e0] at s0
   replace s0 : a.tmps[15]? = some (.agg #[.string Z.1, .string Z.2]) := s0
   refine gw_t rfl (wanted_plain rfl) 18 15 _ _ rfl (fun v w => by go_simp) s0 ?_
   with_reducible refine (varLit Z w9).mono ?_
   rintro e w3 ⟨rfl, hb3⟩
   exact ⟨_, rfl, _, rfl, hb3, rfl⟩
  | 8, _ =>
   refine wpOp_step rfl fun K' hK' => ?_
   rw [if_pos (wanted_plain rfl)]
   unfold Oper.wp
   simp only [execOp]
   go_simp
   exact hK' _ _ ⟨_, rfl, below_alT _ _, rfl, heap_alloc_new _ _, by simp⟩
  | 9, _ =>
   refine wpOp_step rfl fun K' hK' => ?_
   rw [if_pos (wanted_plain rfl)]
   unfold Oper.wp
   simp only [execOp]
   go_simp
   exact hK' _ _ ⟨_, rfl, below_alT _ _, rfl, heap_alloc_new _ _, by simp⟩
 case stepL =>
  intro ii hii hl a w1 w9 v lo hi' hoth hb0 hbk hsz hw
  have hb := BlkB.of hb0 hbk hsz
  have sl1 : a.tmps[1]? = some (.slice (some ⟨b, o, none⟩) 2 c) := (hoth 1 (fun j hj => ne_getD 1 _ (by decide) j hj)).trans rfl
  match ii, hii with
  | 0, _ => exact absurd hl (by decide)
  | 1, _ => exact absurd hl (by decide)
  | 2, _ => exact absurd hl (by decide)
  | 3, _ => exact absurd hl (by decide)
  | 4, _ =>
   exact gw_move rfl (wanted_plain rfl) 1 _ rfl sl1 ⟨_, _, rfl, .inl ⟨rfl, rfl⟩, rfl⟩
  | 5, _ =>
   obtain ⟨s0, r0⟩ := hw 4 (by omega) (by kernel_rfl)
   have e0 : v 4 = .slice (some ⟨b, o, none⟩) 2 c := r0
   rw [e0] at s0
   replace s0 : a.tmps[13]? = some (.slice (some ⟨b, o, none⟩) 2 c) := s0
   refine wpOp_step rfl fun K' hK' => ?_
   rw [if_pos (wanted_plain rfl)]
   unfold Oper.wp
   simp only [execOp]
   go_simp
   exact hK' _ _ ⟨_, _, rfl, .inl ⟨rfl, rfl⟩, rfl⟩
  | 6, _ =>
   obtain ⟨s0, r0⟩ := hw 5 (by omega) (by kernel_rfl)
   have e0 : v 5 = .pointer (some ⟨b, o + 2, none⟩) := r0
   rw [e0] at s0
   replace s0 : a.tmps[14]? = some (.pointer (some ⟨b, o + 2, none⟩)) := s0
   have cc0 := (hb.cell (p := ⟨b, o + 2, none⟩) HLB.out).trans C2.out
   have cc1 := (hb.cell (p := ⟨b, o + 3, none⟩) HLB.out).trans C3.out
   refine wpOp_step rfl fun K' hK' => ?_
   rw [if_pos (wanted_plain rfl)]
   unfold Oper.wp
   simp only [execOp]
   go_simp
   exact hK' _ _ ⟨_, _, rfl, .inl ⟨rfl, rfl⟩, rfl⟩
  | 7, _ => exact absurd hl (by decide)
  | 8, _ => exact absurd hl (by decide)
  | 9, _ => exact absurd hl (by decide)
 case done =>
  intro a w9 v lo hi' css hdef hsz hoth hb hj hap hbx hvs
  obtain ⟨hv8, hbx0⟩ := hbx 0 (by omega)
  obtain ⟨hv3, ho0⟩ := hvs 0 (by omega)
  change v 8 = _ at hv8
  change v 3 = _ at hv3
  obtain ⟨_, hv7, _, _⟩ := hj 7 (by omega)
  change v 7 = _ at hv7
  obtain ⟨_, ⟨hv8b, hbx8, hlt8⟩, hlo8, hhi8⟩ := hj 8 (by omega)
  obtain ⟨_, ⟨hv9, hbx9, hlt9⟩, hlo9, hhi9⟩ := hj 9 (by omega)
  have ha := eq_puts hdef hsz hoth (fun i hi => (hj i hi).1)
  subst ha
  have hc0 : css 0 = [.int .i64 1, .string X.1, .string X.2, .int .i64 0, .string ⟨#[]⟩, .string ⟨#[]⟩, .string ⟨#[]⟩, .string ⟨#[]⟩, .string ⟨#[]⟩, .slice none 0 0, .slice none 0 0] := vTm_inj (hv3.symm.trans (hj 3 (by omega)).2.1)
  clear hj hoth hdef hsz
  simp only [puts, List.getD_cons_zero, List.getD_cons_succ, hv8, hv3, hv7, hv9]
  generalize v 0 = v0
  generalize v 1 = v1
  generalize v 2 = v2
  generalize v 4 = v4
  generalize v 5 = v5
  generalize v 6 = v6
  simp only [Act.put, List.setIfInBounds_toArray, List.set_cons_zero, List.set_cons_succ]
  show wpList _ _ _ [_] _ _
  have hW : stW (stT lo (fun s => [8].getD s 0) css) w9 1 = w9.setRow (lo 8) (css 0).toArray := rfl
  rw [hW, hc0]
  have hap8 := hap 8 9 (by omega) (by omega) (by omega)
  have hne8 : lo 8 ≠ lo 9 := by omega
  have hs1 := HB.out.size
  have glx : w1.heap.size ≤ lo 8 := hlo8
  have glz : w1.heap.size ≤ lo 9 := hlo9
  change TB w9 (lo 8) zT at hbx0
  clear hap hv8b ho0
  generalize lo 8 = gx at *
  generalize lo 9 = gz at *
  have T1 : Hid (TB (w9.setRow gx [.int .i64 1, .string X.1, .string X.2, .int .i64 0, .string ⟨#[]⟩, .string ⟨#[]⟩, .string ⟨#[]⟩, .string ⟨#[]⟩, .string ⟨#[]⟩, .slice none 0 0, .slice none 0 0].toArray) gx [.int .i64 1, .string X.1, .string X.2, .int .i64 0, .string ⟨#[]⟩, .string ⟨#[]⟩, .string ⟨#[]⟩, .string ⟨#[]⟩, .string ⟨#[]⟩, .slice none 0 0, .slice none 0 0]) := hbx0.set _
  have T2 : Hid (TB (w9.setRow gx [.int .i64 1, .string X.1, .string X.2, .int .i64 0, .string ⟨#[]⟩, .string ⟨#[]⟩, .string ⟨#[]⟩, .string ⟨#[]⟩, .string ⟨#[]⟩, .slice none 0 0, .slice none 0 0].toArray) gz zT) := hbx9.other (fun e => hne8 e.symm)
  have hbX : Below w1.heap.size w1 ((w9.setRow gx [.int .i64 1, .string X.1, .string X.2, .int .i64 0, .string ⟨#[]⟩, .string ⟨#[]⟩, .string ⟨#[]⟩, .string ⟨#[]⟩, .string ⟨#[]⟩, .slice none 0 0, .slice none 0 0].toArray).setRow gz [.int .i64 1, .string Z.1, .string Z.2, .int .i64 0, .string ⟨#[]⟩, .string ⟨#[]⟩, .string ⟨#[]⟩, .string ⟨#[]⟩, .string ⟨#[]⟩, .slice none 0 0, .slice none 0 0].toArray) := below_setRowO (below_setRowO hb glx _) glz _
  have BX : Hid (TB ((w9.setRow gx [.int .i64 1, .string X.1, .string X.2, .int .i64 0, .string ⟨#[]⟩, .string ⟨#[]⟩, .string ⟨#[]⟩, .string ⟨#[]⟩, .string ⟨#[]⟩, .slice none 0 0, .slice none 0 0].toArray).setRow gz [.int .i64 1, .string Z.1, .string Z.2, .int .i64 0, .string ⟨#[]⟩, .string ⟨#[]⟩, .string ⟨#[]⟩, .string ⟨#[]⟩, .string ⟨#[]⟩, .slice none 0 0, .slice none 0 0].toArray) gx [.int .i64 1, .string X.1, .string X.2, .int .i64 0, .string ⟨#[]⟩, .string ⟨#[]⟩, .string ⟨#[]⟩, .string ⟨#[]⟩, .string ⟨#[]⟩, .slice none 0 0, .slice none 0 0]) := T1.out.other hne8
  have BZ : Hid (TB ((w9.setRow gx [.int .i64 1, .string X.1, .string X.2, .int .i64 0, .string ⟨#[]⟩, .string ⟨#[]⟩, .string ⟨#[]⟩, .string ⟨#[]⟩, .string ⟨#[]⟩, .slice none 0 0, .slice none 0 0].toArray).setRow gz [.int .i64 1, .string Z.1, .string Z.2, .int .i64 0, .string ⟨#[]⟩, .string ⟨#[]⟩, .string ⟨#[]⟩, .string ⟨#[]⟩, .string ⟨#[]⟩, .slice none 0 0, .slice none 0 0].toArray) gz [.int .i64 1, .string Z.1, .string Z.2, .int .i64 0, .string ⟨#[]⟩, .string ⟨#[]⟩, .string ⟨#[]⟩, .string ⟨#[]⟩, .string ⟨#[]⟩, .slice none 0 0, .slice none 0 0]) := T2.out.set _
  have HB2 : Hid (Below w1.heap.size w1 ((w9.setRow gx [.int .i64 1, .string X.1, .string X.2, .int .i64 0, .string ⟨#[]⟩, .string ⟨#[]⟩, .string ⟨#[]⟩, .string ⟨#[]⟩, .string ⟨#[]⟩, .slice none 0 0, .slice none 0 0].toArray).setRow gz [.int .i64 1, .string Z.1, .string Z.2, .int .i64 0, .string ⟨#[]⟩, .string ⟨#[]⟩, .string ⟨#[]⟩, .string ⟨#[]⟩, .string ⟨#[]⟩, .slice none 0 0, .slice none 0 0].toArray)) := hbX
  clear hap8 hbx0 hbx8 hbx9 hlt8 hlt9 hhi8 hhi9 hlo8 hlo9 hb hbX hc0 hW T1
  go_wp2_with ((with_reducible refine storeTb (cs := [.int .i64 1, .string Z.1, .string Z.2, .int .i64 0, .string ⟨#[]⟩, .string ⟨#[]⟩, .string ⟨#[]⟩, .string ⟨#[]⟩, .string ⟨#[]⟩, .slice none 0 0, .slice none 0 0]) (.tmp 3) (.tmp 16) ?_ ?_ ?_ ?_ T2.out ?_ ?_ ?_ ?_); rfl; rfl; rfl; rfl; rfl; rfl; exact (by simp [Value.oneCell']))
  clear T2
  generalize (w9.setRow gx [.int .i64 1, .string X.1, .string X.2, .int .i64 0, .string ⟨#[]⟩, .string ⟨#[]⟩, .string ⟨#[]⟩, .string ⟨#[]⟩, .string ⟨#[]⟩, .slice none 0 0, .slice none 0 0].toArray).setRow gz [.int .i64 1, .string Z.1, .string Z.2, .int .i64 0, .string ⟨#[]⟩, .string ⟨#[]⟩, .string ⟨#[]⟩, .string ⟨#[]⟩, .string ⟨#[]⟩, .slice none 0 0, .slice none 0 0].toArray = X2 at *
  have HWW : Hid (w.heap.size ≤ X2.heap.size) := Nat.le_trans hs1 HB2.out.size
  have HBW : Hid (Below w.heap.size w X2) := HB.out.trans (HB2.out.mono hs1)
  replace C0 := hI ((HB2.out.cell (p := ⟨b, o, none⟩) HLB.out).trans C0.out)
  replace C1 := hI ((HB2.out.cell (p := ⟨b, o + 1, none⟩) HLB.out).trans C1.out)
  replace C2 := hI ((HB2.out.cell (p := ⟨b, o + 2, none⟩) HLB.out).trans C2.out)
  replace C3 := hI ((HB2.out.cell (p := ⟨b, o + 3, none⟩) HLB.out).trans C3.out)
  replace HLB := hI (Nat.lt_of_lt_of_le HLB.out HB2.out.size)
  have HGX : Hid (w.heap.size ≤ gx) := Nat.le_trans hs1 glx
  have HGZ : Hid (w.heap.size ≤ gz) := Nat.le_trans hs1 glz
  have HNE := hI hne8
  clear HB2 HB glx glz hs1 hne8
  refine wp_region_grow (l := _) 6 (by kernel_rfl) (by kernel_rfl) (fun i => [17, 18, 19, 20, 21, 4].getD i 0) (LR [LV (.agg #[.string (uN ⟨#[102]⟩).1, .string (uN ⟨#[102]⟩).2]), LV (.agg #[.int .i64 1, .string X.1, .string X.2, .int .i64 0, .string ⟨#[]⟩, .string ⟨#[]⟩, .string ⟨#[]⟩, .string ⟨#[]⟩, .string ⟨#[]⟩, .slice none 0 0, .slice none 0 0]), LV (.agg #[.int .i64 1, .string Z.1, .string Z.2, .int .i64 0, .string ⟨#[]⟩, .string ⟨#[]⟩, .string ⟨#[]⟩, .string ⟨#[]⟩, .string ⟨#[]⟩, .slice none 0 0, .slice none 0 0]), LT2 X Z, LTm w NoB (.app (uN ⟨#[102]⟩) [.var X, .var Z]), LTx]) (LR_mono ⟨mLV _, mLV _, mLV _, mLT2 X Z, mLTm (NoB.in _) _, mLTx, trivial⟩) (by
   intro i j hi hj h
   exact inj_getD [17, 18, 19, 20, 21, 4] (by decide) i j hi hj h) (by
   intro i hi
   exact lt_getD 68 [17, 18, 19, 20, 21, 4] (by decide) i hi) ?step ?done
  case step =>
   intro ii hii a w9 v lo hi' hoth hb hw
   have sl2 : a.tmps[2]? = some (.pointer (some ⟨gx, 0, none⟩)) := (hoth 2 (fun j hj => ne_getD 2 _ (by decide) j hj)).trans rfl
   have sl3 : a.tmps[3]? = some (.pointer (some ⟨gz, 0, none⟩)) := (hoth 3 (fun j hj => ne_getD 3 _ (by decide) j hj)).trans rfl
   match ii, hii with
   | 0, _ =>
    refine gw_c rfl (wanted_plain rfl) 46  _ _ rfl (fun v w => by go_simp)  ?_
    with_reducible refine (userO ⟨#[102]⟩ w9).mono ?_
    rintro e w3 ⟨rfl, hb3⟩
    exact ⟨_, rfl, _, rfl, hb3, rfl⟩
   | 1, _ =>
    have cx0 := (hb.cell (p := ⟨gx, 0 + 0, none⟩) BX.out.lt).trans (BX.out.cell 0 _ rfl)
    have cx1 := (hb.cell (p := ⟨gx, 0 + 1, none⟩) BX.out.lt).trans (BX.out.cell 1 _ rfl)
    have cx2 := (hb.cell (p := ⟨gx, 0 + 2, none⟩) BX.out.lt).trans (BX.out.cell 2 _ rfl)
    have cx3 := (hb.cell (p := ⟨gx, 0 + 3, none⟩) BX.out.lt).trans (BX.out.cell 3 _ rfl)
    have cx4 := (hb.cell (p := ⟨gx, 0 + 4, none⟩) BX.out.lt).trans (BX.out.cell 4 _ rfl)
    have cx5 := (hb.cell (p := ⟨gx, 0 + 5, none⟩) BX.out.lt).trans (BX.out.cell 5 _ rfl)
    have cx6 := (hb.cell (p := ⟨gx, 0 + 6, none⟩) BX.out.lt).trans (BX.out.cell 6 _ rfl)
    have cx7 := (hb.cell (p := ⟨gx, 0 + 7, none⟩) BX.out.lt).trans (BX.out.cell 7 _ rfl)
    have cx8 := (hb.cell (p := ⟨gx, 0 + 8, none⟩) BX.out.lt).trans (BX.out.cell 8 _ rfl)
    have cx9 := (hb.cell (p := ⟨gx, 0 + 9, none⟩) BX.out.lt).trans (BX.out.cell 9 _ rfl)
    have cx10 := (hb.cell (p := ⟨gx, 0 + 10, none⟩) BX.out.lt).trans (BX.out.cell 10 _ rfl)
    refine wpOp_step rfl fun K' hK' => ?_
    rw [if_pos (wanted_plain rfl)]
    unfold Oper.wp
    simp only [execOp]
    go_simp
    exact hK' _ _ ⟨_, rfl, Below.refl _ _, rfl⟩
   | 2, _ =>
    have cz0 := (hb.cell (p := ⟨gz, 0 + 0, none⟩) BZ.out.lt).trans (BZ.out.cell 0 _ rfl)
    have cz1 := (hb.cell (p := ⟨gz, 0 + 1, none⟩) BZ.out.lt).trans (BZ.out.cell 1 _ rfl)
    have cz2 := (hb.cell (p := ⟨gz, 0 + 2, none⟩) BZ.out.lt).trans (BZ.out.cell 2 _ rfl)
    have cz3 := (hb.cell (p := ⟨gz, 0 + 3, none⟩) BZ.out.lt).trans (BZ.out.cell 3 _ rfl)
    have cz4 := (hb.cell (p := ⟨gz, 0 + 4, none⟩) BZ.out.lt).trans (BZ.out.cell 4 _ rfl)
    have cz5 := (hb.cell (p := ⟨gz, 0 + 5, none⟩) BZ.out.lt).trans (BZ.out.cell 5 _ rfl)
    have cz6 := (hb.cell (p := ⟨gz, 0 + 6, none⟩) BZ.out.lt).trans (BZ.out.cell 6 _ rfl)
    have cz7 := (hb.cell (p := ⟨gz, 0 + 7, none⟩) BZ.out.lt).trans (BZ.out.cell 7 _ rfl)
    have cz8 := (hb.cell (p := ⟨gz, 0 + 8, none⟩) BZ.out.lt).trans (BZ.out.cell 8 _ rfl)
    have cz9 := (hb.cell (p := ⟨gz, 0 + 9, none⟩) BZ.out.lt).trans (BZ.out.cell 9 _ rfl)
    have cz10 := (hb.cell (p := ⟨gz, 0 + 10, none⟩) BZ.out.lt).trans (BZ.out.cell 10 _ rfl)
    refine wpOp_step rfl fun K' hK' => ?_
    rw [if_pos (wanted_plain rfl)]
    unfold Oper.wp
    simp only [execOp]
    go_simp
    exact hK' _ _ ⟨_, rfl, Below.refl _ _, rfl⟩
   | 3, _ =>
    obtain ⟨s0, r0, _⟩ := hw 1 (by omega) (by kernel_rfl)
    have e0 : v 1 = .agg #[.int .i64 1, .string X.1, .string X.2, .int .i64 0, .string ⟨#[]⟩, .string ⟨#[]⟩, .string ⟨#[]⟩, .string ⟨#[]⟩, .string ⟨#[]⟩, .slice none 0 0, .slice none 0 0] := r0
    rw [e0] at s0
    replace s0 : a.tmps[18]? = some (.agg #[.int .i64 1, .string X.1, .string X.2, .int .i64 0, .string ⟨#[]⟩, .string ⟨#[]⟩, .string ⟨#[]⟩, .string ⟨#[]⟩, .string ⟨#[]⟩, .slice none 0 0, .slice none 0 0]) := s0
    obtain ⟨s1, r1, _⟩ := hw 2 (by omega) (by kernel_rfl)
    have e1 : v 2 = .agg #[.int .i64 1, .string Z.1, .string Z.2, .int .i64 0, .string ⟨#[]⟩, .string ⟨#[]⟩, .string ⟨#[]⟩, .string ⟨#[]⟩, .string ⟨#[]⟩, .slice none 0 0, .slice none 0 0] := r1
    rw [e1] at s1
    replace s1 : a.tmps[19]? = some (.agg #[.int .i64 1, .string Z.1, .string Z.2, .int .i64 0, .string ⟨#[]⟩, .string ⟨#[]⟩, .string ⟨#[]⟩, .string ⟨#[]⟩, .string ⟨#[]⟩, .slice none 0 0, .slice none 0 0]) := s1
    refine wpOp_step rfl fun K' hK' => ?_
    rw [if_pos (wanted_plain rfl)]
    unfold Oper.wp
    simp only [execOp]
    go_simp
    exact hK' _ _ ⟨_, rfl, below_alT _ _, rfl, heap_alloc_new _ _, by simp⟩
   | 4, _ =>
    obtain ⟨s0, r0, _⟩ := hw 0 (by omega) (by kernel_rfl)
    have e0 : v 0 = .agg #[.string (uN ⟨#[102]⟩).1, .string (uN ⟨#[102]⟩).2] := r0
    rw [e0] at s0
    replace s0 : a.tmps[17]? = some (.agg #[.string (uN ⟨#[102]⟩).1, .string (uN ⟨#[102]⟩).2]) := s0
    obtain ⟨s1, r1, b1⟩ := hw 3 (by omega) (by kernel_rfl)
    obtain ⟨e1, hr1, hl1⟩ := r1
    rw [e1] at s1
    have hww := HWW.out
    have hbs := hb.size
    have CC := appP (uN ⟨#[102]⟩) [.var X, .var Z] (.slice (some ⟨lo 3, 0, none⟩) 2 2) w9 (Upto w w9 NoB) ((NoB.in w).upto (by omega)) ((ts2 hr1).more fun b hb0 => .inr ⟨by omega, by omega⟩) (by show 2 ≤ 3000; decide)
    refine gw_tt rfl (wanted_plain rfl) 22 17 20 _ _ _ rfl (fun v u w => by go_simp) s0 s1 ?_
    with_reducible refine (CC).mono ?_
    rintro e w3 ⟨cs3, rfl, h3, hb3⟩
    exact ⟨_, rfl, _, rfl, hb3, by have := hb3.size; omega, cs3, rfl, h3.more (fun b hb0 => upto_two (by omega) hb3.size b hb0)⟩
   | 5, _ =>
    refine wpOp_step rfl fun K' hK' => ?_
    rw [if_pos (wanted_plain rfl)]
    unfold Oper.wp
    simp only [execOp]
    go_simp
    exact hK' _ _ ⟨_, rfl, below_alT _ _, rfl, heap_alloc_new _ _, by simp⟩
  case done =>
   intro a w9 v lo hi' hdef hsz hoth hb hj hap
   obtain ⟨_, ⟨hz4, cst, hv4, ht4⟩, hlo4, hhi4⟩ := hj 4 (by omega)
   obtain ⟨_, ⟨hv5, hbx5, hlt5⟩, hlo5, hhi5⟩ := hj 5 (by omega)
   have ha := eq_puts hdef hsz hoth (fun i hi => (hj i hi).1)
   subst ha
   clear hj hoth hdef hsz hap
   simp only [puts, List.getD_cons_zero, List.getD_cons_succ, hv4, hv5]
   generalize v 0 = v0
   generalize v 1 = v1
   generalize v 2 = v2
   generalize v 3 = v3
   clear hv4 hv5
   simp only [Act.put, List.setIfInBounds_toArray, List.set_cons_zero, List.set_cons_succ]
   show wpList _ _ _ [_] _ _
   have HB9 := hI hb
   have glt : X2.heap.size ≤ lo 5 := hlo5
   generalize lo 5 = gt at *
   have h3 := ht4
   unfold TmAt at ht4
   obtain ⟨A2, c2, ecs, hlc4, _⟩ := ht4
   have ecs2 : cst = [.int .i64 3, .string (uN ⟨#[102]⟩).1, .string (uN ⟨#[102]⟩).2, .int .i64 0, .string ⟨#[]⟩, .string ⟨#[]⟩, .string ⟨#[]⟩, .string ⟨#[]⟩, .string ⟨#[]⟩, .slice none 0 0, .slice A2 2 c2] := ecs
   subst ecs2
   have BX9 := hI (BX.out.keep hb)
   have BZ9 := hI (BZ.out.keep hb)
   have B5 := hI hbx5
   have HT : Hid (TmAt (w9.setRow gt [.int .i64 3, .string (uN ⟨#[102]⟩).1, .string (uN ⟨#[102]⟩).2, .int .i64 0, .string ⟨#[]⟩, .string ⟨#[]⟩, .string ⟨#[]⟩, .string ⟨#[]⟩, .string ⟨#[]⟩, .slice none 0 0, .slice A2 2 c2].toArray) (Upto w (w9.setRow gt [.int .i64 3, .string (uN ⟨#[102]⟩).1, .string (uN ⟨#[102]⟩).2, .int .i64 0, .string ⟨#[]⟩, .string ⟨#[]⟩, .string ⟨#[]⟩, .string ⟨#[]⟩, .string ⟨#[]⟩, .slice none 0 0, .slice A2 2 c2].toArray) NoB) (.app (uN ⟨#[102]⟩) [.var X, .var Z]) [.int .i64 3, .string (uN ⟨#[102]⟩).1, .string (uN ⟨#[102]⟩).2, .int .i64 0, .string ⟨#[]⟩, .string ⟨#[]⟩, .string ⟨#[]⟩, .string ⟨#[]⟩, .string ⟨#[]⟩, .slice none 0 0, .slice A2 2 c2]) := TmAt.boxed h3 hbx5.nb _
   have BT : Hid (TB (w9.setRow gt [.int .i64 3, .string (uN ⟨#[102]⟩).1, .string (uN ⟨#[102]⟩).2, .int .i64 0, .string ⟨#[]⟩, .string ⟨#[]⟩, .string ⟨#[]⟩, .string ⟨#[]⟩, .string ⟨#[]⟩, .slice none 0 0, .slice A2 2 c2].toArray) gt [.int .i64 3, .string (uN ⟨#[102]⟩).1, .string (uN ⟨#[102]⟩).2, .int .i64 0, .string ⟨#[]⟩, .string ⟨#[]⟩, .string ⟨#[]⟩, .string ⟨#[]⟩, .string ⟨#[]⟩, .slice none 0 0, .slice A2 2 c2]) := hbx5.set _
   have BX3 : Hid (TB (w9.setRow gt [.int .i64 3, .string (uN ⟨#[102]⟩).1, .string (uN ⟨#[102]⟩).2, .int .i64 0, .string ⟨#[]⟩, .string ⟨#[]⟩, .string ⟨#[]⟩, .string ⟨#[]⟩, .string ⟨#[]⟩, .slice none 0 0, .slice A2 2 c2].toArray) gx [.int .i64 1, .string X.1, .string X.2, .int .i64 0, .string ⟨#[]⟩, .string ⟨#[]⟩, .string ⟨#[]⟩, .string ⟨#[]⟩, .string ⟨#[]⟩, .slice none 0 0, .slice none 0 0]) := BX9.out.other (fun e => by have := BX.out.lt; omega)
   have BZ3 : Hid (TB (w9.setRow gt [.int .i64 3, .string (uN ⟨#[102]⟩).1, .string (uN ⟨#[102]⟩).2, .int .i64 0, .string ⟨#[]⟩, .string ⟨#[]⟩, .string ⟨#[]⟩, .string ⟨#[]⟩, .string ⟨#[]⟩, .slice none 0 0, .slice A2 2 c2].toArray) gz [.int .i64 1, .string Z.1, .string Z.2, .int .i64 0, .string ⟨#[]⟩, .string ⟨#[]⟩, .string ⟨#[]⟩, .string ⟨#[]⟩, .string ⟨#[]⟩, .slice none 0 0, .slice none 0 0]) := BZ9.out.other (fun e => by have := BZ.out.lt; omega)
   have HB3 : Hid (Below X2.heap.size X2 (w9.setRow gt [.int .i64 3, .string (uN ⟨#[102]⟩).1, .string (uN ⟨#[102]⟩).2, .int .i64 0, .string ⟨#[]⟩, .string ⟨#[]⟩, .string ⟨#[]⟩, .string ⟨#[]⟩, .string ⟨#[]⟩, .slice none 0 0, .slice A2 2 c2].toArray)) := below_setRowO hb glt _
   have ONE3 := hI h3.o11
   clear h3 hb hbx5 hlt5 hlo5 hhi5 hlo4 hhi4 hz4 ecs hlc4 BX9 BZ9 HB9
   go_wp2_with ((with_reducible refine storeTb (cs := [.int .i64 3, .string (uN ⟨#[102]⟩).1, .string (uN ⟨#[102]⟩).2, .int .i64 0, .string ⟨#[]⟩, .string ⟨#[]⟩, .string ⟨#[]⟩, .string ⟨#[]⟩, .string ⟨#[]⟩, .slice none 0 0, .slice A2 2 c2]) (.tmp 4) (.tmp 21) ?_ ?_ ?_ ?_ B5.out ?_ ?_ ?_ ?_); rfl; rfl; rfl; rfl; rfl; rfl; exact ONE3.out.2)
   generalize w9.setRow gt [.int .i64 3, .string (uN ⟨#[102]⟩).1, .string (uN ⟨#[102]⟩).2, .int .i64 0, .string ⟨#[]⟩, .string ⟨#[]⟩, .string ⟨#[]⟩, .string ⟨#[]⟩, .string ⟨#[]⟩, .slice none 0 0, .slice A2 2 c2].toArray = X3 at *
   replace C0 := hI ((HB3.out.cell (p := ⟨b, o, none⟩) HLB.out).trans C0.out)
   replace C1 := hI ((HB3.out.cell (p := ⟨b, o + 1, none⟩) HLB.out).trans C1.out)
   replace C2 := hI ((HB3.out.cell (p := ⟨b, o + 2, none⟩) HLB.out).trans C2.out)
   replace C3 := hI ((HB3.out.cell (p := ⟨b, o + 3, none⟩) HLB.out).trans C3.out)
   replace HLB := hI (Nat.lt_of_lt_of_le HLB.out HB3.out.size)
   replace HBW : Hid (Below w.heap.size w X3) := HBW.out.trans (HB3.out.mono HWW.out)
   have HGT : Hid (w.heap.size ≤ gt) := Nat.le_trans HWW.out glt
   replace HWW : Hid (w.heap.size ≤ X3.heap.size) := HBW.out.size
   replace BX := BX3
   replace BZ := BZ3
   clear BX3 BZ3 HB3 glt B5
   refine wp_region_grow (l := _) 14 (by kernel_rfl) (by kernel_rfl) (fun i => [22, 23, 24, 25, 26, 27, 28, 29, 30, 31, 32, 33, 34, 5].getD i 0) (LR [LV (.agg #[.int .i64 3, .string (uN ⟨#[102]⟩).1, .string (uN ⟨#[102]⟩).2, .int .i64 0, .string ⟨#[]⟩, .string ⟨#[]⟩, .string ⟨#[]⟩, .string ⟨#[]⟩, .string ⟨#[]⟩, .slice none 0 0, .slice A2 2 c2]), LV (.slice (some ⟨b, o, none⟩) 2 c), LV (.pointer (some ⟨b, o, none⟩)), LV (.agg #[.string X.1, .string X.2]), LV (.agg #[.int .i64 1, .string Z.1, .string Z.2, .int .i64 0, .string ⟨#[]⟩, .string ⟨#[]⟩, .string ⟨#[]⟩, .string ⟨#[]⟩, .string ⟨#[]⟩, .slice none 0 0, .slice none 0 0]), LV (.agg #[.string X.1, .string X.2, .int .i64 1, .string Z.1, .string Z.2, .int .i64 0, .string ⟨#[]⟩, .string ⟨#[]⟩, .string ⟨#[]⟩, .string ⟨#[]⟩, .string ⟨#[]⟩, .slice none 0 0, .slice none 0 0]), LV (.slice (some ⟨b, o, none⟩) 2 c), LV (.pointer (some ⟨b, o + 2, none⟩)), LV (.agg #[.string Z.1, .string Z.2]), LV (.agg #[.int .i64 1, .string X.1, .string X.2, .int .i64 0, .string ⟨#[]⟩, .string ⟨#[]⟩, .string ⟨#[]⟩, .string ⟨#[]⟩, .string ⟨#[]⟩, .slice none 0 0, .slice none 0 0]), LV (.agg #[.string Z.1, .string Z.2, .int .i64 1, .string X.1, .string X.2, .int .i64 0, .string ⟨#[]⟩, .string ⟨#[]⟩, .string ⟨#[]⟩, .string ⟨#[]⟩, .string ⟨#[]⟩, .slice none 0 0, .slice none 0 0]), LA2 X Z, LTm w NoB (subT [(X, .var Z), (Z, .var X)] (.app (uN ⟨#[102]⟩) [.var X, .var Z])), LTx]) (LR_mono ⟨mLV _, mLV _, mLV _, mLV _, mLV _, mLV _, mLV _, mLV _, mLV _, mLV _, mLV _, mLA2 X Z, mLTm (NoB.in _) _, mLTx, trivial⟩) (by
    intro i j hi hj h
    exact inj_getD [22, 23, 24, 25, 26, 27, 28, 29, 30, 31, 32, 33, 34, 5] (by decide) i j hi hj h) (by
    intro i hi
    exact lt_getD 68 [22, 23, 24, 25, 26, 27, 28, 29, 30, 31, 32, 33, 34, 5] (by decide) i hi) ?step ?done
   case step =>
    intro ii hii a w9 v lo hi' hoth hb hw
    have sl1 : a.tmps[1]? = some (.slice (some ⟨b, o, none⟩) 2 c) := (hoth 1 (fun j hj => ne_getD 1 _ (by decide) j hj)).trans rfl
    have sl2 : a.tmps[2]? = some (.pointer (some ⟨gx, 0, none⟩)) := (hoth 2 (fun j hj => ne_getD 2 _ (by decide) j hj)).trans rfl
    have sl3 : a.tmps[3]? = some (.pointer (some ⟨gz, 0, none⟩)) := (hoth 3 (fun j hj => ne_getD 3 _ (by decide) j hj)).trans rfl
    have sl4 : a.tmps[4]? = some (.pointer (some ⟨gt, 0, none⟩)) := (hoth 4 (fun j hj => ne_getD 4 _ (by decide) j hj)).trans rfl
    match ii, hii with
    | 0, _ =>
     have ct0 := (hb.cell (p := ⟨gt, 0 + 0, none⟩) BT.out.lt).trans (BT.out.cell 0 _ rfl)
     have ct1 := (hb.cell (p := ⟨gt, 0 + 1, none⟩) BT.out.lt).trans (BT.out.cell 1 _ rfl)
     have ct2 := (hb.cell (p := ⟨gt, 0 + 2, none⟩) BT.out.lt).trans (BT.out.cell 2 _ rfl)
     have ct3 := (hb.cell (p := ⟨gt, 0 + 3, none⟩) BT.out.lt).trans (BT.out.cell 3 _ rfl)
     have ct4 := (hb.cell (p := ⟨gt, 0 + 4, none⟩) BT.out.lt).trans (BT.out.cell 4 _ rfl)
     have ct5 := (hb.cell (p := ⟨gt, 0 + 5, none⟩) BT.out.lt).trans (BT.out.cell 5 _ rfl)
     have ct6 := (hb.cell (p := ⟨gt, 0 + 6, none⟩) BT.out.lt).trans (BT.out.cell 6 _ rfl)
     have ct7 := (hb.cell (p := ⟨gt, 0 + 7, none⟩) BT.out.lt).trans (BT.out.cell 7 _ rfl)
     have ct8 := (hb.cell (p := ⟨gt, 0 + 8, none⟩) BT.out.lt).trans (BT.out.cell 8 _ rfl)
     have ct9 := (hb.cell (p := ⟨gt, 0 + 9, none⟩) BT.out.lt).trans (BT.out.cell 9 _ rfl)
     have ct10 := (hb.cell (p := ⟨gt, 0 + 10, none⟩) BT.out.lt).trans (BT.out.cell 10 _ rfl)
     refine wpOp_step rfl fun K' hK' => ?_
     rw [if_pos (wanted_plain rfl)]
     unfold Oper.wp
     simp only [execOp]
     go_simp
     exact hK' _ _ ⟨_, rfl, Below.refl _ _, rfl⟩
    | 1, _ =>
     exact gw_move rfl (wanted_plain rfl) 1 _ rfl sl1 ⟨_, rfl, Below.refl _ _, rfl⟩
    | 2, _ =>
     obtain ⟨s0, r0, _⟩ := hw 1 (by omega) (by kernel_rfl)
     have e0 : v 1 = .slice (some ⟨b, o, none⟩) 2 c := r0
     rw [e0] at s0
     replace s0 : a.tmps[23]? = some (.slice (some ⟨b, o, none⟩) 2 c) := s0
     refine wpOp_step rfl fun K' hK' => ?_
     rw [if_pos (wanted_plain rfl)]
     unfold Oper.wp
     simp only [execOp]
     go_simp
     exact hK' _ _ ⟨_, rfl, Below.refl _ _, rfl⟩
    | 3, _ =>
     obtain ⟨s0, r0, _⟩ := hw 2 (by omega) (by kernel_rfl)
     have e0 : v 2 = .pointer (some ⟨b, o, none⟩) := r0
     rw [e0] at s0
     replace s0 : a.tmps[24]? = some (.pointer (some ⟨b, o, none⟩)) := s0
     have cc0 := (hb.cell (p := ⟨b, o, none⟩) HLB.out).trans C0.out
     have cc1 := (hb.cell (p := ⟨b, o + 1, none⟩) HLB.out).trans C1.out
     refine wpOp_step rfl fun K' hK' => ?_
     rw [if_pos (wanted_plain rfl)]
     unfold Oper.wp
     simp only [execOp]
     go_simp
     exact hK' _ _ ⟨_, rfl, Below.refl _ _, rfl⟩
    | 4, _ =>
     have cz0 := (hb.cell (p := ⟨gz, 0 + 0, none⟩) BZ.out.lt).trans (BZ.out.cell 0 _ rfl)
     have cz1 := (hb.cell (p := ⟨gz, 0 + 1, none⟩) BZ.out.lt).trans (BZ.out.cell 1 _ rfl)
     have cz2 := (hb.cell (p := ⟨gz, 0 + 2, none⟩) BZ.out.lt).trans (BZ.out.cell 2 _ rfl)
     have cz3 := (hb.cell (p := ⟨gz, 0 + 3, none⟩) BZ.out.lt).trans (BZ.out.cell 3 _ rfl)
     have cz4 := (hb.cell (p := ⟨gz, 0 + 4, none⟩) BZ.out.lt).trans (BZ.out.cell 4 _ rfl)
     have cz5 := (hb.cell (p := ⟨gz, 0 + 5, none⟩) BZ.out.lt).trans (BZ.out.cell 5 _ rfl)
     have cz6 := (hb.cell (p := ⟨gz, 0 + 6, none⟩) BZ.out.lt).trans (BZ.out.cell 6 _ rfl)
     have cz7 := (hb.cell (p := ⟨gz, 0 + 7, none⟩) BZ.out.lt).trans (BZ.out.cell 7 _ rfl)
     have cz8 := (hb.cell (p := ⟨gz, 0 + 8, none⟩) BZ.out.lt).trans (BZ.out.cell 8 _ rfl)
     have cz9 := (hb.cell (p := ⟨gz, 0 + 9, none⟩) BZ.out.lt).trans (BZ.out.cell 9 _ rfl)
     have cz10 := (hb.cell (p := ⟨gz, 0 + 10, none⟩) BZ.out.lt).trans (BZ.out.cell 10 _ rfl)
     refine wpOp_step rfl fun K' hK' => ?_
     rw [if_pos (wanted_plain rfl)]
     unfold Oper.wp
     simp only [execOp]
     go_simp
     exact hK' _ _ ⟨_, rfl, Below.refl _ _, rfl⟩
    | 5, _ =>
     obtain ⟨s0, r0, _⟩ := hw 3 (by omega) (by kernel_rfl)
     have e0 : v 3 = .agg #[.string X.1, .string X.2] := r0
     rw [e0] at s0
     replace s0 : a.tmps[25]? = some (.agg #[.string X.1, .string X.2]) := s0
     obtain ⟨s1, r1, _⟩ := hw 4 (by omega) (by kernel_rfl)
     have e1 : v 4 = .agg #[.int .i64 1, .string Z.1, .string Z.2, .int .i64 0, .string ⟨#[]⟩, .string ⟨#[]⟩, .string ⟨#[]⟩, .string ⟨#[]⟩, .string ⟨#[]⟩, .slice none 0 0, .slice none 0 0] := r1
     rw [e1] at s1
     replace s1 : a.tmps[26]? = some (.agg #[.int .i64 1, .string Z.1, .string Z.2, .int .i64 0, .string ⟨#[]⟩, .string ⟨#[]⟩, .string ⟨#[]⟩, .string ⟨#[]⟩, .string ⟨#[]⟩, .slice none 0 0, .slice none 0 0]) := s1
     refine wpOp_step rfl fun K' hK' => ?_
     rw [if_pos (wanted_plain rfl)]
     unfold Oper.wp
     simp only [execOp]
     go_simp
     exact hK' _ _ ⟨_, rfl, Below.refl _ _, rfl⟩
    | 6, _ =>
     exact gw_move rfl (wanted_plain rfl) 1 _ rfl sl1 ⟨_, rfl, Below.refl _ _, rfl⟩
    | 7, _ =>
     obtain ⟨s0, r0, _⟩ := hw 6 (by omega) (by kernel_rfl)
     have e0 : v 6 = .slice (some ⟨b, o, none⟩) 2 c := r0
     rw [e0] at s0
     replace s0 : a.tmps[28]? = some (.slice (some ⟨b, o, none⟩) 2 c) := s0
     refine wpOp_step rfl fun K' hK' => ?_
     rw [if_pos (wanted_plain rfl)]
     unfold Oper.wp
     simp only [execOp]
     go_simp
     exact hK' _ _ ⟨_, rfl, Below.refl _ _, rfl⟩
    | 8, _ =>
     obtain ⟨s0, r0, _⟩ := hw 7 (by omega) (by kernel_rfl)
     have e0 : v 7 = .pointer (some ⟨b, o + 2, none⟩) := r0
     rw [e0] at s0
     replace s0 : a.tmps[29]? = some (.pointer (some ⟨b, o + 2, none⟩)) := s0
     have cc0 := (hb.cell (p := ⟨b, o + 2, none⟩) HLB.out).trans C2.out
     have cc1 := (hb.cell (p := ⟨b, o + 3, none⟩) HLB.out).trans C3.out
     refine wpOp_step rfl fun K' hK' => ?_
     rw [if_pos (wanted_plain rfl)]
     unfold Oper.wp
     simp only [execOp]
     go_simp
     exact hK' _ _ ⟨_, rfl, Below.refl _ _, rfl⟩
    | 9, _ =>
     have cx0 := (hb.cell (p := ⟨gx, 0 + 0, none⟩) BX.out.lt).trans (BX.out.cell 0 _ rfl)
     have cx1 := (hb.cell (p := ⟨gx, 0 + 1, none⟩) BX.out.lt).trans (BX.out.cell 1 _ rfl)
     have cx2 := (hb.cell (p := ⟨gx, 0 + 2, none⟩) BX.out.lt).trans (BX.out.cell 2 _ rfl)
     have cx3 := (hb.cell (p := ⟨gx, 0 + 3, none⟩) BX.out.lt).trans (BX.out.cell 3 _ rfl)
     have cx4 := (hb.cell (p := ⟨gx, 0 + 4, none⟩) BX.out.lt).trans (BX.out.cell 4 _ rfl)
     have cx5 := (hb.cell (p := ⟨gx, 0 + 5, none⟩) BX.out.lt).trans (BX.out.cell 5 _ rfl)
     have cx6 := (hb.cell (p := ⟨gx, 0 + 6, none⟩) BX.out.lt).trans (BX.out.cell 6 _ rfl)
     have cx7 := (hb.cell (p := ⟨gx, 0 + 7, none⟩) BX.out.lt).trans (BX.out.cell 7 _ rfl)
     have cx8 := (hb.cell (p := ⟨gx, 0 + 8, none⟩) BX.out.lt).trans (BX.out.cell 8 _ rfl)
     have cx9 := (hb.cell (p := ⟨gx, 0 + 9, none⟩) BX.out.lt).trans (BX.out.cell 9 _ rfl)
     have cx10 := (hb.cell (p := ⟨gx, 0 + 10, none⟩) BX.out.lt).trans (BX.out.cell 10 _ rfl)
     refine wpOp_step rfl fun K' hK' => ?_
     rw [if_pos (wanted_plain rfl)]
     unfold Oper.wp
     simp only [execOp]
     go_simp
     exact hK' _ _ ⟨_, rfl, Below.refl _ _, rfl⟩
    | 10, _ =>
     obtain ⟨s0, r0, _⟩ := hw 8 (by omega) (by kernel_rfl)
     have e0 : v 8 = .agg #[.string Z.1, .string Z.2] := r0
     rw [e0] at s0
     replace s0 : a.tmps[30]? = some (.agg #[.string Z.1, .string Z.2]) := s0
     obtain ⟨s1, r1, _⟩ := hw 9 (by omega) (by kernel_rfl)
     have e1 : v 9 = .agg #[.int .i64 1, .string X.1, .string X.2, .int .i64 0, .string ⟨#[]⟩, .string ⟨#[]⟩, .string ⟨#[]⟩, .string ⟨#[]⟩, .string ⟨#[]⟩, .slice none 0 0, .slice none 0 0] := r1
     rw [e1] at s1
     replace s1 : a.tmps[31]? = some (.agg #[.int .i64 1, .string X.1, .string X.2, .int .i64 0, .string ⟨#[]⟩, .string ⟨#[]⟩, .string ⟨#[]⟩, .string ⟨#[]⟩, .string ⟨#[]⟩, .slice none 0 0, .slice none 0 0]) := s1
     refine wpOp_step rfl fun K' hK' => ?_
     rw [if_pos (wanted_plain rfl)]
     unfold Oper.wp
     simp only [execOp]
     go_simp
     exact hK' _ _ ⟨_, rfl, Below.refl _ _, rfl⟩
    | 11, _ =>
     obtain ⟨s0, r0, _⟩ := hw 5 (by omega) (by kernel_rfl)
     have e0 : v 5 = .agg #[.string X.1, .string X.2, .int .i64 1, .string Z.1, .string Z.2, .int .i64 0, .string ⟨#[]⟩, .string ⟨#[]⟩, .string ⟨#[]⟩, .string ⟨#[]⟩, .string ⟨#[]⟩, .slice none 0 0, .slice none 0 0] := r0
     rw [e0] at s0
     replace s0 : a.tmps[27]? = some (.agg #[.string X.1, .string X.2, .int .i64 1, .string Z.1, .string Z.2, .int .i64 0, .string ⟨#[]⟩, .string ⟨#[]⟩, .string ⟨#[]⟩, .string ⟨#[]⟩, .string ⟨#[]⟩, .slice none 0 0, .slice none 0 0]) := s0
     obtain ⟨s1, r1, _⟩ := hw 10 (by omega) (by kernel_rfl)
     have e1 : v 10 = .agg #[.string Z.1, .string Z.2, .int .i64 1, .string X.1, .string X.2, .int .i64 0, .string ⟨#[]⟩, .string ⟨#[]⟩, .string ⟨#[]⟩, .string ⟨#[]⟩, .string ⟨#[]⟩, .slice none 0 0, .slice none 0 0] := r1
     rw [e1] at s1
     replace s1 : a.tmps[32]? = some (.agg #[.string Z.1, .string Z.2, .int .i64 1, .string X.1, .string X.2, .int .i64 0, .string ⟨#[]⟩, .string ⟨#[]⟩, .string ⟨#[]⟩, .string ⟨#[]⟩, .string ⟨#[]⟩, .slice none 0 0, .slice none 0 0]) := s1
     refine wpOp_step rfl fun K' hK' => ?_
     rw [if_pos (wanted_plain rfl)]
     unfold Oper.wp
     simp only [execOp]
     go_simp
     exact hK' _ _ ⟨_, rfl, below_alT _ _, rfl, heap_alloc_new _ _, by simp⟩
    | 12, _ =>
     obtain ⟨s0, r0, _⟩ := hw 0 (by omega) (by kernel_rfl)
     have e0 : v 0 = .agg #[.int .i64 3, .string (uN ⟨#[102]⟩).1, .string (uN ⟨#[102]⟩).2, .int .i64 0, .string ⟨#[]⟩, .string ⟨#[]⟩, .string ⟨#[]⟩, .string ⟨#[]⟩, .string ⟨#[]⟩, .slice none 0 0, .slice A2 2 c2] := r0
     rw [e0] at s0
     replace s0 : a.tmps[22]? = some (.agg #[.int .i64 3, .string (uN ⟨#[102]⟩).1, .string (uN ⟨#[102]⟩).2, .int .i64 0, .string ⟨#[]⟩, .string ⟨#[]⟩, .string ⟨#[]⟩, .string ⟨#[]⟩, .string ⟨#[]⟩, .slice none 0 0, .slice A2 2 c2]) := s0
     obtain ⟨s1, r1, b1⟩ := hw 11 (by omega) (by kernel_rfl)
     obtain ⟨e1, hr1, hl1⟩ := r1
     rw [e1] at s1
     have hww := HWW.out
     have hbs := hb.size
     have CC := substituteP [(X, .var Z), (Z, .var X)] (.slice (some ⟨lo 11, 0, none⟩) 2 2) (.app (uN ⟨#[102]⟩) [.var X, .var Z]) [.int .i64 3, .string (uN ⟨#[102]⟩).1, .string (uN ⟨#[102]⟩).2, .int .i64 0, .string ⟨#[]⟩, .string ⟨#[]⟩, .string ⟨#[]⟩, .string ⟨#[]⟩, .string ⟨#[]⟩, .slice none 0 0, .slice A2 2 c2] w9 (Upto w w9 NoB) ((NoB.in w).upto (by omega)) ((HT.out.below (fun b hb0 => upto_lt (NoB.in w) HWW.out b hb0) hb).more (fun b hb0 => upto_more hb.size b hb0)) ((as2 hr1).more fun b hb0 => .inr ⟨by omega, by omega⟩) (by simp [Tm.nodes, Tm.nodesL]) (by show 2 ≤ 100000; decide)
     unfold vTm at CC
     refine gw_tt rfl (wanted_plain rfl) 33 22 33 _ _ _ rfl (fun v u w => by go_simp) s0 s1 ?_
     with_reducible refine (CC).mono ?_
     rintro e w3 ⟨cs3, rfl, h3, hb3⟩
     exact ⟨_, rfl, _, rfl, hb3, by have := hb3.size; omega, cs3, rfl, h3.more (fun b hb0 => upto_two (by omega) hb3.size b hb0)⟩
    | 13, _ =>
     refine wpOp_step rfl fun K' hK' => ?_
     rw [if_pos (wanted_plain rfl)]
     unfold Oper.wp
     simp only [execOp]
     go_simp
     exact hK' _ _ ⟨_, rfl, below_alT _ _, rfl, heap_alloc_new _ _, by simp⟩
    | k + 14, h => exact absurd h (by omega)
   case done =>
    intro a w9 v lo hi' hdef hsz hoth hb hj hap
    obtain ⟨_, ⟨hz12, csu, hv12, ht12⟩, hlo12, hhi12⟩ := hj 12 (by omega)
    obtain ⟨_, ⟨hv13, hbx13, hlt13⟩, hlo13, hhi13⟩ := hj 13 (by omega)
    have ha := eq_puts hdef hsz hoth (fun i hi => (hj i hi).1)
    subst ha
    clear hj hoth hdef hsz hap
    simp only [puts, List.getD_cons_zero, List.getD_cons_succ, hv12, hv13]
    generalize v 0 = v0
    generalize v 1 = v1
    generalize v 2 = v2
    generalize v 3 = v3
    generalize v 4 = v4
    generalize v 5 = v5
    generalize v 6 = v6
    generalize v 7 = v7
    generalize v 8 = v8
    generalize v 9 = v9
    generalize v 10 = v10
    generalize v 11 = v11
    clear hv12 hv13
    simp only [Act.put, List.setIfInBounds_toArray, List.set_cons_zero, List.set_cons_succ]
    show wpList _ _ _ [_] _ _
    have e4 : subT [(X, .var Z), (Z, .var X)] (.app (uN ⟨#[102]⟩) [.var X, .var Z]) = .app (uN ⟨#[102]⟩) [.var Z, .var X] := by
     have hxx : eqN X X = true := eqN_iff.2 rfl
     have hzz : eqN Z Z = true := eqN_iff.2 rfl
     simp [subT, subTs, findA, hxx, hzz, hne]
    rw [e4] at ht12
    obtain ⟨T1, hT1⟩ : ∃ T1, T1 = Tm.app (uN ⟨#[102]⟩) [.var Z, .var X] := ⟨_, rfl⟩
    have HT1 := hI hT1
    have h3 := ht12
    unfold TmAt at ht12
    obtain ⟨A3, c3, ecs, _, _⟩ := ht12
    have ecs2 : csu = [.int .i64 3, .string (uN ⟨#[102]⟩).1, .string (uN ⟨#[102]⟩).2, .int .i64 0, .string ⟨#[]⟩, .string ⟨#[]⟩, .string ⟨#[]⟩, .string ⟨#[]⟩, .string ⟨#[]⟩, .slice none 0 0, .slice A3 2 c3] := ecs
    subst ecs2
    have gls : X3.heap.size ≤ lo 13 := hlo13
    generalize lo 13 = gs at *
    have B13 := hI hbx13
    rw [← hT1] at h3
    have HU : Hid (TmAt (w9.setRow gs [.int .i64 3, .string (uN ⟨#[102]⟩).1, .string (uN ⟨#[102]⟩).2, .int .i64 0, .string ⟨#[]⟩, .string ⟨#[]⟩, .string ⟨#[]⟩, .string ⟨#[]⟩, .string ⟨#[]⟩, .slice none 0 0, .slice A3 2 c3].toArray) (Upto w (w9.setRow gs [.int .i64 3, .string (uN ⟨#[102]⟩).1, .string (uN ⟨#[102]⟩).2, .int .i64 0, .string ⟨#[]⟩, .string ⟨#[]⟩, .string ⟨#[]⟩, .string ⟨#[]⟩, .string ⟨#[]⟩, .slice none 0 0, .slice A3 2 c3].toArray) NoB) T1 [.int .i64 3, .string (uN ⟨#[102]⟩).1, .string (uN ⟨#[102]⟩).2, .int .i64 0, .string ⟨#[]⟩, .string ⟨#[]⟩, .string ⟨#[]⟩, .string ⟨#[]⟩, .string ⟨#[]⟩, .slice none 0 0, .slice A3 2 c3]) := TmAt.boxed h3 hbx13.nb _
    have BU : Hid (TB (w9.setRow gs [.int .i64 3, .string (uN ⟨#[102]⟩).1, .string (uN ⟨#[102]⟩).2, .int .i64 0, .string ⟨#[]⟩, .string ⟨#[]⟩, .string ⟨#[]⟩, .string ⟨#[]⟩, .string ⟨#[]⟩, .slice none 0 0, .slice A3 2 c3].toArray) gs [.int .i64 3, .string (uN ⟨#[102]⟩).1, .string (uN ⟨#[102]⟩).2, .int .i64 0, .string ⟨#[]⟩, .string ⟨#[]⟩, .string ⟨#[]⟩, .string ⟨#[]⟩, .string ⟨#[]⟩, .slice none 0 0, .slice A3 2 c3]) := hbx13.set _
    have BZ5 : Hid (TB (w9.setRow gs [.int .i64 3, .string (uN ⟨#[102]⟩).1, .string (uN ⟨#[102]⟩).2, .int .i64 0, .string ⟨#[]⟩, .string ⟨#[]⟩, .string ⟨#[]⟩, .string ⟨#[]⟩, .string ⟨#[]⟩, .slice none 0 0, .slice A3 2 c3].toArray) gz [.int .i64 1, .string Z.1, .string Z.2, .int .i64 0, .string ⟨#[]⟩, .string ⟨#[]⟩, .string ⟨#[]⟩, .string ⟨#[]⟩, .string ⟨#[]⟩, .slice none 0 0, .slice none 0 0]) := (BZ.out.keep hb).other (fun e => by have := BZ.out.lt; omega)
    have HB5 : Hid (Below w.heap.size w (w9.setRow gs [.int .i64 3, .string (uN ⟨#[102]⟩).1, .string (uN ⟨#[102]⟩).2, .int .i64 0, .string ⟨#[]⟩, .string ⟨#[]⟩, .string ⟨#[]⟩, .string ⟨#[]⟩, .string ⟨#[]⟩, .slice none 0 0, .slice A3 2 c3].toArray)) := HBW.out.trans ((below_setRowO hb gls _).mono HWW.out)
    have ONE5 := hI h3.o11
    clear h3 hb hbx13 hlt13 hlo13 hhi13 hlo12 hhi12 hz12 ecs BX BT HT BZ HBW HGT HGX HGZ HNE HWW HLB C0 C1 C2 C3 e4 hT1 hne hne2 gls
    go_upto_region 5 with ((with_reducible refine storeTb (cs := [.int .i64 3, .string (uN ⟨#[102]⟩).1, .string (uN ⟨#[102]⟩).2, .int .i64 0, .string ⟨#[]⟩, .string ⟨#[]⟩, .string ⟨#[]⟩, .string ⟨#[]⟩, .string ⟨#[]⟩, .slice none 0 0, .slice A3 2 c3]) (.tmp 5) (.tmp 34) ?_ ?_ ?_ ?_ B13.out ?_ ?_ ?_ ?_); rfl; rfl; rfl; rfl; rfl; rfl; exact ONE5.out.2)
    generalize w9.setRow gs [.int .i64 3, .string (uN ⟨#[102]⟩).1, .string (uN ⟨#[102]⟩).2, .int .i64 0, .string ⟨#[]⟩, .string ⟨#[]⟩, .string ⟨#[]⟩, .string ⟨#[]⟩, .string ⟨#[]⟩, .slice none 0 0, .slice A3 2 c3].toArray = X5 at *
    have hA5 := below_alT X5 (.cells #[.int .i64 0] 3)
    have HW5 := HB5.out.size
    have hIs : IsV (X5.alloc (.cells #[.int .i64 0] 3)) (Upto w (X5.alloc (.cells #[.int .i64 0] 3)) NoB) [0] (.slice (some ⟨X5.heap.size, 0, none⟩) 1 1) := by
     refine ⟨_, 1, rfl, Nat.le_refl _, fun _ => ⟨X5.heap.size, 0, rfl, Or.inr ⟨HW5, by simp⟩, fun i hi => ?_⟩⟩
     have hi1 : i < 1 := hi
     have : i = 0 := by omega
     subst this
     rw [cell_of_row _ _ _ _ _ _ (heap_alloc_new X5 _)]; rfl
    have hU5 : TmAt (X5.alloc (.cells #[.int .i64 0] 3)) (Upto w (X5.alloc (.cells #[.int .i64 0] 3)) NoB) T1 [.int .i64 3, .string (uN ⟨#[102]⟩).1, .string (uN ⟨#[102]⟩).2, .int .i64 0, .string ⟨#[]⟩, .string ⟨#[]⟩, .string ⟨#[]⟩, .string ⟨#[]⟩, .string ⟨#[]⟩, .slice none 0 0, .slice A3 2 c3] := (HU.out.below (fun b hb0 => upto_lt (NoB.in w) HW5 b hb0) hA5).more (fun b hb0 => upto_more hA5.size b hb0)
    have A5 := atT T1 [.int .i64 3, .string (uN ⟨#[102]⟩).1, .string (uN ⟨#[102]⟩).2, .int .i64 0, .string ⟨#[]⟩, .string ⟨#[]⟩, .string ⟨#[]⟩, .string ⟨#[]⟩, .string ⟨#[]⟩, .slice none 0 0, .slice A3 2 c3] [0] _ _ _ ((NoB.in w).upto (Nat.le_trans HW5 hA5.size)) hU5 hIs (by decide)
    have eA : atP T1 [0] = some (.var Z) := by rw [HT1.out]; rfl
    rw [eA] at A5
    replace A5 := hI A5
    unfold vTm at A5
    have HA5 := hI hA5
    clear hA5 hIs hU5 eA HW5
    go_wp2_with ((with_reducible refine loadTb (cs := [.int .i64 3, .string (uN ⟨#[102]⟩).1, .string (uN ⟨#[102]⟩).2, .int .i64 0, .string ⟨#[]⟩, .string ⟨#[]⟩, .string ⟨#[]⟩, .string ⟨#[]⟩, .string ⟨#[]⟩, .slice none 0 0, .slice A3 2 c3]) (.tmp 5) ?_ ?_ ?_ BU.out ?_ ?_); rfl; rfl; rfl; rfl)
    refine A5.out.mono ?_
    rintro e w6 ⟨cs6, rfl, h6, hb6⟩
    have e6 : cs6 = [.int .i64 1, .string Z.1, .string Z.2, .int .i64 0, .string ⟨#[]⟩, .string ⟨#[]⟩, .string ⟨#[]⟩, .string ⟨#[]⟩, .string ⟨#[]⟩, .slice none 0 0, .slice none 0 0] := h6
    subst e6
    have HB6 := hI (HA5.out.trans (hb6.mono HA5.out.size))
    have HS6 : Hid (X5.heap.size ≤ w6.heap.size) := HB6.out.size
    have HC6 : Hid (Below X5.heap.size X5 (w6.alloc (.cells #[.int .i64 1, .string Z.1, .string Z.2, .int .i64 0, .string ⟨#[]⟩, .string ⟨#[]⟩, .string ⟨#[]⟩, .string ⟨#[]⟩, .string ⟨#[]⟩, .slice none 0 0, .slice none 0 0] 35))) := HB6.out.trans ((below_alT w6 _).mono HS6.out)
    have BT6 : Hid (TB (w6.alloc (.cells #[.int .i64 1, .string Z.1, .string Z.2, .int .i64 0, .string ⟨#[]⟩, .string ⟨#[]⟩, .string ⟨#[]⟩, .string ⟨#[]⟩, .string ⟨#[]⟩, .slice none 0 0, .slice none 0 0] 35)) w6.heap.size [.int .i64 1, .string Z.1, .string Z.2, .int .i64 0, .string ⟨#[]⟩, .string ⟨#[]⟩, .string ⟨#[]⟩, .string ⟨#[]⟩, .string ⟨#[]⟩, .slice none 0 0, .slice none 0 0]) := heap_alloc_new _ _
    clear hb6 h6 A5 HA5 HB6 HS6
    unfold vTm
    go_upto_region 6 with fail
    generalize w6.alloc (.cells #[.int .i64 1, .string Z.1, .string Z.2, .int .i64 0, .string ⟨#[]⟩, .string ⟨#[]⟩, .string ⟨#[]⟩, .string ⟨#[]⟩, .string ⟨#[]⟩, .slice none 0 0, .slice none 0 0] 35) = Y at *
    generalize w6.heap.size = g6 at *
    have BUY := hI (BU.out.keep HC6.out)
    have BZY := hI (BZ5.out.keep HC6.out)
    have HUY : Hid (TmAt Y (Upto w Y NoB) T1 [.int .i64 3, .string (uN ⟨#[102]⟩).1, .string (uN ⟨#[102]⟩).2, .int .i64 0, .string ⟨#[]⟩, .string ⟨#[]⟩, .string ⟨#[]⟩, .string ⟨#[]⟩, .string ⟨#[]⟩, .slice none 0 0, .slice A3 2 c3]) := (HU.out.below (fun b hb0 => upto_lt (NoB.in w) HB5.out.size b hb0) HC6.out).more (fun b hb0 => upto_more HC6.out.size b hb0)
    have HBY : Hid (Below w.heap.size w Y) := HB5.out.trans (HC6.out.mono HB5.out.size)
    clear BU BZ5 HU HB5 HC6 B13
    have EQ1 : Hid (Calls Tryz.prog 36 #[.agg #[.int .i64 1, .string Z.1, .string Z.2, .int .i64 0, .string ⟨#[]⟩, .string ⟨#[]⟩, .string ⟨#[]⟩, .string ⟨#[]⟩, .string ⟨#[]⟩, .slice none 0 0, .slice none 0 0], .agg #[.int .i64 1, .string Z.1, .string Z.2, .int .i64 0, .string ⟨#[]⟩, .string ⟨#[]⟩, .string ⟨#[]⟩, .string ⟨#[]⟩, .string ⟨#[]⟩, .slice none 0 0, .slice none 0 0]] Y (RetB Y true)) := by
     have h := equalT 10 (by decide) (.var Z) (.var Z) [.int .i64 1, .string Z.1, .string Z.2, .int .i64 0, .string ⟨#[]⟩, .string ⟨#[]⟩, .string ⟨#[]⟩, .string ⟨#[]⟩, .string ⟨#[]⟩, .slice none 0 0, .slice none 0 0] [.int .i64 1, .string Z.1, .string Z.2, .int .i64 0, .string ⟨#[]⟩, .string ⟨#[]⟩, .string ⟨#[]⟩, .string ⟨#[]⟩, .string ⟨#[]⟩, .slice none 0 0, .slice none 0 0] Y NoB (NoB.in Y) rfl rfl (by unfold Tm.bd; trivial) (by unfold Tm.bd; trivial) (by simp [Tm.nodes])
     rw [eqT_refl] at h
     exact h
    repeat (first | ((with_reducible refine loadTg (cs := [.int .i64 1, .string Z.1, .string Z.2, .int .i64 0, .string ⟨#[]⟩, .string ⟨#[]⟩, .string ⟨#[]⟩, .string ⟨#[]⟩, .string ⟨#[]⟩, .slice none 0 0, .slice none 0 0]) (.tmp 6) ?_ ?_ ?_ BT6.out ?_ ?_); rfl; rfl; rfl; rfl; unfold vTm) | ((with_reducible refine loadTg (cs := [.int .i64 1, .string Z.1, .string Z.2, .int .i64 0, .string ⟨#[]⟩, .string ⟨#[]⟩, .string ⟨#[]⟩, .string ⟨#[]⟩, .string ⟨#[]⟩, .slice none 0 0, .slice none 0 0]) (.tmp 3) ?_ ?_ ?_ BZY.out ?_ ?_); rfl; rfl; rfl; rfl; unfold vTm) | go_skip | go_guarded | go_step | go_upon | go_back)
    refine EQ1.out.mono ?_
    rintro e w7 ⟨rfl, hb⟩
    dsimp only
    have BU7 := hI (BUY.out.keep hb)
    have HU7 : Hid (TmAt w7 (Upto w w7 NoB) T1 [.int .i64 3, .string (uN ⟨#[102]⟩).1, .string (uN ⟨#[102]⟩).2, .int .i64 0, .string ⟨#[]⟩, .string ⟨#[]⟩, .string ⟨#[]⟩, .string ⟨#[]⟩, .string ⟨#[]⟩, .slice none 0 0, .slice A3 2 c3]) := (HUY.out.below (fun b hb0 => upto_lt (NoB.in w) HBY.out.size b hb0) hb).more (fun b hb0 => upto_more hb.size b hb0)
    have HB7 : Hid (Below w.heap.size w w7) := HBY.out.trans (hb.mono HBY.out.size)
    clear hb EQ1 BUY HUY HBY BZY BT6
    have VAL : Hid (Calls Tryz.prog 56 #[.agg #[.int .i64 3, .string (uN ⟨#[102]⟩).1, .string (uN ⟨#[102]⟩).2, .int .i64 0, .string ⟨#[]⟩, .string ⟨#[]⟩, .string ⟨#[]⟩, .string ⟨#[]⟩, .string ⟨#[]⟩, .slice none 0 0, .slice A3 2 c3]] w7 (RetB w7 true)) := by
     have h := validT T1 [.int .i64 3, .string (uN ⟨#[102]⟩).1, .string (uN ⟨#[102]⟩).2, .int .i64 0, .string ⟨#[]⟩, .string ⟨#[]⟩, .string ⟨#[]⟩, .string ⟨#[]⟩, .string ⟨#[]⟩, .slice none 0 0, .slice A3 2 c3] w7 _ ((NoB.in w).upto HB7.out.size) HU7.out (by rw [HT1.out]; simp [Tm.nodes, Tm.nodesL]) (by rw [HT1.out]; simp [Tm.dep, Tm.depL]) (by rw [HT1.out]; simp [Tm.bd, Tm.bdL])
     rw [show wfT T1 = true from by rw [HT1.out]; exact HWF.out] at h
     exact h
    repeat (first | ((with_reducible refine loadTg (cs := [.int .i64 3, .string (uN ⟨#[102]⟩).1, .string (uN ⟨#[102]⟩).2, .int .i64 0, .string ⟨#[]⟩, .string ⟨#[]⟩, .string ⟨#[]⟩, .string ⟨#[]⟩, .string ⟨#[]⟩, .slice none 0 0, .slice A3 2 c3]) (.tmp 5) ?_ ?_ ?_ BU7.out ?_ ?_); rfl; rfl; rfl; rfl; unfold vTm) | go_skip | go_guarded | go_step | go_upon | go_back)
    refine VAL.out.mono ?_
    rintro e w8 ⟨rfl, hb⟩
    dsimp only
    have BU8 := hI (BU7.out.keep hb)
    have HU8 : Hid (TmAt w8 (Upto w w8 NoB) T1 [.int .i64 3, .string (uN ⟨#[102]⟩).1, .string (uN ⟨#[102]⟩).2, .int .i64 0, .string ⟨#[]⟩, .string ⟨#[]⟩, .string ⟨#[]⟩, .string ⟨#[]⟩, .string ⟨#[]⟩, .slice none 0 0, .slice A3 2 c3]) := (HU7.out.below (fun b hb0 => upto_lt (NoB.in w) HB7.out.size b hb0) hb).more (fun b hb0 => upto_more hb.size b hb0)
    have HB8 : Hid (Below w.heap.size w w8) := HB7.out.trans (hb.mono HB7.out.size)
    clear hb VAL BU7 HU7 HB7
    have NOD : Hid (Calls Tryz.prog 57 #[.agg #[.int .i64 3, .string (uN ⟨#[102]⟩).1, .string (uN ⟨#[102]⟩).2, .int .i64 0, .string ⟨#[]⟩, .string ⟨#[]⟩, .string ⟨#[]⟩, .string ⟨#[]⟩, .string ⟨#[]⟩, .slice none 0 0, .slice A3 2 c3]] w8 (RetI w8 3)) := by
     have h := nodesT T1 [.int .i64 3, .string (uN ⟨#[102]⟩).1, .string (uN ⟨#[102]⟩).2, .int .i64 0, .string ⟨#[]⟩, .string ⟨#[]⟩, .string ⟨#[]⟩, .string ⟨#[]⟩, .string ⟨#[]⟩, .slice none 0 0, .slice A3 2 c3] w8 _ ((NoB.in w).upto HB8.out.size) HU8.out (by rw [HT1.out]; simp [Tm.nodes, Tm.nodesL])
     rw [show ((T1.nodes : Nat) : Int) = 3 from by rw [HT1.out]; simp [Tm.nodes, Tm.nodesL]] at h
     exact h
    repeat (first | ((with_reducible refine loadTg (cs := [.int .i64 3, .string (uN ⟨#[102]⟩).1, .string (uN ⟨#[102]⟩).2, .int .i64 0, .string ⟨#[]⟩, .string ⟨#[]⟩, .string ⟨#[]⟩, .string ⟨#[]⟩, .string ⟨#[]⟩, .slice none 0 0, .slice A3 2 c3]) (.tmp 5) ?_ ?_ ?_ BU8.out ?_ ?_); rfl; rfl; rfl; rfl; unfold vTm) | go_skip | go_guarded | go_step | go_upon | go_back)
    refine NOD.out.mono ?_
    rintro e w9 ⟨rfl, hb⟩
    dsimp only
    have BU9 := hI (BU8.out.keep hb)
    have HU9 : Hid (TmAt w9 (Upto w w9 NoB) T1 [.int .i64 3, .string (uN ⟨#[102]⟩).1, .string (uN ⟨#[102]⟩).2, .int .i64 0, .string ⟨#[]⟩, .string ⟨#[]⟩, .string ⟨#[]⟩, .string ⟨#[]⟩, .string ⟨#[]⟩, .slice none 0 0, .slice A3 2 c3]) := (HU8.out.below (fun b hb0 => upto_lt (NoB.in w) HB8.out.size b hb0) hb).more (fun b hb0 => upto_more hb.size b hb0)
    have HB9 : Hid (Below w.heap.size w w9) := HB8.out.trans (hb.mono HB8.out.size)
    clear hb NOD BU8 HU8 HB8
    have hA9 := below_alT w9 (.cells #[.int .i64 3, .string (uN ⟨#[102]⟩).1, .string (uN ⟨#[102]⟩).2, .int .i64 0, .string ⟨#[]⟩, .string ⟨#[]⟩, .string ⟨#[]⟩, .string ⟨#[]⟩, .string ⟨#[]⟩, .slice none 0 0, .slice A3 2 c3] 35)
    have hR9 : (w9.alloc (.cells #[.int .i64 3, .string (uN ⟨#[102]⟩).1, .string (uN ⟨#[102]⟩).2, .int .i64 0, .string ⟨#[]⟩, .string ⟨#[]⟩, .string ⟨#[]⟩, .string ⟨#[]⟩, .string ⟨#[]⟩, .slice none 0 0, .slice A3 2 c3] 35)).heap[w9.heap.size]? = some (.cells #[.int .i64 3, .string (uN ⟨#[102]⟩).1, .string (uN ⟨#[102]⟩).2, .int .i64 0, .string ⟨#[]⟩, .string ⟨#[]⟩, .string ⟨#[]⟩, .string ⟨#[]⟩, .string ⟨#[]⟩, .slice none 0 0, .slice A3 2 c3] 35 (0, 0)) := heap_alloc_new w9 _
    have hU9 : TmAt (w9.alloc (.cells #[.int .i64 3, .string (uN ⟨#[102]⟩).1, .string (uN ⟨#[102]⟩).2, .int .i64 0, .string ⟨#[]⟩, .string ⟨#[]⟩, .string ⟨#[]⟩, .string ⟨#[]⟩, .string ⟨#[]⟩, .slice none 0 0, .slice A3 2 c3] 35)) (Upto w (w9.alloc (.cells #[.int .i64 3, .string (uN ⟨#[102]⟩).1, .string (uN ⟨#[102]⟩).2, .int .i64 0, .string ⟨#[]⟩, .string ⟨#[]⟩, .string ⟨#[]⟩, .string ⟨#[]⟩, .string ⟨#[]⟩, .slice none 0 0, .slice A3 2 c3] 35)) NoB) T1 [.int .i64 3, .string (uN ⟨#[102]⟩).1, .string (uN ⟨#[102]⟩).2, .int .i64 0, .string ⟨#[]⟩, .string ⟨#[]⟩, .string ⟨#[]⟩, .string ⟨#[]⟩, .string ⟨#[]⟩, .slice none 0 0, .slice A3 2 c3] := (HU9.out.below (fun b hb0 => upto_lt (NoB.in w) HB9.out.size b hb0) hA9).more (fun b hb0 => upto_more hA9.size b hb0)
    have hAA : ArgsAt (w9.alloc (.cells #[.int .i64 3, .string (uN ⟨#[102]⟩).1, .string (uN ⟨#[102]⟩).2, .int .i64 0, .string ⟨#[]⟩, .string ⟨#[]⟩, .string ⟨#[]⟩, .string ⟨#[]⟩, .string ⟨#[]⟩, .slice none 0 0, .slice A3 2 c3] 35)) (Upto w (w9.alloc (.cells #[.int .i64 3, .string (uN ⟨#[102]⟩).1, .string (uN ⟨#[102]⟩).2, .int .i64 0, .string ⟨#[]⟩, .string ⟨#[]⟩, .string ⟨#[]⟩, .string ⟨#[]⟩, .string ⟨#[]⟩, .slice none 0 0, .slice A3 2 c3] 35)) NoB) [T1] (some ⟨w9.heap.size, 0, none⟩) 1 := by
     refine ⟨Nat.le_refl _, fun _ => ⟨_, _, rfl, ⟨.inr ⟨HB9.out.size, by simp⟩, _, _, hR9⟩, ?_⟩⟩
     unfold TmsAt
     refine ⟨⟨_, hU9, fun j u hj => TB.cell (g := w9.heap.size) hR9 j u hj⟩, ?_⟩
     unfold TmsAt; trivial
    have hshort : ∀ u ∈ subsTs [T1], NmOk u := by
     rw [HT1.out, HX.out, HZZ.out]
     intro u hu
     simp [subsTs, subsT] at hu
     rcases hu with rfl | rfl | rfl <;> exact ⟨by show _ ≤ maxLen; decide, by show _ ≤ maxLen; decide⟩
    have VAR := variablesT [T1] _ _ _ _ ((NoB.in w).upto (Nat.le_trans HB9.out.size hA9.size)) hAA hshort (fun x hx => by rw [List.mem_singleton] at hx; rw [hx, HT1.out]; simp [Tm.nodes, Tm.nodesL]) (by simp) (by rw [HT1.out]; simp [subsTs, subsT])
    have hnl : (namesF 1 (subsTs [T1])).length = 2 := by rw [HT1.out, HX.out, HZZ.out]; kernel_rfl
    replace VAR := hI VAR
    have HA9 := hI hA9
    have HNL := hI hnl
    have HSH := hI hshort
    clear hA9 hR9 hU9 hAA hshort hnl
    repeat (first | ((with_reducible refine loadTg (cs := [.int .i64 3, .string (uN ⟨#[102]⟩).1, .string (uN ⟨#[102]⟩).2, .int .i64 0, .string ⟨#[]⟩, .string ⟨#[]⟩, .string ⟨#[]⟩, .string ⟨#[]⟩, .string ⟨#[]⟩, .slice none 0 0, .slice A3 2 c3]) (.tmp 5) ?_ ?_ ?_ BU9.out ?_ ?_); rfl; rfl; rfl; rfl; unfold vTm) | go_skip | go_guarded | go_step | go_upon | go_back)
    refine VAR.out.mono ?_
    rintro e w10 ⟨v, rfl, ⟨A4, c4, rfl, _, _⟩, hb⟩
    dsimp only
    rw [HNL.out]
    have hb0 := HA9.out.trans (hb.mono HA9.out.size)
    have BU10 := hI (BU9.out.keep hb0)
    have HU10 : Hid (TmAt w10 (Upto w w10 NoB) T1 [.int .i64 3, .string (uN ⟨#[102]⟩).1, .string (uN ⟨#[102]⟩).2, .int .i64 0, .string ⟨#[]⟩, .string ⟨#[]⟩, .string ⟨#[]⟩, .string ⟨#[]⟩, .string ⟨#[]⟩, .slice none 0 0, .slice A3 2 c3]) := (HU9.out.below (fun b hb0 => upto_lt (NoB.in w) HB9.out.size b hb0) hb0).more (fun b hb1 => upto_more hb0.size b hb1)
    have HB10 : Hid (Below w.heap.size w w10) := HB9.out.trans (hb0.mono HB9.out.size)
    clear hb hb0 VAR BU9 HU9 HB9 HA9
    have GRD : Hid (Calls Tryz.prog 26 #[.agg #[.int .i64 3, .string (uN ⟨#[102]⟩).1, .string (uN ⟨#[102]⟩).2, .int .i64 0, .string ⟨#[]⟩, .string ⟨#[]⟩, .string ⟨#[]⟩, .string ⟨#[]⟩, .string ⟨#[]⟩, .slice none 0 0, .slice A3 2 c3]] w10 (RetB w10 false)) := by
     have h := groundT T1 [.int .i64 3, .string (uN ⟨#[102]⟩).1, .string (uN ⟨#[102]⟩).2, .int .i64 0, .string ⟨#[]⟩, .string ⟨#[]⟩, .string ⟨#[]⟩, .string ⟨#[]⟩, .string ⟨#[]⟩, .slice none 0 0, .slice A3 2 c3] w10 _ ((NoB.in w).upto HB10.out.size) HU10.out (fun u hu => HSH.out u (by unfold subsTs; exact List.mem_append.2 (.inl hu))) (by rw [HT1.out]; simp [Tm.nodes, Tm.nodesL])
     rw [show noVar (subsT T1) = false from by rw [HT1.out]; simp [subsT, subsTs, noVar, Tm.kd]] at h
     exact h
    repeat (first | ((with_reducible refine loadTg (cs := [.int .i64 3, .string (uN ⟨#[102]⟩).1, .string (uN ⟨#[102]⟩).2, .int .i64 0, .string ⟨#[]⟩, .string ⟨#[]⟩, .string ⟨#[]⟩, .string ⟨#[]⟩, .string ⟨#[]⟩, .slice none 0 0, .slice A3 2 c3]) (.tmp 5) ?_ ?_ ?_ BU10.out ?_ ?_); rfl; rfl; rfl; rfl; unfold vTm) | go_skip | go_guarded | go_step | go_upon | go_back)
    refine GRD.out.mono ?_
    rintro e w11 ⟨rfl, hb⟩
    dsimp only
    have HF : Hid (Below w.heap.size w w11) := HB10.out.trans (hb.mono HB10.out.size)
    clear hb GRD
    go_wp2
    go_ret
    exact ⟨rfl, HF.out⟩

structure NsO (Y wr : World) (l : List Nm) (v : Value) : Prop where
 own : wr.ownsRow Y.heap.size 23 2 v l.length (flatN l)
 bel : Below Y.heap.size Y wr


end Go.Proofs.YtinjhnnpbejccaaGreatDoor
