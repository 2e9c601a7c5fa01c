import Derived.Test.YtlocnkobancjmaaGreatDoorCl
import Derived.Test.YtlocnkobancjmaaGreatDoorE19
import Derived.Test.YtlocnkobancjmaaGreatDoorE28
import Derived.Test.YtlocnkobancjmaaGreatDoorE21
import Derived.Test.YtlocnkobancjmaaGreatDoorE22
import Derived.Test.YtlocnkobancjmaaGreatDoorE25
import Derived.Test.YtlocnkobancjmaaGreatDoorE24
import Derived.Test.YtlocnkobancjmaaGreatDoorE11
import Derived.Test.YtlocnkobancjmaaGreatDoorE17
namespace Go.Proofs.YtlocnkobancjmaaGreatDoor
open Go Go.RowKit
set_option linter.unusedVariables false
set_option maxHeartbeats 32000000
set_option maxRecDepth 100000
theorem varLit (s : Nm) (w : World) : Calls Tryz.prog 23 #[.agg #[.string s.1, .string s.2]] w (fun e w' => e = .returned (.agg #[.int .i64 1, .string s.1, .string s.2, .int .i64 0, .string ⟨#[]⟩, .string ⟨#[]⟩, .string ⟨#[]⟩, .string ⟨#[]⟩, .string ⟨#[]⟩, .slice none 0 0, .slice none 0 0]) ∧ Below w.heap.size w w') := (varP s w NoB).mono fun e w' ⟨cs, h1, h2, h3⟩ => by
 have e2 : cs = [.int .i64 1, .string s.1, .string s.2, .int .i64 0, .string ⟨#[]⟩, .string ⟨#[]⟩, .string ⟨#[]⟩, .string ⟨#[]⟩, .string ⟨#[]⟩, .slice none 0 0, .slice none 0 0] := h2
 subst e2
 exact ⟨h1, h3⟩
theorem ts2 {w : World} {g : Nat} {X Z : Nm} (h : w.heap[g]? = some (.cells #[.int .i64 1, .string X.1, .string X.2, .int .i64 0, .string ⟨#[]⟩, .string ⟨#[]⟩, .string ⟨#[]⟩, .string ⟨#[]⟩, .string ⟨#[]⟩, .slice none 0 0, .slice none 0 0, .int .i64 1, .string Z.1, .string Z.2, .int .i64 0, .string ⟨#[]⟩, .string ⟨#[]⟩, .string ⟨#[]⟩, .string ⟨#[]⟩, .string ⟨#[]⟩, .slice none 0 0, .slice none 0 0] 45 (0, 0))) : TsV w (fun b => b = g) [.var X, .var Z] (.slice (some ⟨g, 0, none⟩) 2 2) := by
 refine ⟨some ⟨g, 0, none⟩, 2, rfl, Nat.le_refl _, fun _ => ⟨g, 0, rfl, ⟨rfl, _, _, h⟩, ?_⟩⟩
 refine TmsAt.of _ _ fun i hi => ?_
 have hi2 : i < 2 := hi
 match i, hi2 with
 | 0, _ =>
  refine ⟨[.int .i64 1, .string X.1, .string X.2, .int .i64 0, .string ⟨#[]⟩, .string ⟨#[]⟩, .string ⟨#[]⟩, .string ⟨#[]⟩, .string ⟨#[]⟩, .slice none 0 0, .slice none 0 0], rfl, fun j u hj => ?_⟩
  rw [cell_of_row _ _ _ _ _ _ h]
  have hj2 : j < 11 := (List.getElem?_eq_some_iff.1 hj).1
  match j, hj2 with
  | 0, _ | 1, _ | 2, _ | 3, _ | 4, _ | 5, _ | 6, _ | 7, _ | 8, _ | 9, _ | 10, _ => exact hj
 | 1, _ =>
  refine ⟨[.int .i64 1, .string Z.1, .string Z.2, .int .i64 0, .string ⟨#[]⟩, .string ⟨#[]⟩, .string ⟨#[]⟩, .string ⟨#[]⟩, .string ⟨#[]⟩, .slice none 0 0, .slice none 0 0], rfl, fun j u hj => ?_⟩
  rw [cell_of_row _ _ _ _ _ _ h]
  have hj2 : j < 11 := (List.getElem?_eq_some_iff.1 hj).1
  match j, hj2 with
  | 0, _ | 1, _ | 2, _ | 3, _ | 4, _ | 5, _ | 6, _ | 7, _ | 8, _ | 9, _ | 10, _ => exact hj
theorem as2 {w : World} {g : Nat} {X Z : Nm} (h : w.heap[g]? = some (.cells #[.string X.1, .string X.2, .int .i64 1, .string Z.1, .string Z.2, .int .i64 0, .string ⟨#[]⟩, .string ⟨#[]⟩, .string ⟨#[]⟩, .string ⟨#[]⟩, .string ⟨#[]⟩, .slice none 0 0, .slice none 0 0, .string Z.1, .string Z.2, .int .i64 1, .string X.1, .string X.2, .int .i64 0, .string ⟨#[]⟩, .string ⟨#[]⟩, .string ⟨#[]⟩, .string ⟨#[]⟩, .string ⟨#[]⟩, .slice none 0 0, .slice none 0 0] 64 (0, 0))) : AsV w (fun b => b = g) [(X, .var Z), (Z, .var X)] (.slice (some ⟨g, 0, none⟩) 2 2) := by
 refine ⟨some ⟨g, 0, none⟩, 2, rfl, Nat.le_refl _, fun _ => ⟨g, 0, rfl, ⟨rfl, _, _, h⟩, fun i hi => ?_⟩⟩
 have hi2 : i < 2 := hi
 match i, hi2 with
 | 0, _ =>
  refine ⟨[.int .i64 1, .string Z.1, .string Z.2, .int .i64 0, .string ⟨#[]⟩, .string ⟨#[]⟩, .string ⟨#[]⟩, .string ⟨#[]⟩, .string ⟨#[]⟩, .slice none 0 0, .slice none 0 0], rfl, fun j u hj => ?_⟩
  rw [cell_of_row _ _ _ _ _ _ h]
  have hj2 : j < 13 := (List.getElem?_eq_some_iff.1 hj).1
  match j, hj2 with
  | 0, _ | 1, _ | 2, _ | 3, _ | 4, _ | 5, _ | 6, _ | 7, _ | 8, _ | 9, _ | 10, _ | 11, _ | 12, _ => exact hj
 | 1, _ =>
  refine ⟨[.int .i64 1, .string X.1, .string X.2, .int .i64 0, .string ⟨#[]⟩, .string ⟨#[]⟩, .string ⟨#[]⟩, .string ⟨#[]⟩, .string ⟨#[]⟩, .slice none 0 0, .slice none 0 0], rfl, fun j u hj => ?_⟩
  rw [cell_of_row _ _ _ _ _ _ h]
  have hj2 : j < 13 := (List.getElem?_eq_some_iff.1 hj).1
  match j, hj2 with
  | 0, _ | 1, _ | 2, _ | 3, _ | 4, _ | 5, _ | 6, _ | 7, _ | 8, _ | 9, _ | 10, _ | 11, _ | 12, _ => exact hj
def LT2 (X Z : Nm) : Lv := fun v lo hi w => v = .slice (some ⟨lo, 0, none⟩) 2 2 ∧ w.heap[lo]? = some (.cells #[.int .i64 1, .string X.1, .string X.2, .int .i64 0, .string ⟨#[]⟩, .string ⟨#[]⟩, .string ⟨#[]⟩, .string ⟨#[]⟩, .string ⟨#[]⟩, .slice none 0 0, .slice none 0 0, .int .i64 1, .string Z.1, .string Z.2, .int .i64 0, .string ⟨#[]⟩, .string ⟨#[]⟩, .string ⟨#[]⟩, .string ⟨#[]⟩, .string ⟨#[]⟩, .slice none 0 0, .slice none 0 0] 45 (0, 0)) ∧ lo < hi
theorem mLT2 (X Z : Nm) : Mon (LT2 X Z) := fun _ _ _ _ _ ⟨h1, h2, h3⟩ hm hb => ⟨h1, (hb.block _ (by omega)).trans h2, h3⟩
def LA2 (X Z : Nm) : Lv := fun v lo hi w => v = .slice (some ⟨lo, 0, none⟩) 2 2 ∧ w.heap[lo]? = some (.cells #[.string X.1, .string X.2, .int .i64 1, .string Z.1, .string Z.2, .int .i64 0, .string ⟨#[]⟩, .string ⟨#[]⟩, .string ⟨#[]⟩, .string ⟨#[]⟩, .string ⟨#[]⟩, .slice none 0 0, .slice none 0 0, .string Z.1, .string Z.2, .int .i64 1, .string X.1, .string X.2, .int .i64 0, .string ⟨#[]⟩, .string ⟨#[]⟩, .string ⟨#[]⟩, .string ⟨#[]⟩, .string ⟨#[]⟩, .slice none 0 0, .slice none 0 0] 64 (0, 0)) ∧ lo < hi
theorem mLA2 (X Z : Nm) : Mon (LA2 X Z) := fun _ _ _ _ _ ⟨h1, h2, h3⟩ hm hb => ⟨h1, (hb.block _ (by omega)).trans h2, h3⟩
theorem first8 (w : World) : Calls Tryz.prog 17 #[] w (RetB w true) := by
 obtain ⟨X, hX⟩ : ∃ X, X = uN ⟨#[120]⟩ := ⟨_, rfl⟩
 obtain ⟨Z, hZ⟩ : ∃ Z, Z = uN ⟨#[121]⟩ := ⟨_, rfl⟩
 have hne : eqN X Z = false := by rw [hX, hZ]; kernel_rfl
 have hne2 : eqN Z X = false := by rw [hX, hZ]; kernel_rfl
 have HWF : Hid (wfT (.app (uN ⟨#[102]⟩) [.var Z, .var X]) = true) := (show _ = _ by rw [hX, hZ]; kernel_rfl)
 have HX := hI hX
 have HZZ := hI hZ
 have hvs : vN4.take 2 = [X, Z] := by rw [hX, hZ]; rfl
 go_enter Tryz.func17, Tryz.ntmps17
 go_wp2_with fail
 refine (varsT 2 (by decide) w).mono ?_
 rintro e w1 ⟨v, rfl, hv, hb1⟩
 rw [hvs] at hv
 obtain ⟨A, c, hve, hlc, hvv⟩ := hv
 have hve2 : v = .slice A 2 c := hve
 subst hve2
 obtain ⟨b, o, rfl, hbS, hcc⟩ := hvv (by simp)
 have HB := hI hb1
 have hlb : b < w1.heap.size := by
  rcases hbS.1 with h | h
  · exact h.elim
  · exact h.2
 have HLB := hI hlb
 have C0 : Hid (w1.cell? ⟨b, o, none⟩ = some (.string X.1)) := (hcc 0 (by simp)).1
 have C1 : Hid (w1.cell? ⟨b, o + 1, none⟩ = some (.string X.2)) := (hcc 0 (by simp)).2
 have C2 : Hid (w1.cell? ⟨b, o + 2, none⟩ = some (.string Z.1)) := (hcc 1 (by simp)).1
 have C3 : Hid (w1.cell? ⟨b, o + 3, none⟩ = some (.string Z.2)) := (hcc 1 (by simp)).2
 clear hcc hvv hbS hb1 hlb hvs hve hX hZ
 have hlc2 : 2 ≤ c := hlc
 go_wp2_with fail
 refine wp_region_growMT (l := _) 10 1 (by kernel_rfl) (by kernel_rfl) (fun i => [9, 10, 11, 12, 13, 14, 15, 16, 2, 3].getD i 0) (LR [LV (.slice (some ⟨b, o, none⟩) 2 c), LV (.pointer (some ⟨b, o, none⟩)), LV (.agg #[.string X.1, .string X.2]), LV (.agg #[.int .i64 1, .string X.1, .string X.2, .int .i64 0, .string ⟨#[]⟩, .string ⟨#[]⟩, .string ⟨#[]⟩, .string ⟨#[]⟩, .string ⟨#[]⟩, .slice none 0 0, .slice none 0 0]), LV (.slice (some ⟨b, o, none⟩) 2 c), LV (.pointer (some ⟨b, o + 2, none⟩)), LV (.agg #[.string Z.1, .string Z.2]), LV (.agg #[.int .i64 1, .string Z.1, .string Z.2, .int .i64 0, .string ⟨#[]⟩, .string ⟨#[]⟩, .string ⟨#[]⟩, .string ⟨#[]⟩, .string ⟨#[]⟩, .slice none 0 0, .slice none 0 0]), LTx, LTx]) (LR_mono ⟨mLV _, mLV _, mLV _, mLV _, mLV _, mLV _, mLV _, mLV _, mLTx, mLTx, trivial⟩) (by
  intro i j hi hj h
  exact inj_getD [9, 10, 11, 12, 13, 14, 15, 16, 2, 3] (by decide) i j hi hj h) (by
  intro i hi
  exact lt_getD 68 [9, 10, 11, 12, 13, 14, 15, 16, 2, 3] (by decide) i hi) [4, 5, 6] (by kernel_rfl) (fun s => [8].getD s 0) (fun s => [3].getD s 0) (by
  intro s hs
  exact lt_getD 10 [8] (by decide) s hs) (by
  intro s hs
  exact lt_getD 10 [3] (by decide) s hs) (by
  intro i j hi hj h
  exact inj_getD [8] (by decide) i j hi hj h) (by kernel_rfl) (by
  intro s hs
  exact match s, hs with | 0, _ => ⟨_, rfl, rfl, rfl, rfl⟩) (by
  intro s hs
  exact match s, hs with | 0, _ => fun _ _ _ _ h => h) (by
  intro s hs
  exact match s, hs with | 0, _ => fun _ _ _ _ h => ⟨[.int .i64 1, .string X.1, .string X.2, .int .i64 0, .string ⟨#[]⟩, .string ⟨#[]⟩, .string ⟨#[]⟩, .string ⟨#[]⟩, .string ⟨#[]⟩, .slice none 0 0, .slice none 0 0], h, rfl, by simp [Value.oneCell']⟩) ?step ?stepL ?done
 case step =>
  intro ii hii a w9 v lo hi' hoth hb hw
  have sl1 : a.tmps[1]? = some (.slice (some ⟨b, o, none⟩) 2 c) := (hoth 1 (fun j hj => ne_getD 1 _ (by decide) j hj)).trans rfl
  match ii, hii with
  | 0, _ =>
   exact gw_move rfl (wanted_plain rfl) 1 _ rfl sl1 ⟨_, rfl, Below.refl _ _, rfl⟩
  | 1, _ =>
   obtain ⟨s0, r0, _⟩ := hw 0 (by omega) (by kernel_rfl)
   have e0 : v 0 = .slice (some ⟨b, o, none⟩) 2 c := r0
   rw [e0] at s0
   replace s0 : a.tmps[9]? = some (.slice (some ⟨b, o, none⟩) 2 c) := s0
   refine wpOp_step rfl fun K' hK' => ?_
   rw [if_pos (wanted_plain rfl)]
   unfold Oper.wp
   simp only [execOp]
   go_simp
   exact hK' _ _ ⟨_, rfl, Below.refl _ _, rfl⟩
  | 2, _ =>
   obtain ⟨s0, r0, _⟩ := hw 1 (by omega) (by kernel_rfl)
   have e0 : v 1 = .pointer (some ⟨b, o, none⟩) := r0
   rw [e0] at s0
   replace s0 : a.tmps[10]? = some (.pointer (some ⟨b, o, none⟩)) := s0
   have cc0 := (hb.cell (p := ⟨b, o, none⟩) HLB.out).trans C0.out
   have cc1 := (hb.cell (p := ⟨b, o + 1, none⟩) HLB.out).trans C1.out
   refine wpOp_step rfl fun K' hK' => ?_
   rw [if_pos (wanted_plain rfl)]
   unfold Oper.wp
   simp only [execOp]
   go_simp
   exact hK' _ _ ⟨_, rfl, Below.refl _ _, rfl⟩
  | 3, _ =>
   obtain ⟨s0, r0, _⟩ := hw 2 (by omega) (by kernel_rfl)
   have e0 : v 2 = .agg #[.string X.1, .string X.2] := r0
   rw [e0] at s0
   replace s0 : a.tmps[11]? = some (.agg #[.string X.1, .string X.2]) := s0
   refine gw_t rfl (wanted_plain rfl) 23 11 _ _ rfl (fun v w => by go_simp) s0 ?_
   with_reducible refine (varLit X w9).mono ?_
   rintro e w3 ⟨rfl, hb3⟩
   exact ⟨_, rfl, _, rfl, hb3, rfl⟩
  | 4, _ =>
   exact gw_move rfl (wanted_plain rfl) 1 _ rfl sl1 ⟨_, rfl, Below.refl _ _, rfl⟩
  | 5, _ =>
   obtain ⟨s0, r0, _⟩ := hw 4 (by omega) (by kernel_rfl)
   have e0 : v 4 = .slice (some ⟨b, o, none⟩) 2 c := r0
   rw [e0] at s0
   replace s0 : a.tmps[13]? = some (.slice (some ⟨b, o, none⟩) 2 c) := s0
   refine wpOp_step rfl fun K' hK' => ?_
   rw [if_pos (wanted_plain rfl)]
   unfold Oper.wp
   simp only [execOp]
   go_simp
   exact hK' _ _ ⟨_, rfl, Below.refl _ _, rfl⟩
  | 6, _ =>
   obtain ⟨s0, r0, _⟩ := hw 5 (by omega) (by kernel_rfl)
   have e0 : v 5 = .pointer (some ⟨b, o + 2, none⟩) := r0
   rw [e0] at s0
   replace s0 : a.tmps[14]? = some (.pointer (some ⟨b, o + 2, none⟩)) := s0
   have cc0 := (hb.cell (p := ⟨b, o + 2, none⟩) HLB.out).trans C2.out
   have cc1 := (hb.cell (p := ⟨b, o + 3, none⟩) HLB.out).trans C3.out
   refine wpOp_step rfl fun K' hK' => ?_
   rw [if_pos (wanted_plain rfl)]
   unfold Oper.wp
   simp only [execOp]
   go_simp
   exact hK' _ _ ⟨_, rfl, Below.refl _ _, rfl⟩
  | 7, _ =>
   obtain ⟨s0, r0, _⟩ := hw 6 (by omega) (by kernel_rfl)
   have e0 : v 6 = .agg #[.string Z.1, .string Z.2] := r0
   rw [e0] at s0
   replace s0 : a.tmps[15]? = some (.agg #[.string Z.1, .string Z.2]) := s0
   refine gw_t rfl (wanted_plain rfl) 23 15 _ _ rfl (fun v w => by go_simp) s0 ?_
   with_reducible refine (varLit Z w9).mono ?_
   rintro e w3 ⟨rfl, hb3⟩
   exact ⟨_, rfl, _, rfl, hb3, rfl⟩
  | 8, _ =>
   refine wpOp_step rfl fun K' hK' => ?_
   rw [if_pos (wanted_plain rfl)]
   unfold Oper.wp
   simp only [execOp]
   go_simp
   exact hK' _ _ ⟨_, rfl, below_alT _ _, rfl, heap_alloc_new _ _, by simp⟩
  | 9, _ =>
   refine wpOp_step rfl fun K' hK' => ?_
   rw [if_pos (wanted_plain rfl)]
   unfold Oper.wp
   simp only [execOp]
   go_simp
   exact hK' _ _ ⟨_, rfl, below_alT _ _, rfl, heap_alloc_new _ _, by simp⟩
 case stepL =>
  intro ii hii hl a w1 w9 v lo hi' hoth hb0 hbk hsz hw
  have hb := BlkB.of hb0 hbk hsz
  have sl1 : a.tmps[1]? = some (.slice (some ⟨b, o, none⟩) 2 c) := (hoth 1 (fun j hj => ne_getD 1 _ (by decide) j hj)).trans rfl
  match ii, hii with
  | 0, _ => exact absurd hl (by decide)
  | 1, _ => exact absurd hl (by decide)
  | 2, _ => exact absurd hl (by decide)
  | 3, _ => exact absurd hl (by decide)
  | 4, _ =>
   exact gw_move rfl (wanted_plain rfl) 1 _ rfl sl1 ⟨_, _, rfl, .inl ⟨rfl, rfl⟩, rfl⟩
  | 5, _ =>
   obtain ⟨s0, r0⟩ := hw 4 (by omega) (by kernel_rfl)
   have e0 : v 4 = .slice (some ⟨b, o, none⟩) 2 c := r0
   rw [e0] at s0
   replace s0 : a.tmps[13]? = some (.slice (some ⟨b, o, none⟩) 2 c) := s0
   refine wpOp_step rfl fun K' hK' => ?_
   rw [if_pos (wanted_plain rfl)]
   unfold Oper.wp
   simp only [execOp]
   go_simp
   exact hK' _ _ ⟨_, _, rfl, .inl ⟨rfl, rfl⟩, rfl⟩
  | 6, _ =>
   obtain ⟨s0, r0⟩ := hw 5 (by omega) (by kernel_rfl)
   have e0 : v 5 = .pointer (some ⟨b, o + 2, none⟩) := r0
   rw [e0] at s0
   replace s0 : a.tmps[14]? = some (.pointer (some ⟨b, o + 2, none⟩)) := s0
   have cc0 := (hb.cell (p := ⟨b, o + 2, none⟩) HLB.out).trans C2.out
   have cc1 := (hb.cell (p := ⟨b, o + 3, none⟩) HLB.out).trans C3.out
   refine wpOp_step rfl fun K' hK' => ?_
   rw [if_pos (wanted_plain rfl)]
   unfold Oper.wp
   simp only [execOp]
   go_simp
   exact hK' _ _ ⟨_, _, rfl, .inl ⟨rfl, rfl⟩, rfl⟩
  | 7, _ => exact absurd hl (by decide)
  | 8, _ => exact absurd hl (by decide)
  | 9, _ => exact absurd hl (by decide)
 case done =>
  intro a w9 v lo hi' css hdef hsz hoth hb hj hap hbx hvs
  obtain ⟨hv8, hbx0⟩ := hbx 0 (by omega)
  obtain ⟨hv3, ho0⟩ := hvs 0 (by omega)
  change v 8 = _ at hv8
  change v 3 = _ at hv3
  obtain ⟨_, hv7, _, _⟩ := hj 7 (by omega)
  change v 7 = _ at hv7
  obtain ⟨_, ⟨hv8b, hbx8, hlt8⟩, hlo8, hhi8⟩ := hj 8 (by omega)
  obtain ⟨_, ⟨hv9, hbx9, hlt9⟩, hlo9, hhi9⟩ := hj 9 (by omega)
  have ha := eq_puts hdef hsz hoth (fun i hi => (hj i hi).1)
  subst ha
  have hc0 : css 0 = [.int .i64 1, .string X.1, .string X.2, .int .i64 0, .string ⟨#[]⟩, .string ⟨#[]⟩, .string ⟨#[]⟩, .string ⟨#[]⟩, .string ⟨#[]⟩, .slice none 0 0, .slice none 0 0] := vTm_inj (hv3.symm.trans (hj 3 (by omega)).2.1)
  clear hj hoth hdef hsz
  simp only [puts, List.getD_cons_zero, List.getD_cons_succ, hv8, hv3, hv7, hv9]
  generalize v 0 = v0
  generalize v 1 = v1
  generalize v 2 = v2
  generalize v 4 = v4
  generalize v 5 = v5
  generalize v 6 = v6
  simp only [Act.put, List.setIfInBounds_toArray, List.set_cons_zero, List.set_cons_succ]
  show wpList _ _ _ [_] _ _
  have hW : stW (stT lo (fun s => [8].getD s 0) css) w9 1 = w9.setRow (lo 8) (css 0).toArray := rfl
  rw [hW, hc0]
  have hap8 := hap 8 9 (by omega) (by omega) (by omega)
  have hne8 : lo 8 ≠ lo 9 := by omega
  have hs1 := HB.out.size
  have glx : w1.heap.size ≤ lo 8 := hlo8
  have glz : w1.heap.size ≤ lo 9 := hlo9
  change TB w9 (lo 8) zT at hbx0
  clear hap hv8b ho0
  generalize lo 8 = gx at *
  generalize lo 9 = gz at *
  have T1 : Hid (TB (w9.setRow gx [.int .i64 1, .string X.1, .string X.2, .int .i64 0, .string ⟨#[]⟩, .string ⟨#[]⟩, .string ⟨#[]⟩, .string ⟨#[]⟩, .string ⟨#[]⟩, .slice none 0 0, .slice none 0 0].toArray) gx [.int .i64 1, .string X.1, .string X.2, .int .i64 0, .string ⟨#[]⟩, .string ⟨#[]⟩, .string ⟨#[]⟩, .string ⟨#[]⟩, .string ⟨#[]⟩, .slice none 0 0, .slice none 0 0]) := hbx0.set _
  have T2 : Hid (TB (w9.setRow gx [.int .i64 1, .string X.1, .string X.2, .int .i64 0, .string ⟨#[]⟩, .string ⟨#[]⟩, .string ⟨#[]⟩, .string ⟨#[]⟩, .string ⟨#[]⟩, .slice none 0 0, .slice none 0 0].toArray) gz zT) := hbx9.other (fun e => hne8 e.symm)
  have hbX : Below w1.heap.size w1 ((w9.setRow gx [.int .i64 1, .string X.1, .string X.2, .int .i64 0, .string ⟨#[]⟩, .string ⟨#[]⟩, .string ⟨#[]⟩, .string ⟨#[]⟩, .string ⟨#[]⟩, .slice none 0 0, .slice none 0 0].toArray).setRow gz [.int .i64 1, .string Z.1, .string Z.2, .int .i64 0, .string ⟨#[]⟩, .string ⟨#[]⟩, .string ⟨#[]⟩, .string ⟨#[]⟩, .string ⟨#[]⟩, .slice none 0 0, .slice none 0 0].toArray) := below_setRowO (below_setRowO hb glx _) glz _
  have BX : Hid (TB ((w9.setRow gx [.int .i64 1, .string X.1, .string X.2, .int .i64 0, .string ⟨#[]⟩, .string ⟨#[]⟩, .string ⟨#[]⟩, .string ⟨#[]⟩, .string ⟨#[]⟩, .slice none 0 0, .slice none 0 0].toArray).setRow gz [.int .i64 1, .string Z.1, .string Z.2, .int .i64 0, .string ⟨#[]⟩, .string ⟨#[]⟩, .string ⟨#[]⟩, .string ⟨#[]⟩, .string ⟨#[]⟩, .slice none 0 0, .slice none 0 0].toArray) gx [.int .i64 1, .string X.1, .string X.2, .int .i64 0, .string ⟨#[]⟩, .string ⟨#[]⟩, .string ⟨#[]⟩, .string ⟨#[]⟩, .string ⟨#[]⟩, .slice none 0 0, .slice none 0 0]) := T1.out.other hne8
  have BZ : Hid (TB ((w9.setRow gx [.int .i64 1, .string X.1, .string X.2, .int .i64 0, .string ⟨#[]⟩, .string ⟨#[]⟩, .string ⟨#[]⟩, .string ⟨#[]⟩, .string ⟨#[]⟩, .slice none 0 0, .slice none 0 0].toArray).setRow gz [.int .i64 1, .string Z.1, .string Z.2, .int .i64 0, .string ⟨#[]⟩, .string ⟨#[]⟩, .string ⟨#[]⟩, .string ⟨#[]⟩, .string ⟨#[]⟩, .slice none 0 0, .slice none 0 0].toArray) gz [.int .i64 1, .string Z.1, .string Z.2, .int .i64 0, .string ⟨#[]⟩, .string ⟨#[]⟩, .string ⟨#[]⟩, .string ⟨#[]⟩, .string ⟨#[]⟩, .slice none 0 0, .slice none 0 0]) := T2.out.set _
  have HB2 : Hid (Below w1.heap.size w1 ((w9.setRow gx [.int .i64 1, .string X.1, .string X.2, .int .i64 0, .string ⟨#[]⟩, .string ⟨#[]⟩, .string ⟨#[]⟩, .string ⟨#[]⟩, .string ⟨#[]⟩, .slice none 0 0, .slice none 0 0].toArray).setRow gz [.int .i64 1, .string Z.1, .string Z.2, .int .i64 0, .string ⟨#[]⟩, .string ⟨#[]⟩, .string ⟨#[]⟩, .string ⟨#[]⟩, .string ⟨#[]⟩, .slice none 0 0, .slice none 0 0].toArray)) := hbX
  clear hap8 hbx0 hbx8 hbx9 hlt8 hlt9 hhi8 hhi9 hlo8 hlo9 hb hbX hc0 hW T1
  go_wp2_with ((with_reducible refine storeTb (cs := [.int .i64 1, .string Z.1, .string Z.2, .int .i64 0, .string ⟨#[]⟩, .string ⟨#[]⟩, .string ⟨#[]⟩, .string ⟨#[]⟩, .string ⟨#[]⟩, .slice none 0 0, .slice none 0 0]) (.tmp 3) (.tmp 16) ?_ ?_ ?_ ?_ T2.out ?_ ?_ ?_ ?_); rfl; rfl; rfl; rfl; rfl; rfl; exact (by simp [Value.oneCell']))
  clear T2
  generalize (w9.setRow gx [.int .i64 1, .string X.1, .string X.2, .int .i64 0, .string ⟨#[]⟩, .string ⟨#[]⟩, .string ⟨#[]⟩, .string ⟨#[]⟩, .string ⟨#[]⟩, .slice none 0 0, .slice none 0 0].toArray).setRow gz [.int .i64 1, .string Z.1, .string Z.2, .int .i64 0, .string ⟨#[]⟩, .string ⟨#[]⟩, .string ⟨#[]⟩, .string ⟨#[]⟩, .string ⟨#[]⟩, .slice none 0 0, .slice none 0 0].toArray = X2 at *
  have HWW : Hid (w.heap.size ≤ X2.heap.size) := Nat.le_trans hs1 HB2.out.size
  have HBW : Hid (Below w.heap.size w X2) := HB.out.trans (HB2.out.mono hs1)
  replace C0 := hI ((HB2.out.cell (p := ⟨b, o, none⟩) HLB.out).trans C0.out)
  replace C1 := hI ((HB2.out.cell (p := ⟨b, o + 1, none⟩) HLB.out).trans C1.out)
  replace C2 := hI ((HB2.out.cell (p := ⟨b, o + 2, none⟩) HLB.out).trans C2.out)
  replace C3 := hI ((HB2.out.cell (p := ⟨b, o + 3, none⟩) HLB.out).trans C3.out)
  replace HLB := hI (Nat.lt_of_lt_of_le HLB.out HB2.out.size)
  have HGX : Hid (w.heap.size ≤ gx) := Nat.le_trans hs1 glx
  have HGZ : Hid (w.heap.size ≤ gz) := Nat.le_trans hs1 glz
  have HNE := hI hne8
  clear HB2 HB glx glz hs1 hne8
  refine wp_region_grow (l := _) 6 (by kernel_rfl) (by kernel_rfl) (fun i => [17, 18, 19, 20, 21, 4].getD i 0) (LR [LV (.agg #[.string (uN ⟨#[102]⟩).1, .string (uN ⟨#[102]⟩).2]), LV (.agg #[.int .i64 1, .string X.1, .string X.2, .int .i64 0, .string ⟨#[]⟩, .string ⟨#[]⟩, .string ⟨#[]⟩, .string ⟨#[]⟩, .string ⟨#[]⟩, .slice none 0 0, .slice none 0 0]), LV (.agg #[.int .i64 1, .string Z.1, .string Z.2, .int .i64 0, .string ⟨#[]⟩, .string ⟨#[]⟩, .string ⟨#[]⟩, .string ⟨#[]⟩, .string ⟨#[]⟩, .slice none 0 0, .slice none 0 0]), LT2 X Z, LTm w NoB (.app (uN ⟨#[102]⟩) [.var X, .var Z]), LTx]) (LR_mono ⟨mLV _, mLV _, mLV _, mLT2 X Z, mLTm (NoB.in _) _, mLTx, trivial⟩) (by
   intro i j hi hj h
   exact inj_getD [17, 18, 19, 20, 21, 4] (by decide) i j hi hj h) (by
   intro i hi
   exact lt_getD 68 [17, 18, 19, 20, 21, 4] (by decide) i hi) ?step ?done
  case step =>
   intro ii hii a w9 v lo hi' hoth hb hw
   have sl2 : a.tmps[2]? = some (.pointer (some ⟨gx, 0, none⟩)) := (hoth 2 (fun j hj => ne_getD 2 _ (by decide) j hj)).trans rfl
   have sl3 : a.tmps[3]? = some (.pointer (some ⟨gz, 0, none⟩)) := (hoth 3 (fun j hj => ne_getD 3 _ (by decide) j hj)).trans rfl
   match ii, hii with
   | 0, _ =>
    refine gw_c rfl (wanted_plain rfl) 51  _ _ rfl (fun v w => by go_simp)  ?_
    with_reducible refine (userO ⟨#[102]⟩ w9).mono ?_
    rintro e w3 ⟨rfl, hb3⟩
    exact ⟨_, rfl, _, rfl, hb3, rfl⟩
   | 1, _ =>
    have cx0 := (hb.cell (p := ⟨gx, 0 + 0, none⟩) BX.out.lt).trans (BX.out.cell 0 _ rfl)
    have cx1 := (hb.cell (p := ⟨gx, 0 + 1, none⟩) BX.out.lt).trans (BX.out.cell 1 _ rfl)
    have cx2 := (hb.cell (p := ⟨gx, 0 + 2, none⟩) BX.out.lt).trans (BX.out.cell 2 _ rfl)
    have cx3 := (hb.cell (p := ⟨gx, 0 + 3, none⟩) BX.out.lt).trans (BX.out.cell 3 _ rfl)
    have cx4 := (hb.cell (p := ⟨gx, 0 + 4, none⟩) BX.out.lt).trans (BX.out.cell 4 _ rfl)
    have cx5 := (hb.cell (p := ⟨gx, 0 + 5, none⟩) BX.out.lt).trans (BX.out.cell 5 _ rfl)
    have cx6 := (hb.cell (p := ⟨gx, 0 + 6, none⟩) BX.out.lt).trans (BX.out.cell 6 _ rfl)
    have cx7 := (hb.cell (p := ⟨gx, 0 + 7, none⟩) BX.out.lt).trans (BX.out.cell 7 _ rfl)
    have cx8 := (hb.cell (p := ⟨gx, 0 + 8, none⟩) BX.out.lt).trans (BX.out.cell 8 _ rfl)
    have cx9 := (hb.cell (p := ⟨gx, 0 + 9, none⟩) BX.out.lt).trans (BX.out.cell 9 _ rfl)
    have cx10 := (hb.cell (p := ⟨gx, 0 + 10, none⟩) BX.out.lt).trans (BX.out.cell 10 _ rfl)
    refine wpOp_step rfl fun K' hK' => ?_
    rw [if_pos (wanted_plain rfl)]
    unfold Oper.wp
    simp only [execOp]
    go_simp
    exact hK' _ _ ⟨_, rfl, Below.refl _ _, rfl⟩
   | 2, _ =>
    have cz0 := (hb.cell (p := ⟨gz, 0 + 0, none⟩) BZ.out.lt).trans (BZ.out.cell 0 _ rfl)
    have cz1 := (hb.cell (p := ⟨gz, 0 + 1, none⟩) BZ.out.lt).trans (BZ.out.cell 1 _ rfl)
    have cz2 := (hb.cell (p := ⟨gz, 0 + 2, none⟩) BZ.out.lt).trans (BZ.out.cell 2 _ rfl)
    have cz3 := (hb.cell (p := ⟨gz, 0 + 3, none⟩) BZ.out.lt).trans (BZ.out.cell 3 _ rfl)
    have cz4 := (hb.cell (p := ⟨gz, 0 + 4, none⟩) BZ.out.lt).trans (BZ.out.cell 4 _ rfl)
    have cz5 := (hb.cell (p := ⟨gz, 0 + 5, none⟩) BZ.out.lt).trans (BZ.out.cell 5 _ rfl)
    have cz6 := (hb.cell (p := ⟨gz, 0 + 6, none⟩) BZ.out.lt).trans (BZ.out.cell 6 _ rfl)
    have cz7 := (hb.cell (p := ⟨gz, 0 + 7, none⟩) BZ.out.lt).trans (BZ.out.cell 7 _ rfl)
    have cz8 := (hb.cell (p := ⟨gz, 0 + 8, none⟩) BZ.out.lt).trans (BZ.out.cell 8 _ rfl)
    have cz9 := (hb.cell (p := ⟨gz, 0 + 9, none⟩) BZ.out.lt).trans (BZ.out.cell 9 _ rfl)
    have cz10 := (hb.cell (p := ⟨gz, 0 + 10, none⟩) BZ.out.lt).trans (BZ.out.cell 10 _ rfl)
    refine wpOp_step rfl fun K' hK' => ?_
    rw [if_pos (wanted_plain rfl)]
    unfold Oper.wp
    simp only [execOp]
    go_simp
    exact hK' _ _ ⟨_, rfl, Below.refl _ _, rfl⟩
   | 3, _ =>
    obtain ⟨s0, r0, _⟩ := hw 1 (by omega) (by kernel_rfl)
    have e0 : v 1 = .agg #[.int .i64 1, .string X.1, .string X.2, .int .i64 0, .string ⟨#[]⟩, .string ⟨#[]⟩, .string ⟨#[]⟩, .string ⟨#[]⟩, .string ⟨#[]⟩, .slice none 0 0, .slice none 0 0] := r0
    rw [e0] at s0
    replace s0 : a.tmps[18]? = some (.agg #[.int .i64 1, .string X.1, .string X.2, .int .i64 0, .string ⟨#[]⟩, .string ⟨#[]⟩, .string ⟨#[]⟩, .string ⟨#[]⟩, .string ⟨#[]⟩, .slice none 0 0, .slice none 0 0]) := s0
    obtain ⟨s1, r1, _⟩ := hw 2 (by omega) (by kernel_rfl)
    have e1 : v 2 = .agg #[.int .i64 1, .string Z.1, .string Z.2, .int .i64 0, .string ⟨#[]⟩, .string ⟨#[]⟩, .string ⟨#[]⟩, .string ⟨#[]⟩, .string ⟨#[]⟩, .slice none 0 0, .slice none 0 0] := r1
    rw [e1] at s1
    replace s1 : a.tmps[19]? = some (.agg #[.int .i64 1, .string Z.1, .string Z.2, .int .i64 0, .string ⟨#[]⟩, .string ⟨#[]⟩, .string ⟨#[]⟩, .string ⟨#[]⟩, .string ⟨#[]⟩, .slice none 0 0, .slice none 0 0]) := s1
    refine wpOp_step rfl fun K' hK' => ?_
    rw [if_pos (wanted_plain rfl)]
    unfold Oper.wp
    simp only [execOp]
    go_simp
    exact hK' _ _ ⟨_, rfl, below_alT _ _, rfl, heap_alloc_new _ _, by simp⟩
   | 4, _ =>
    obtain ⟨s0, r0, _⟩ := hw 0 (by omega) (by kernel_rfl)
    have e0 : v 0 = .agg #[.string (uN ⟨#[102]⟩).1, .string (uN ⟨#[102]⟩).2] := r0
    rw [e0] at s0
    replace s0 : a.tmps[17]? = some (.agg #[.string (uN ⟨#[102]⟩).1, .string (uN ⟨#[102]⟩).2]) := s0
    obtain ⟨s1, r1, b1⟩ := hw 3 (by omega) (by kernel_rfl)
    obtain ⟨e1, hr1, hl1⟩ := r1
    rw [e1] at s1
    have hww := HWW.out
    have hbs := hb.size
    have CC := appP (uN ⟨#[102]⟩) [.var X, .var Z] (.slice (some ⟨lo 3, 0, none⟩) 2 2) w9 (Upto w w9 NoB) ((NoB.in w).upto (by omega)) ((ts2 hr1).more fun b hb0 => .inr ⟨by omega, by omega⟩) (by show 2 ≤ 3000; decide)
    refine gw_tt rfl (wanted_plain rfl) 27 17 20 _ _ _ rfl (fun v u w => by go_simp) s0 s1 ?_
    with_reducible refine (CC).mono ?_
    rintro e w3 ⟨cs3, rfl, h3, hb3⟩
    exact ⟨_, rfl, _, rfl, hb3, by have := hb3.size; omega, cs3, rfl, h3.more (fun b hb0 => upto_two (by omega) hb3.size b hb0)⟩
   | 5, _ =>
    refine wpOp_step rfl fun K' hK' => ?_
    rw [if_pos (wanted_plain rfl)]
    unfold Oper.wp
    simp only [execOp]
    go_simp
    exact hK' _ _ ⟨_, rfl, below_alT _ _, rfl, heap_alloc_new _ _, by simp⟩
  case done =>
   intro a w9 v lo hi' hdef hsz hoth hb hj hap
   obtain ⟨_, ⟨hz4, cst, hv4, ht4⟩, hlo4, hhi4⟩ := hj 4 (by omega)
   obtain ⟨_, ⟨hv5, hbx5, hlt5⟩, hlo5, hhi5⟩ := hj 5 (by omega)
   have ha := eq_puts hdef hsz hoth (fun i hi => (hj i hi).1)
   subst ha
   clear hj hoth hdef hsz hap
   simp only [puts, List.getD_cons_zero, List.getD_cons_succ, hv4, hv5]
   generalize v 0 = v0
   generalize v 1 = v1
   generalize v 2 = v2
   generalize v 3 = v3
   clear hv4 hv5
   simp only [Act.put, List.setIfInBounds_toArray, List.set_cons_zero, List.set_cons_succ]
   show wpList _ _ _ [_] _ _
   have HB9 := hI hb
   have glt : X2.heap.size ≤ lo 5 := hlo5
   generalize lo 5 = gt at *
   have h3 := ht4
   unfold TmAt at ht4
   obtain ⟨A2, c2, ecs, hlc4, _⟩ := ht4
   have ecs2 : cst = [.int .i64 3, .string (uN ⟨#[102]⟩).1, .string (uN ⟨#[102]⟩).2, .int .i64 0, .string ⟨#[]⟩, .string ⟨#[]⟩, .string ⟨#[]⟩, .string ⟨#[]⟩, .string ⟨#[]⟩, .slice none 0 0, .slice A2 2 c2] := ecs
   subst ecs2
   have BX9 := hI (BX.out.keep hb)
   have BZ9 := hI (BZ.out.keep hb)
   have B5 := hI hbx5
   have HT : Hid (TmAt (w9.setRow gt [.int .i64 3, .string (uN ⟨#[102]⟩).1, .string (uN ⟨#[102]⟩).2, .int .i64 0, .string ⟨#[]⟩, .string ⟨#[]⟩, .string ⟨#[]⟩, .string ⟨#[]⟩, .string ⟨#[]⟩, .slice none 0 0, .slice A2 2 c2].toArray) (Upto w (w9.setRow gt [.int .i64 3, .string (uN ⟨#[102]⟩).1, .string (uN ⟨#[102]⟩).2, .int .i64 0, .string ⟨#[]⟩, .string ⟨#[]⟩, .string ⟨#[]⟩, .string ⟨#[]⟩, .string ⟨#[]⟩, .slice none 0 0, .slice A2 2 c2].toArray) NoB) (.app (uN ⟨#[102]⟩) [.var X, .var Z]) [.int .i64 3, .string (uN ⟨#[102]⟩).1, .string (uN ⟨#[102]⟩).2, .int .i64 0, .string ⟨#[]⟩, .string ⟨#[]⟩, .string ⟨#[]⟩, .string ⟨#[]⟩, .string ⟨#[]⟩, .slice none 0 0, .slice A2 2 c2]) := TmAt.boxed h3 hbx5.nb _
   have BT : Hid (TB (w9.setRow gt [.int .i64 3, .string (uN ⟨#[102]⟩).1, .string (uN ⟨#[102]⟩).2, .int .i64 0, .string ⟨#[]⟩, .string ⟨#[]⟩, .string ⟨#[]⟩, .string ⟨#[]⟩, .string ⟨#[]⟩, .slice none 0 0, .slice A2 2 c2].toArray) gt [.int .i64 3, .string (uN ⟨#[102]⟩).1, .string (uN ⟨#[102]⟩).2, .int .i64 0, .string ⟨#[]⟩, .string ⟨#[]⟩, .string ⟨#[]⟩, .string ⟨#[]⟩, .string ⟨#[]⟩, .slice none 0 0, .slice A2 2 c2]) := hbx5.set _
   have BX3 : Hid (TB (w9.setRow gt [.int .i64 3, .string (uN ⟨#[102]⟩).1, .string (uN ⟨#[102]⟩).2, .int .i64 0, .string ⟨#[]⟩, .string ⟨#[]⟩, .string ⟨#[]⟩, .string ⟨#[]⟩, .string ⟨#[]⟩, .slice none 0 0, .slice A2 2 c2].toArray) gx [.int .i64 1, .string X.1, .string X.2, .int .i64 0, .string ⟨#[]⟩, .string ⟨#[]⟩, .string ⟨#[]⟩, .string ⟨#[]⟩, .string ⟨#[]⟩, .slice none 0 0, .slice none 0 0]) := BX9.out.other (fun e => by have := BX.out.lt; omega)
   have BZ3 : Hid (TB (w9.setRow gt [.int .i64 3, .string (uN ⟨#[102]⟩).1, .string (uN ⟨#[102]⟩).2, .int .i64 0, .string ⟨#[]⟩, .string ⟨#[]⟩, .string ⟨#[]⟩, .string ⟨#[]⟩, .string ⟨#[]⟩, .slice none 0 0, .slice A2 2 c2].toArray) gz [.int .i64 1, .string Z.1, .string Z.2, .int .i64 0, .string ⟨#[]⟩, .string ⟨#[]⟩, .string ⟨#[]⟩, .string ⟨#[]⟩, .string ⟨#[]⟩, .slice none 0 0, .slice none 0 0]) := BZ9.out.other (fun e => by have := BZ.out.lt; omega)
   have HB3 : Hid (Below X2.heap.size X2 (w9.setRow gt [.int .i64 3, .string (uN ⟨#[102]⟩).1, .string (uN ⟨#[102]⟩).2, .int .i64 0, .string ⟨#[]⟩, .string ⟨#[]⟩, .string ⟨#[]⟩, .string ⟨#[]⟩, .string ⟨#[]⟩, .slice none 0 0, .slice A2 2 c2].toArray)) := below_setRowO hb glt _
   have ONE3 := hI h3.o11
   clear h3 hb hbx5 hlt5 hlo5 hhi5 hlo4 hhi4 hz4 ecs hlc4 BX9 BZ9 HB9
   go_wp2_with ((with_reducible refine storeTb (cs := [.int .i64 3, .string (uN ⟨#[102]⟩).1, .string (uN ⟨#[102]⟩).2, .int .i64 0, .string ⟨#[]⟩, .string ⟨#[]⟩, .string ⟨#[]⟩, .string ⟨#[]⟩, .string ⟨#[]⟩, .slice none 0 0, .slice A2 2 c2]) (.tmp 4) (.tmp 21) ?_ ?_ ?_ ?_ B5.out ?_ ?_ ?_ ?_); rfl; rfl; rfl; rfl; rfl; rfl; exact ONE3.out.2)
   generalize w9.setRow gt [.int .i64 3, .string (uN ⟨#[102]⟩).1, .string (uN ⟨#[102]⟩).2, .int .i64 0, .string ⟨#[]⟩, .string ⟨#[]⟩, .string ⟨#[]⟩, .string ⟨#[]⟩, .string ⟨#[]⟩, .slice none 0 0, .slice A2 2 c2].toArray = X3 at *
   replace C0 := hI ((HB3.out.cell (p := ⟨b, o, none⟩) HLB.out).trans C0.out)
   replace C1 := hI ((HB3.out.cell (p := ⟨b, o + 1, none⟩) HLB.out).trans C1.out)
   replace C2 := hI ((HB3.out.cell (p := ⟨b, o + 2, none⟩) HLB.out).trans C2.out)
   replace C3 := hI ((HB3.out.cell (p := ⟨b, o + 3, none⟩) HLB.out).trans C3.out)
   replace HLB := hI (Nat.lt_of_lt_of_le HLB.out HB3.out.size)
   replace HBW : Hid (Below w.heap.size w X3) := HBW.out.trans (HB3.out.mono HWW.out)
   have HGT : Hid (w.heap.size ≤ gt) := Nat.le_trans HWW.out glt
   replace HWW : Hid (w.heap.size ≤ X3.heap.size) := HBW.out.size
   replace BX := BX3
   replace BZ := BZ3
   clear BX3 BZ3 HB3 glt B5
   refine wp_region_grow (l := _) 14 (by kernel_rfl) (by kernel_rfl) (fun i => [22, 23, 24, 25, 26, 27, 28, 29, 30, 31, 32, 33, 34, 5].getD i 0) (LR [LV (.agg #[.int .i64 3, .string (uN ⟨#[102]⟩).1, .string (uN ⟨#[102]⟩).2, .int .i64 0, .string ⟨#[]⟩, .string ⟨#[]⟩, .string ⟨#[]⟩, .string ⟨#[]⟩, .string ⟨#[]⟩, .slice none 0 0, .slice A2 2 c2]), LV (.slice (some ⟨b, o, none⟩) 2 c), LV (.pointer (some ⟨b, o, none⟩)), LV (.agg #[.string X.1, .string X.2]), LV (.agg #[.int .i64 1, .string Z.1, .string Z.2, .int .i64 0, .string ⟨#[]⟩, .string ⟨#[]⟩, .string ⟨#[]⟩, .string ⟨#[]⟩, .string ⟨#[]⟩, .slice none 0 0, .slice none 0 0]), LV (.agg #[.string X.1, .string X.2, .int .i64 1, .string Z.1, .string Z.2, .int .i64 0, .string ⟨#[]⟩, .string ⟨#[]⟩, .string ⟨#[]⟩, .string ⟨#[]⟩, .string ⟨#[]⟩, .slice none 0 0, .slice none 0 0]), LV (.slice (some ⟨b, o, none⟩) 2 c), LV (.pointer (some ⟨b, o + 2, none⟩)), LV (.agg #[.string Z.1, .string Z.2]), LV (.agg #[.int .i64 1, .string X.1, .string X.2, .int .i64 0, .string ⟨#[]⟩, .string ⟨#[]⟩, .string ⟨#[]⟩, .string ⟨#[]⟩, .string ⟨#[]⟩, .slice none 0 0, .slice none 0 0]), LV (.agg #[.string Z.1, .string Z.2, .int .i64 1, .string X.1, .string X.2, .int .i64 0, .string ⟨#[]⟩, .string ⟨#[]⟩, .string ⟨#[]⟩, .string ⟨#[]⟩, .string ⟨#[]⟩, .slice none 0 0, .slice none 0 0]), LA2 X Z, LTm w NoB (subT [(X, .var Z), (Z, .var X)] (.app (uN ⟨#[102]⟩) [.var X, .var Z])), LTx]) (LR_mono ⟨mLV _, mLV _, mLV _, mLV _, mLV _, mLV _, mLV _, mLV _, mLV _, mLV _, mLV _, mLA2 X Z, mLTm (NoB.in _) _, mLTx, trivial⟩) (by
    intro i j hi hj h
    exact inj_getD [22, 23, 24, 25, 26, 27, 28, 29, 30, 31, 32, 33, 34, 5] (by decide) i j hi hj h) (by
    intro i hi
    exact lt_getD 68 [22, 23, 24, 25, 26, 27, 28, 29, 30, 31, 32, 33, 34, 5] (by decide) i hi) ?step ?done
   case step =>
    intro ii hii a w9 v lo hi' hoth hb hw
    have sl1 : a.tmps[1]? = some (.slice (some ⟨b, o, none⟩) 2 c) := (hoth 1 (fun j hj => ne_getD 1 _ (by decide) j hj)).trans rfl
    have sl2 : a.tmps[2]? = some (.pointer (some ⟨gx, 0, none⟩)) := (hoth 2 (fun j hj => ne_getD 2 _ (by decide) j hj)).trans rfl
    have sl3 : a.tmps[3]? = some (.pointer (some ⟨gz, 0, none⟩)) := (hoth 3 (fun j hj => ne_getD 3 _ (by decide) j hj)).trans rfl
    have sl4 : a.tmps[4]? = some (.pointer (some ⟨gt, 0, none⟩)) := (hoth 4 (fun j hj => ne_getD 4 _ (by decide) j hj)).trans rfl
    match ii, hii with
    | 0, _ =>
     have ct0 := (hb.cell (p := ⟨gt, 0 + 0, none⟩) BT.out.lt).trans (BT.out.cell 0 _ rfl)
     have ct1 := (hb.cell (p := ⟨gt, 0 + 1, none⟩) BT.out.lt).trans (BT.out.cell 1 _ rfl)
     have ct2 := (hb.cell (p := ⟨gt, 0 + 2, none⟩) BT.out.lt).trans (BT.out.cell 2 _ rfl)
     have ct3 := (hb.cell (p := ⟨gt, 0 + 3, none⟩) BT.out.lt).trans (BT.out.cell 3 _ rfl)
     have ct4 := (hb.cell (p := ⟨gt, 0 + 4, none⟩) BT.out.lt).trans (BT.out.cell 4 _ rfl)
     have ct5 := (hb.cell (p := ⟨gt, 0 + 5, none⟩) BT.out.lt).trans (BT.out.cell 5 _ rfl)
     have ct6 := (hb.cell (p := ⟨gt, 0 + 6, none⟩) BT.out.lt).trans (BT.out.cell 6 _ rfl)
     have ct7 := (hb.cell (p := ⟨gt, 0 + 7, none⟩) BT.out.lt).trans (BT.out.cell 7 _ rfl)
     have ct8 := (hb.cell (p := ⟨gt, 0 + 8, none⟩) BT.out.lt).trans (BT.out.cell 8 _ rfl)
     have ct9 := (hb.cell (p := ⟨gt, 0 + 9, none⟩) BT.out.lt).trans (BT.out.cell 9 _ rfl)
     have ct10 := (hb.cell (p := ⟨gt, 0 + 10, none⟩) BT.out.lt).trans (BT.out.cell 10 _ rfl)
     refine wpOp_step rfl fun K' hK' => ?_
     rw [if_pos (wanted_plain rfl)]
     unfold Oper.wp
     simp only [execOp]
     go_simp
     exact hK' _ _ ⟨_, rfl, Below.refl _ _, rfl⟩
    | 1, _ =>
     exact gw_move rfl (wanted_plain rfl) 1 _ rfl sl1 ⟨_, rfl, Below.refl _ _, rfl⟩
    | 2, _ =>
     obtain ⟨s0, r0, _⟩ := hw 1 (by omega) (by kernel_rfl)
     have e0 : v 1 = .slice (some ⟨b, o, none⟩) 2 c := r0
     rw [e0] at s0
     replace s0 : a.tmps[23]? = some (.slice (some ⟨b, o, none⟩) 2 c) := s0
     refine wpOp_step rfl fun K' hK' => ?_
     rw [if_pos (wanted_plain rfl)]
     unfold Oper.wp
     simp only [execOp]
     go_simp
     exact hK' _ _ ⟨_, rfl, Below.refl _ _, rfl⟩
    | 3, _ =>
     obtain ⟨s0, r0, _⟩ := hw 2 (by omega) (by kernel_rfl)
     have e0 : v 2 = .pointer (some ⟨b, o, none⟩) := r0
     rw [e0] at s0
     replace s0 : a.tmps[24]? = some (.pointer (some ⟨b, o, none⟩)) := s0
     have cc0 := (hb.cell (p := ⟨b, o, none⟩) HLB.out).trans C0.out
     have cc1 := (hb.cell (p := ⟨b, o + 1, none⟩) HLB.out).trans C1.out
     refine wpOp_step rfl fun K' hK' => ?_
     rw [if_pos (wanted_plain rfl)]
     unfold Oper.wp
     simp only [execOp]
     go_simp
     exact hK' _ _ ⟨_, rfl, Below.refl _ _, rfl⟩
    | 4, _ =>
     have cz0 := (hb.cell (p := ⟨gz, 0 + 0, none⟩) BZ.out.lt).trans (BZ.out.cell 0 _ rfl)
     have cz1 := (hb.cell (p := ⟨gz, 0 + 1, none⟩) BZ.out.lt).trans (BZ.out.cell 1 _ rfl)
     have cz2 := (hb.cell (p := ⟨gz, 0 + 2, none⟩) BZ.out.lt).trans (BZ.out.cell 2 _ rfl)
     have cz3 := (hb.cell (p := ⟨gz, 0 + 3, none⟩) BZ.out.lt).trans (BZ.out.cell 3 _ rfl)
     have cz4 := (hb.cell (p := ⟨gz, 0 + 4, none⟩) BZ.out.lt).trans (BZ.out.cell 4 _ rfl)
     have cz5 := (hb.cell (p := ⟨gz, 0 + 5, none⟩) BZ.out.lt).trans (BZ.out.cell 5 _ rfl)
     have cz6 := (hb.cell (p := ⟨gz, 0 + 6, none⟩) BZ.out.lt).trans (BZ.out.cell 6 _ rfl)
     have cz7 := (hb.cell (p := ⟨gz, 0 + 7, none⟩) BZ.out.lt).trans (BZ.out.cell 7 _ rfl)
     have cz8 := (hb.cell (p := ⟨gz, 0 + 8, none⟩) BZ.out.lt).trans (BZ.out.cell 8 _ rfl)
     have cz9 := (hb.cell (p := ⟨gz, 0 + 9, none⟩) BZ.out.lt).trans (BZ.out.cell 9 _ rfl)
     have cz10 := (hb.cell (p := ⟨gz, 0 + 10, none⟩) BZ.out.lt).trans (BZ.out.cell 10 _ rfl)
     refine wpOp_step rfl fun K' hK' => ?_
     rw [if_pos (wanted_plain rfl)]
     unfold Oper.wp
     simp only [execOp]
     go_simp
     exact hK' _ _ ⟨_, rfl, Below.refl _ _, rfl⟩
    | 5, _ =>
     obtain ⟨s0, r0, _⟩ := hw 3 (by omega) (by kernel_rfl)
     have e0 : v 3 = .agg #[.string X.1, .string X.2] := r0
     rw [e0] at s0
     replace s0 : a.tmps[25]? = some (.agg #[.string X.1, .string X.2]) := s0
     obtain ⟨s1, r1, _⟩ := hw 4 (by omega) (by kernel_rfl)
     have e1 : v 4 = .agg #[.int .i64 1, .string Z.1, .string Z.2, .int .i64 0, .string ⟨#[]⟩, .string ⟨#[]⟩, .string ⟨#[]⟩, .string ⟨#[]⟩, .string ⟨#[]⟩, .slice none 0 0, .slice none 0 0] := r1
     rw [e1] at s1
     replace s1 : a.tmps[26]? = some (.agg #[.int .i64 1, .string Z.1, .string Z.2, .int .i64 0, .string ⟨#[]⟩, .string ⟨#[]⟩, .string ⟨#[]⟩, .string ⟨#[]⟩, .string ⟨#[]⟩, .slice none 0 0, .slice none 0 0]) := s1
     refine wpOp_step rfl fun K' hK' => ?_
     rw [if_pos (wanted_plain rfl)]
     unfold Oper.wp
     simp only [execOp]
     go_simp
     exact hK' _ _ ⟨_, rfl, Below.refl _ _, rfl⟩
    | 6, _ =>
     exact gw_move rfl (wanted_plain rfl) 1 _ rfl sl1 ⟨_, rfl, Below.refl _ _, rfl⟩
    | 7, _ =>
     obtain ⟨s0, r0, _⟩ := hw 6 (by omega) (by kernel_rfl)
     have e0 : v 6 = .slice (some ⟨b, o, none⟩) 2 c := r0
     rw [e0] at s0
     replace s0 : a.tmps[28]? = some (.slice (some ⟨b, o, none⟩) 2 c) := s0
     refine wpOp_step rfl fun K' hK' => ?_
     rw [if_pos (wanted_plain rfl)]
     unfold Oper.wp
     simp only [execOp]
     go_simp
     exact hK' _ _ ⟨_, rfl, Below.refl _ _, rfl⟩
    | 8, _ =>
     obtain ⟨s0, r0, _⟩ := hw 7 (by omega) (by kernel_rfl)
     have e0 : v 7 = .pointer (some ⟨b, o + 2, none⟩) := r0
     rw [e0] at s0
     replace s0 : a.tmps[29]? = some (.pointer (some ⟨b, o + 2, none⟩)) := s0
     have cc0 := (hb.cell (p := ⟨b, o + 2, none⟩) HLB.out).trans C2.out
     have cc1 := (hb.cell (p := ⟨b, o + 3, none⟩) HLB.out).trans C3.out
     refine wpOp_step rfl fun K' hK' => ?_
     rw [if_pos (wanted_plain rfl)]
     unfold Oper.wp
     simp only [execOp]
     go_simp
     exact hK' _ _ ⟨_, rfl, Below.refl _ _, rfl⟩
    | 9, _ =>
     have cx0 := (hb.cell (p := ⟨gx, 0 + 0, none⟩) BX.out.lt).trans (BX.out.cell 0 _ rfl)
     have cx1 := (hb.cell (p := ⟨gx, 0 + 1, none⟩) BX.out.lt).trans (BX.out.cell 1 _ rfl)
     have cx2 := (hb.cell (p := ⟨gx, 0 + 2, none⟩) BX.out.lt).trans (BX.out.cell 2 _ rfl)
     have cx3 := (hb.cell (p := ⟨gx, 0 + 3, none⟩) BX.out.lt).trans (BX.out.cell 3 _ rfl)
     have cx4 := (hb.cell (p := ⟨gx, 0 + 4, none⟩) BX.out.lt).trans (BX.out.cell 4 _ rfl)
     have cx5 := (hb.cell (p := ⟨gx, 0 + 5, none⟩) BX.out.lt).trans (BX.out.cell 5 _ rfl)
     have cx6 := (hb.cell (p := ⟨gx, 0 + 6, none⟩) BX.out.lt).trans (BX.out.cell 6 _ rfl)
     have cx7 := (hb.cell (p := ⟨gx, 0 + 7, none⟩) BX.out.lt).trans (BX.out.cell 7 _ rfl)
     have cx8 := (hb.cell (p := ⟨gx, 0 + 8, none⟩) BX.out.lt).trans (BX.out.cell 8 _ rfl)
     have cx9 := (hb.cell (p := ⟨gx, 0 + 9, none⟩) BX.out.lt).trans (BX.out.cell 9 _ rfl)
     have cx10 := (hb.cell (p := ⟨gx, 0 + 10, none⟩) BX.out.lt).trans (BX.out.cell 10 _ rfl)
     refine wpOp_step rfl fun K' hK' => ?_
     rw [if_pos (wanted_plain rfl)]
     unfold Oper.wp
     simp only [execOp]
     go_simp
     exact hK' _ _ ⟨_, rfl, Below.refl _ _, rfl⟩
    | 10, _ =>
     obtain ⟨s0, r0, _⟩ := hw 8 (by omega) (by kernel_rfl)
     have e0 : v 8 = .agg #[.string Z.1, .string Z.2] := r0
     rw [e0] at s0
     replace s0 : a.tmps[30]? = some (.agg #[.string Z.1, .string Z.2]) := s0
     obtain ⟨s1, r1, _⟩ := hw 9 (by omega) (by kernel_rfl)
     have e1 : v 9 = .agg #[.int .i64 1, .string X.1, .string X.2, .int .i64 0, .string ⟨#[]⟩, .string ⟨#[]⟩, .string ⟨#[]⟩, .string ⟨#[]⟩, .string ⟨#[]⟩, .slice none 0 0, .slice none 0 0] := r1
     rw [e1] at s1
     replace s1 : a.tmps[31]? = some (.agg #[.int .i64 1, .string X.1, .string X.2, .int .i64 0, .string ⟨#[]⟩, .string ⟨#[]⟩, .string ⟨#[]⟩, .string ⟨#[]⟩, .string ⟨#[]⟩, .slice none 0 0, .slice none 0 0]) := s1
     refine wpOp_step rfl fun K' hK' => ?_
     rw [if_pos (wanted_plain rfl)]
     unfold Oper.wp
     simp only [execOp]
     go_simp
     exact hK' _ _ ⟨_, rfl, Below.refl _ _, rfl⟩
    | 11, _ =>
     obtain ⟨s0, r0, _⟩ := hw 5 (by omega) (by kernel_rfl)
     have e0 : v 5 = .agg #[.string X.1, .string X.2, .int .i64 1, .string Z.1, .string Z.2, .int .i64 0, .string ⟨#[]⟩, .string ⟨#[]⟩, .string ⟨#[]⟩, .string ⟨#[]⟩, .string ⟨#[]⟩, .slice none 0 0, .slice none 0 0] := r0
     rw [e0] at s0
     replace s0 : a.tmps[27]? = some (.agg #[.string X.1, .string X.2, .int .i64 1, .string Z.1, .string Z.2, .int .i64 0, .string ⟨#[]⟩, .string ⟨#[]⟩, .string ⟨#[]⟩, .string ⟨#[]⟩, .string ⟨#[]⟩, .slice none 0 0, .slice none 0 0]) := s0
     obtain ⟨s1, r1, _⟩ := hw 10 (by omega) (by kernel_rfl)
     have e1 : v 10 = .agg #[.string Z.1, .string Z.2, .int .i64 1, .string X.1, .string X.2, .int .i64 0, .string ⟨#[]⟩, .string ⟨#[]⟩, .string ⟨#[]⟩, .string ⟨#[]⟩, .string ⟨#[]⟩, .slice none 0 0, .slice none 0 0] := r1
     rw [e1] at s1
     replace s1 : a.tmps[32]? = some (.agg #[.string Z.1, .string Z.2, .int .i64 1, .string X.1, .string X.2, .int .i64 0, .string ⟨#[]⟩, .string ⟨#[]⟩, .string ⟨#[]⟩, .string ⟨#[]⟩, .string ⟨#[]⟩, .slice none 0 0, .slice none 0 0]) := s1
     refine wpOp_step rfl fun K' hK' => ?_
     rw [if_pos (wanted_plain rfl)]
     unfold Oper.wp
     simp only [execOp]
     go_simp
     exact hK' _ _ ⟨_, rfl, below_alT _ _, rfl, heap_alloc_new _ _, by simp⟩
    | 12, _ =>
     obtain ⟨s0, r0, _⟩ := hw 0 (by omega) (by kernel_rfl)
     have e0 : v 0 = .agg #[.int .i64 3, .string (uN ⟨#[102]⟩).1, .string (uN ⟨#[102]⟩).2, .int .i64 0, .string ⟨#[]⟩, .string ⟨#[]⟩, .string ⟨#[]⟩, .string ⟨#[]⟩, .string ⟨#[]⟩, .slice none 0 0, .slice A2 2 c2] := r0
     rw [e0] at s0
     replace s0 : a.tmps[22]? = some (.agg #[.int .i64 3, .string (uN ⟨#[102]⟩).1, .string (uN ⟨#[102]⟩).2, .int .i64 0, .string ⟨#[]⟩, .string ⟨#[]⟩, .string ⟨#[]⟩, .string ⟨#[]⟩, .string ⟨#[]⟩, .slice none 0 0, .slice A2 2 c2]) := s0
     obtain ⟨s1, r1, b1⟩ := hw 11 (by omega) (by kernel_rfl)
     obtain ⟨e1, hr1, hl1⟩ := r1
     rw [e1] at s1
     have hww := HWW.out
     have hbs := hb.size
     have CC := substituteP [(X, .var Z), (Z, .var X)] (.slice (some ⟨lo 11, 0, none⟩) 2 2) (.app (uN ⟨#[102]⟩) [.var X, .var Z]) [.int .i64 3, .string (uN ⟨#[102]⟩).1, .string (uN ⟨#[102]⟩).2, .int .i64 0, .string ⟨#[]⟩, .string ⟨#[]⟩, .string ⟨#[]⟩, .string ⟨#[]⟩, .string ⟨#[]⟩, .slice none 0 0, .slice A2 2 c2] w9 (Upto w w9 NoB) ((NoB.in w).upto (by omega)) ((HT.out.below (fun b hb0 => upto_lt (NoB.in w) HWW.out b hb0) hb).more (fun b hb0 => upto_more hb.size b hb0)) ((as2 hr1).more fun b hb0 => .inr ⟨by omega, by omega⟩) (by simp [Tm.nodes, Tm.nodesL]) (by show 2 ≤ 100000; decide)
     unfold vTm at CC
     refine gw_tt rfl (wanted_plain rfl) 38 22 33 _ _ _ rfl (fun v u w => by go_simp) s0 s1 ?_
     with_reducible refine (CC).mono ?_
     rintro e w3 ⟨cs3, rfl, h3, hb3⟩
     exact ⟨_, rfl, _, rfl, hb3, by have := hb3.size; omega, cs3, rfl, h3.more (fun b hb0 => upto_two (by omega) hb3.size b hb0)⟩
    | 13, _ =>
     refine wpOp_step rfl fun K' hK' => ?_
     rw [if_pos (wanted_plain rfl)]
     unfold Oper.wp
     simp only [execOp]
     go_simp
     exact hK' _ _ ⟨_, rfl, below_alT _ _, rfl, heap_alloc_new _ _, by simp⟩
    | k + 14, h => exact absurd h (by omega)
   case done =>
    intro a w9 v lo hi' hdef hsz hoth hb hj hap
    obtain ⟨_, ⟨hz12, csu, hv12, ht12⟩, hlo12, hhi12⟩ := hj 12 (by omega)
    obtain ⟨_, ⟨hv13, hbx13, hlt13⟩, hlo13, hhi13⟩ := hj 13 (by omega)
    have ha := eq_puts hdef hsz hoth (fun i hi => (hj i hi).1)
    subst ha
    clear hj hoth hdef hsz hap
    simp only [puts, List.getD_cons_zero, List.getD_cons_succ, hv12, hv13]
    generalize v 0 = v0
    generalize v 1 = v1
    generalize v 2 = v2
    generalize v 3 = v3
    generalize v 4 = v4
    generalize v 5 = v5
    generalize v 6 = v6
    generalize v 7 = v7
    generalize v 8 = v8
    generalize v 9 = v9
    generalize v 10 = v10
    generalize v 11 = v11
    clear hv12 hv13
    simp only [Act.put, List.setIfInBounds_toArray, List.set_cons_zero, List.set_cons_succ]
    show wpList _ _ _ [_] _ _
    have e4 : subT [(X, .var Z), (Z, .var X)] (.app (uN ⟨#[102]⟩) [.var X, .var Z]) = .app (uN ⟨#[102]⟩) [.var Z, .var X] := by
     have hxx : eqN X X = true := eqN_iff.2 rfl
     have hzz : eqN Z Z = true := eqN_iff.2 rfl
     simp [subT, subTs, findA, hxx, hzz, hne]
    rw [e4] at ht12
    obtain ⟨T1, hT1⟩ : ∃ T1, T1 = Tm.app (uN ⟨#[102]⟩) [.var Z, .var X] := ⟨_, rfl⟩
    have HT1 := hI hT1
    have h3 := ht12
    unfold TmAt at ht12
    obtain ⟨A3, c3, ecs, _, _⟩ := ht12
    have ecs2 : csu = [.int .i64 3, .string (uN ⟨#[102]⟩).1, .string (uN ⟨#[102]⟩).2, .int .i64 0, .string ⟨#[]⟩, .string ⟨#[]⟩, .string ⟨#[]⟩, .string ⟨#[]⟩, .string ⟨#[]⟩, .slice none 0 0, .slice A3 2 c3] := ecs
    subst ecs2
    have gls : X3.heap.size ≤ lo 13 := hlo13
    generalize lo 13 = gs at *
    have B13 := hI hbx13
    rw [← hT1] at h3
    have HU : Hid (TmAt (w9.setRow gs [.int .i64 3, .string (uN ⟨#[102]⟩).1, .string (uN ⟨#[102]⟩).2, .int .i64 0, .string ⟨#[]⟩, .string ⟨#[]⟩, .string ⟨#[]⟩, .string ⟨#[]⟩, .string ⟨#[]⟩, .slice none 0 0, .slice A3 2 c3].toArray) (Upto w (w9.setRow gs [.int .i64 3, .string (uN ⟨#[102]⟩).1, .string (uN ⟨#[102]⟩).2, .int .i64 0, .string ⟨#[]⟩, .string ⟨#[]⟩, .string ⟨#[]⟩, .string ⟨#[]⟩, .string ⟨#[]⟩, .slice none 0 0, .slice A3 2 c3].toArray) NoB) T1 [.int .i64 3, .string (uN ⟨#[102]⟩).1, .string (uN ⟨#[102]⟩).2, .int .i64 0, .string ⟨#[]⟩, .string ⟨#[]⟩, .string ⟨#[]⟩, .string ⟨#[]⟩, .string ⟨#[]⟩, .slice none 0 0, .slice A3 2 c3]) := TmAt.boxed h3 hbx13.nb _
    have BU : Hid (TB (w9.setRow gs [.int .i64 3, .string (uN ⟨#[102]⟩).1, .string (uN ⟨#[102]⟩).2, .int .i64 0, .string ⟨#[]⟩, .string ⟨#[]⟩, .string ⟨#[]⟩, .string ⟨#[]⟩, .string ⟨#[]⟩, .slice none 0 0, .slice A3 2 c3].toArray) gs [.int .i64 3, .string (uN ⟨#[102]⟩).1, .string (uN ⟨#[102]⟩).2, .int .i64 0, .string ⟨#[]⟩, .string ⟨#[]⟩, .string ⟨#[]⟩, .string ⟨#[]⟩, .string ⟨#[]⟩, .slice none 0 0, .slice A3 2 c3]) := hbx13.set _
    have BZ5 : Hid (TB (w9.setRow gs [.int .i64 3, .string (uN ⟨#[102]⟩).1, .string (uN ⟨#[102]⟩).2, .int .i64 0, .string ⟨#[]⟩, .string ⟨#[]⟩, .string ⟨#[]⟩, .string ⟨#[]⟩, .string ⟨#[]⟩, .slice none 0 0, .slice A3 2 c3].toArray) gz [.int .i64 1, .string Z.1, .string Z.2, .int .i64 0, .string ⟨#[]⟩, .string ⟨#[]⟩, .string ⟨#[]⟩, .string ⟨#[]⟩, .string ⟨#[]⟩, .slice none 0 0, .slice none 0 0]) := (BZ.out.keep hb).other (fun e => by have := BZ.out.lt; omega)
    have HB5 : Hid (Below w.heap.size w (w9.setRow gs [.int .i64 3, .string (uN ⟨#[102]⟩).1, .string (uN ⟨#[102]⟩).2, .int .i64 0, .string ⟨#[]⟩, .string ⟨#[]⟩, .string ⟨#[]⟩, .string ⟨#[]⟩, .string ⟨#[]⟩, .slice none 0 0, .slice A3 2 c3].toArray)) := HBW.out.trans ((below_setRowO hb gls _).mono HWW.out)
    have ONE5 := hI h3.o11
    clear h3 hb hbx13 hlt13 hlo13 hhi13 hlo12 hhi12 hz12 ecs BX BT HT BZ HBW HGT HGX HGZ HNE HWW HLB C0 C1 C2 C3 e4 hT1 hne hne2 gls
    go_upto_region 5 with ((with_reducible refine storeTb (cs := [.int .i64 3, .string (uN ⟨#[102]⟩).1, .string (uN ⟨#[102]⟩).2, .int .i64 0, .string ⟨#[]⟩, .string ⟨#[]⟩, .string ⟨#[]⟩, .string ⟨#[]⟩, .string ⟨#[]⟩, .slice none 0 0, .slice A3 2 c3]) (.tmp 5) (.tmp 34) ?_ ?_ ?_ ?_ B13.out ?_ ?_ ?_ ?_); rfl; rfl; rfl; rfl; rfl; rfl; exact ONE5.out.2)
    generalize w9.setRow gs [.int .i64 3, .string (uN ⟨#[102]⟩).1, .string (uN ⟨#[102]⟩).2, .int .i64 0, .string ⟨#[]⟩, .string ⟨#[]⟩, .string ⟨#[]⟩, .string ⟨#[]⟩, .string ⟨#[]⟩, .slice none 0 0, .slice A3 2 c3].toArray = X5 at *
    have hA5 := below_alT X5 (.cells #[.int .i64 0] 3)
    have HW5 := HB5.out.size
    have hIs : IsV (X5.alloc (.cells #[.int .i64 0] 3)) (Upto w (X5.alloc (.cells #[.int .i64 0] 3)) NoB) [0] (.slice (some ⟨X5.heap.size, 0, none⟩) 1 1) := by
     refine ⟨_, 1, rfl, Nat.le_refl _, fun _ => ⟨X5.heap.size, 0, rfl, Or.inr ⟨HW5, by simp⟩, fun i hi => ?_⟩⟩
     have hi1 : i < 1 := hi
     have : i = 0 := by omega
     subst this
     rw [cell_of_row _ _ _ _ _ _ (heap_alloc_new X5 _)]; rfl
    have hU5 : TmAt (X5.alloc (.cells #[.int .i64 0] 3)) (Upto w (X5.alloc (.cells #[.int .i64 0] 3)) NoB) T1 [.int .i64 3, .string (uN ⟨#[102]⟩).1, .string (uN ⟨#[102]⟩).2, .int .i64 0, .string ⟨#[]⟩, .string ⟨#[]⟩, .string ⟨#[]⟩, .string ⟨#[]⟩, .string ⟨#[]⟩, .slice none 0 0, .slice A3 2 c3] := (HU.out.below (fun b hb0 => upto_lt (NoB.in w) HW5 b hb0) hA5).more (fun b hb0 => upto_more hA5.size b hb0)
    have A5 := atT T1 [.int .i64 3, .string (uN ⟨#[102]⟩).1, .string (uN ⟨#[102]⟩).2, .int .i64 0, .string ⟨#[]⟩, .string ⟨#[]⟩, .string ⟨#[]⟩, .string ⟨#[]⟩, .string ⟨#[]⟩, .slice none 0 0, .slice A3 2 c3] [0] _ _ _ ((NoB.in w).upto (Nat.le_trans HW5 hA5.size)) hU5 hIs (by decide)
    have eA : atP T1 [0] = some (.var Z) := by rw [HT1.out]; rfl
    rw [eA] at A5
    replace A5 := hI A5
    unfold vTm at A5
    have HA5 := hI hA5
    clear hA5 hIs hU5 eA HW5
    go_wp2_with ((with_reducible refine loadTb (cs := [.int .i64 3, .string (uN ⟨#[102]⟩).1, .string (uN ⟨#[102]⟩).2, .int .i64 0, .string ⟨#[]⟩, .string ⟨#[]⟩, .string ⟨#[]⟩, .string ⟨#[]⟩, .string ⟨#[]⟩, .slice none 0 0, .slice A3 2 c3]) (.tmp 5) ?_ ?_ ?_ BU.out ?_ ?_); rfl; rfl; rfl; rfl)
    refine A5.out.mono ?_
    rintro e w6 ⟨cs6, rfl, h6, hb6⟩
    have e6 : cs6 = [.int .i64 1, .string Z.1, .string Z.2, .int .i64 0, .string ⟨#[]⟩, .string ⟨#[]⟩, .string ⟨#[]⟩, .string ⟨#[]⟩, .string ⟨#[]⟩, .slice none 0 0, .slice none 0 0] := h6
    subst e6
    have HB6 := hI (HA5.out.trans (hb6.mono HA5.out.size))
    have HS6 : Hid (X5.heap.size ≤ w6.heap.size) := HB6.out.size
    have HC6 : Hid (Below X5.heap.size X5 (w6.alloc (.cells #[.int .i64 1, .string Z.1, .string Z.2, .int .i64 0, .string ⟨#[]⟩, .string ⟨#[]⟩, .string ⟨#[]⟩, .string ⟨#[]⟩, .string ⟨#[]⟩, .slice none 0 0, .slice none 0 0] 45))) := HB6.out.trans ((below_alT w6 _).mono HS6.out)
    have BT6 : Hid (TB (w6.alloc (.cells #[.int .i64 1, .string Z.1, .string Z.2, .int .i64 0, .string ⟨#[]⟩, .string ⟨#[]⟩, .string ⟨#[]⟩, .string ⟨#[]⟩, .string ⟨#[]⟩, .slice none 0 0, .slice none 0 0] 45)) w6.heap.size [.int .i64 1, .string Z.1, .string Z.2, .int .i64 0, .string ⟨#[]⟩, .string ⟨#[]⟩, .string ⟨#[]⟩, .string ⟨#[]⟩, .string ⟨#[]⟩, .slice none 0 0, .slice none 0 0]) := heap_alloc_new _ _
    clear hb6 h6 A5 HA5 HB6 HS6
    unfold vTm
    go_upto_region 6 with fail
    generalize w6.alloc (.cells #[.int .i64 1, .string Z.1, .string Z.2, .int .i64 0, .string ⟨#[]⟩, .string ⟨#[]⟩, .string ⟨#[]⟩, .string ⟨#[]⟩, .string ⟨#[]⟩, .slice none 0 0, .slice none 0 0] 45) = Y at *
    generalize w6.heap.size = g6 at *
    have BUY := hI (BU.out.keep HC6.out)
    have BZY := hI (BZ5.out.keep HC6.out)
    have HUY : Hid (TmAt Y (Upto w Y NoB) T1 [.int .i64 3, .string (uN ⟨#[102]⟩).1, .string (uN ⟨#[102]⟩).2, .int .i64 0, .string ⟨#[]⟩, .string ⟨#[]⟩, .string ⟨#[]⟩, .string ⟨#[]⟩, .string ⟨#[]⟩, .slice none 0 0, .slice A3 2 c3]) := (HU.out.below (fun b hb0 => upto_lt (NoB.in w) HB5.out.size b hb0) HC6.out).more (fun b hb0 => upto_more HC6.out.size b hb0)
    have HBY : Hid (Below w.heap.size w Y) := HB5.out.trans (HC6.out.mono HB5.out.size)
    clear BU BZ5 HU HB5 HC6 B13
    have EQ1 : Hid (Calls Tryz.prog 41 #[.agg #[.int .i64 1, .string Z.1, .string Z.2, .int .i64 0, .string ⟨#[]⟩, .string ⟨#[]⟩, .string ⟨#[]⟩, .string ⟨#[]⟩, .string ⟨#[]⟩, .slice none 0 0, .slice none 0 0], .agg #[.int .i64 1, .string Z.1, .string Z.2, .int .i64 0, .string ⟨#[]⟩, .string ⟨#[]⟩, .string ⟨#[]⟩, .string ⟨#[]⟩, .string ⟨#[]⟩, .slice none 0 0, .slice none 0 0]] Y (RetB Y true)) := by
     have h := equalT 10 (by decide) (.var Z) (.var Z) [.int .i64 1, .string Z.1, .string Z.2, .int .i64 0, .string ⟨#[]⟩, .string ⟨#[]⟩, .string ⟨#[]⟩, .string ⟨#[]⟩, .string ⟨#[]⟩, .slice none 0 0, .slice none 0 0] [.int .i64 1, .string Z.1, .string Z.2, .int .i64 0, .string ⟨#[]⟩, .string ⟨#[]⟩, .string ⟨#[]⟩, .string ⟨#[]⟩, .string ⟨#[]⟩, .slice none 0 0, .slice none 0 0] Y NoB (NoB.in Y) rfl rfl (by unfold Tm.bd; trivial) (by unfold Tm.bd; trivial) (by simp [Tm.nodes])
     rw [eqT_refl] at h
     exact h
    repeat (first | ((with_reducible refine loadTg (cs := [.int .i64 1, .string Z.1, .string Z.2, .int .i64 0, .string ⟨#[]⟩, .string ⟨#[]⟩, .string ⟨#[]⟩, .string ⟨#[]⟩, .string ⟨#[]⟩, .slice none 0 0, .slice none 0 0]) (.tmp 6) ?_ ?_ ?_ BT6.out ?_ ?_); rfl; rfl; rfl; rfl; unfold vTm) | ((with_reducible refine loadTg (cs := [.int .i64 1, .string Z.1, .string Z.2, .int .i64 0, .string ⟨#[]⟩, .string ⟨#[]⟩, .string ⟨#[]⟩, .string ⟨#[]⟩, .string ⟨#[]⟩, .slice none 0 0, .slice none 0 0]) (.tmp 3) ?_ ?_ ?_ BZY.out ?_ ?_); rfl; rfl; rfl; rfl; unfold vTm) | go_skip | go_guarded | go_step | go_upon | go_back)
    refine EQ1.out.mono ?_
    rintro e w7 ⟨rfl, hb⟩
    dsimp only
    have BU7 := hI (BUY.out.keep hb)
    have HU7 : Hid (TmAt w7 (Upto w w7 NoB) T1 [.int .i64 3, .string (uN ⟨#[102]⟩).1, .string (uN ⟨#[102]⟩).2, .int .i64 0, .string ⟨#[]⟩, .string ⟨#[]⟩, .string ⟨#[]⟩, .string ⟨#[]⟩, .string ⟨#[]⟩, .slice none 0 0, .slice A3 2 c3]) := (HUY.out.below (fun b hb0 => upto_lt (NoB.in w) HBY.out.size b hb0) hb).more (fun b hb0 => upto_more hb.size b hb0)
    have HB7 : Hid (Below w.heap.size w w7) := HBY.out.trans (hb.mono HBY.out.size)
    clear hb EQ1 BUY HUY HBY BZY BT6
    have VAL : Hid (Calls Tryz.prog 74 #[.agg #[.int .i64 3, .string (uN ⟨#[102]⟩).1, .string (uN ⟨#[102]⟩).2, .int .i64 0, .string ⟨#[]⟩, .string ⟨#[]⟩, .string ⟨#[]⟩, .string ⟨#[]⟩, .string ⟨#[]⟩, .slice none 0 0, .slice A3 2 c3]] w7 (RetB w7 true)) := by
     have h := validT T1 [.int .i64 3, .string (uN ⟨#[102]⟩).1, .string (uN ⟨#[102]⟩).2, .int .i64 0, .string ⟨#[]⟩, .string ⟨#[]⟩, .string ⟨#[]⟩, .string ⟨#[]⟩, .string ⟨#[]⟩, .slice none 0 0, .slice A3 2 c3] w7 _ ((NoB.in w).upto HB7.out.size) HU7.out (by rw [HT1.out]; simp [Tm.nodes, Tm.nodesL]) (by rw [HT1.out]; simp [Tm.dep, Tm.depL]) (by rw [HT1.out]; simp [Tm.bd, Tm.bdL])
     rw [show wfT T1 = true from by rw [HT1.out]; exact HWF.out] at h
     exact h
    repeat (first | ((with_reducible refine loadTg (cs := [.int .i64 3, .string (uN ⟨#[102]⟩).1, .string (uN ⟨#[102]⟩).2, .int .i64 0, .string ⟨#[]⟩, .string ⟨#[]⟩, .string ⟨#[]⟩, .string ⟨#[]⟩, .string ⟨#[]⟩, .slice none 0 0, .slice A3 2 c3]) (.tmp 5) ?_ ?_ ?_ BU7.out ?_ ?_); rfl; rfl; rfl; rfl; unfold vTm) | go_skip | go_guarded | go_step | go_upon | go_back)
    refine VAL.out.mono ?_
    rintro e w8 ⟨rfl, hb⟩
    dsimp only
    have BU8 := hI (BU7.out.keep hb)
    have HU8 : Hid (TmAt w8 (Upto w w8 NoB) T1 [.int .i64 3, .string (uN ⟨#[102]⟩).1, .string (uN ⟨#[102]⟩).2, .int .i64 0, .string ⟨#[]⟩, .string ⟨#[]⟩, .string ⟨#[]⟩, .string ⟨#[]⟩, .string ⟨#[]⟩, .slice none 0 0, .slice A3 2 c3]) := (HU7.out.below (fun b hb0 => upto_lt (NoB.in w) HB7.out.size b hb0) hb).more (fun b hb0 => upto_more hb.size b hb0)
    have HB8 : Hid (Below w.heap.size w w8) := HB7.out.trans (hb.mono HB7.out.size)
    clear hb VAL BU7 HU7 HB7
    have NOD : Hid (Calls Tryz.prog 75 #[.agg #[.int .i64 3, .string (uN ⟨#[102]⟩).1, .string (uN ⟨#[102]⟩).2, .int .i64 0, .string ⟨#[]⟩, .string ⟨#[]⟩, .string ⟨#[]⟩, .string ⟨#[]⟩, .string ⟨#[]⟩, .slice none 0 0, .slice A3 2 c3]] w8 (RetI w8 3)) := by
     have h := nodesT T1 [.int .i64 3, .string (uN ⟨#[102]⟩).1, .string (uN ⟨#[102]⟩).2, .int .i64 0, .string ⟨#[]⟩, .string ⟨#[]⟩, .string ⟨#[]⟩, .string ⟨#[]⟩, .string ⟨#[]⟩, .slice none 0 0, .slice A3 2 c3] w8 _ ((NoB.in w).upto HB8.out.size) HU8.out (by rw [HT1.out]; simp [Tm.nodes, Tm.nodesL])
     rw [show ((T1.nodes : Nat) : Int) = 3 from by rw [HT1.out]; simp [Tm.nodes, Tm.nodesL]] at h
     exact h
    repeat (first | ((with_reducible refine loadTg (cs := [.int .i64 3, .string (uN ⟨#[102]⟩).1, .string (uN ⟨#[102]⟩).2, .int .i64 0, .string ⟨#[]⟩, .string ⟨#[]⟩, .string ⟨#[]⟩, .string ⟨#[]⟩, .string ⟨#[]⟩, .slice none 0 0, .slice A3 2 c3]) (.tmp 5) ?_ ?_ ?_ BU8.out ?_ ?_); rfl; rfl; rfl; rfl; unfold vTm) | go_skip | go_guarded | go_step | go_upon | go_back)
    refine NOD.out.mono ?_
    rintro e w9 ⟨rfl, hb⟩
    dsimp only
    have BU9 := hI (BU8.out.keep hb)
    have HU9 : Hid (TmAt w9 (Upto w w9 NoB) T1 [.int .i64 3, .string (uN ⟨#[102]⟩).1, .string (uN ⟨#[102]⟩).2, .int .i64 0, .string ⟨#[]⟩, .string ⟨#[]⟩, .string ⟨#[]⟩, .string ⟨#[]⟩, .string ⟨#[]⟩, .slice none 0 0, .slice A3 2 c3]) := (HU8.out.below (fun b hb0 => upto_lt (NoB.in w) HB8.out.size b hb0) hb).more (fun b hb0 => upto_more hb.size b hb0)
    have HB9 : Hid (Below w.heap.size w w9) := HB8.out.trans (hb.mono HB8.out.size)
    clear hb NOD BU8 HU8 HB8
    have hA9 := below_alT w9 (.cells #[.int .i64 3, .string (uN ⟨#[102]⟩).1, .string (uN ⟨#[102]⟩).2, .int .i64 0, .string ⟨#[]⟩, .string ⟨#[]⟩, .string ⟨#[]⟩, .string ⟨#[]⟩, .string ⟨#[]⟩, .slice none 0 0, .slice A3 2 c3] 45)
    have hR9 : (w9.alloc (.cells #[.int .i64 3, .string (uN ⟨#[102]⟩).1, .string (uN ⟨#[102]⟩).2, .int .i64 0, .string ⟨#[]⟩, .string ⟨#[]⟩, .string ⟨#[]⟩, .string ⟨#[]⟩, .string ⟨#[]⟩, .slice none 0 0, .slice A3 2 c3] 45)).heap[w9.heap.size]? = some (.cells #[.int .i64 3, .string (uN ⟨#[102]⟩).1, .string (uN ⟨#[102]⟩).2, .int .i64 0, .string ⟨#[]⟩, .string ⟨#[]⟩, .string ⟨#[]⟩, .string ⟨#[]⟩, .string ⟨#[]⟩, .slice none 0 0, .slice A3 2 c3] 45 (0, 0)) := heap_alloc_new w9 _
    have hU9 : TmAt (w9.alloc (.cells #[.int .i64 3, .string (uN ⟨#[102]⟩).1, .string (uN ⟨#[102]⟩).2, .int .i64 0, .string ⟨#[]⟩, .string ⟨#[]⟩, .string ⟨#[]⟩, .string ⟨#[]⟩, .string ⟨#[]⟩, .slice none 0 0, .slice A3 2 c3] 45)) (Upto w (w9.alloc (.cells #[.int .i64 3, .string (uN ⟨#[102]⟩).1, .string (uN ⟨#[102]⟩).2, .int .i64 0, .string ⟨#[]⟩, .string ⟨#[]⟩, .string ⟨#[]⟩, .string ⟨#[]⟩, .string ⟨#[]⟩, .slice none 0 0, .slice A3 2 c3] 45)) NoB) T1 [.int .i64 3, .string (uN ⟨#[102]⟩).1, .string (uN ⟨#[102]⟩).2, .int .i64 0, .string ⟨#[]⟩, .string ⟨#[]⟩, .string ⟨#[]⟩, .string ⟨#[]⟩, .string ⟨#[]⟩, .slice none 0 0, .slice A3 2 c3] := (HU9.out.below (fun b hb0 => upto_lt (NoB.in w) HB9.out.size b hb0) hA9).more (fun b hb0 => upto_more hA9.size b hb0)
    have hAA : ArgsAt (w9.alloc (.cells #[.int .i64 3, .string (uN ⟨#[102]⟩).1, .string (uN ⟨#[102]⟩).2, .int .i64 0, .string ⟨#[]⟩, .string ⟨#[]⟩, .string ⟨#[]⟩, .string ⟨#[]⟩, .string ⟨#[]⟩, .slice none 0 0, .slice A3 2 c3] 45)) (Upto w (w9.alloc (.cells #[.int .i64 3, .string (uN ⟨#[102]⟩).1, .string (uN ⟨#[102]⟩).2, .int .i64 0, .string ⟨#[]⟩, .string ⟨#[]⟩, .string ⟨#[]⟩, .string ⟨#[]⟩, .string ⟨#[]⟩, .slice none 0 0, .slice A3 2 c3] 45)) NoB) [T1] (some ⟨w9.heap.size, 0, none⟩) 1 := by
     refine ⟨Nat.le_refl _, fun _ => ⟨_, _, rfl, ⟨.inr ⟨HB9.out.size, by simp⟩, _, _, hR9⟩, ?_⟩⟩
     unfold TmsAt
     refine ⟨⟨_, hU9, fun j u hj => TB.cell (g := w9.heap.size) hR9 j u hj⟩, ?_⟩
     unfold TmsAt; trivial
    have hshort : ∀ u ∈ subsTs [T1], NmOk u := by
     rw [HT1.out, HX.out, HZZ.out]
     intro u hu
     simp [subsTs, subsT] at hu
     rcases hu with rfl | rfl | rfl <;> exact ⟨by show _ ≤ maxLen; decide, by show _ ≤ maxLen; decide⟩
    have VAR := variablesT [T1] _ _ _ _ ((NoB.in w).upto (Nat.le_trans HB9.out.size hA9.size)) hAA hshort (fun x hx => by rw [List.mem_singleton] at hx; rw [hx, HT1.out]; simp [Tm.nodes, Tm.nodesL]) (by simp) (by rw [HT1.out]; simp [subsTs, subsT])
    have hnl : (namesF 1 (subsTs [T1])).length = 2 := by rw [HT1.out, HX.out, HZZ.out]; kernel_rfl
    replace VAR := hI VAR
    have HA9 := hI hA9
    have HNL := hI hnl
    have HSH := hI hshort
    clear hA9 hR9 hU9 hAA hshort hnl
    repeat (first | ((with_reducible refine loadTg (cs := [.int .i64 3, .string (uN ⟨#[102]⟩).1, .string (uN ⟨#[102]⟩).2, .int .i64 0, .string ⟨#[]⟩, .string ⟨#[]⟩, .string ⟨#[]⟩, .string ⟨#[]⟩, .string ⟨#[]⟩, .slice none 0 0, .slice A3 2 c3]) (.tmp 5) ?_ ?_ ?_ BU9.out ?_ ?_); rfl; rfl; rfl; rfl; unfold vTm) | go_skip | go_guarded | go_step | go_upon | go_back)
    refine VAR.out.mono ?_
    rintro e w10 ⟨v, rfl, ⟨A4, c4, rfl, _, _⟩, hb⟩
    dsimp only
    rw [HNL.out]
    have hb0 := HA9.out.trans (hb.mono HA9.out.size)
    have BU10 := hI (BU9.out.keep hb0)
    have HU10 : Hid (TmAt w10 (Upto w w10 NoB) T1 [.int .i64 3, .string (uN ⟨#[102]⟩).1, .string (uN ⟨#[102]⟩).2, .int .i64 0, .string ⟨#[]⟩, .string ⟨#[]⟩, .string ⟨#[]⟩, .string ⟨#[]⟩, .string ⟨#[]⟩, .slice none 0 0, .slice A3 2 c3]) := (HU9.out.below (fun b hb0 => upto_lt (NoB.in w) HB9.out.size b hb0) hb0).more (fun b hb1 => upto_more hb0.size b hb1)
    have HB10 : Hid (Below w.heap.size w w10) := HB9.out.trans (hb0.mono HB9.out.size)
    clear hb hb0 VAR BU9 HU9 HB9 HA9
    have GRD : Hid (Calls Tryz.prog 31 #[.agg #[.int .i64 3, .string (uN ⟨#[102]⟩).1, .string (uN ⟨#[102]⟩).2, .int .i64 0, .string ⟨#[]⟩, .string ⟨#[]⟩, .string ⟨#[]⟩, .string ⟨#[]⟩, .string ⟨#[]⟩, .slice none 0 0, .slice A3 2 c3]] w10 (RetB w10 false)) := by
     have h := groundT T1 [.int .i64 3, .string (uN ⟨#[102]⟩).1, .string (uN ⟨#[102]⟩).2, .int .i64 0, .string ⟨#[]⟩, .string ⟨#[]⟩, .string ⟨#[]⟩, .string ⟨#[]⟩, .string ⟨#[]⟩, .slice none 0 0, .slice A3 2 c3] w10 _ ((NoB.in w).upto HB10.out.size) HU10.out (fun u hu => HSH.out u (by unfold subsTs; exact List.mem_append.2 (.inl hu))) (by rw [HT1.out]; simp [Tm.nodes, Tm.nodesL])
     rw [show noVar (subsT T1) = false from by rw [HT1.out]; simp [subsT, subsTs, noVar, Tm.kd]] at h
     exact h
    repeat (first | ((with_reducible refine loadTg (cs := [.int .i64 3, .string (uN ⟨#[102]⟩).1, .string (uN ⟨#[102]⟩).2, .int .i64 0, .string ⟨#[]⟩, .string ⟨#[]⟩, .string ⟨#[]⟩, .string ⟨#[]⟩, .string ⟨#[]⟩, .slice none 0 0, .slice A3 2 c3]) (.tmp 5) ?_ ?_ ?_ BU10.out ?_ ?_); rfl; rfl; rfl; rfl; unfold vTm) | go_skip | go_guarded | go_step | go_upon | go_back)
    refine GRD.out.mono ?_
    rintro e w11 ⟨rfl, hb⟩
    dsimp only
    have HF : Hid (Below w.heap.size w w11) := HB10.out.trans (hb.mono HB10.out.size)
    clear hb GRD
    go_wp2
    go_ret
    exact ⟨rfl, HF.out⟩
theorem fewAllO (l : List Rw) (A : Option Addr) (c : Nat) (m : Int) (w : World) (S : Nat → Prop) (hS : In S w) (hc : l.length ≤ c) (hcm : c ≤ maxLen) (hm : 0 ≤ m) (hm' : m ≤ 1000)
 (hA : 0 < l.length → ∃ b o, A = some ⟨b, o, none⟩ ∧ S b ∧ RawsAt w S b o l) :
 Calls Tryz.prog 18 #[.slice A l.length c, .int .i64 m] w (fun e w' => ∃ t, e = .returned (.bool t) ∧ Below w.heap.size w w' ∧ (t = true → l.length ≤ 8 ∧ ∀ i (hi : i < l.length), few l[i] m = true)) := by
 have HS := qh9 hS
 have HA := qh9 hA
 clear hS hA
 have HF : Hid (∀ i (hi : i < l.length) cs w', RawAt w' S l[i] cs → In S w' → Calls Tryz.prog 19 #[.agg cs.toArray, .int .i64 m] w' (fun e w'' => e = .returned (.bool (few l[i] m)) ∧ Below w'.heap.size w' w'')) := fun i hi cs w' h hs => fewO l[i] cs m w' S hs h hm hm'
 have HE1 : Hid (∀ w', Below w.heap.size w w' → ∃ t, Ending.returned (.bool false) = .returned (.bool t) ∧ Below w.heap.size w w' ∧ (t = true → l.length ≤ 8 ∧ ∀ i (hi : i < l.length), few l[i] m = true)) := fun w' h => ⟨false, rfl, h, fun h => by cases h⟩
 have HE2 : Hid (∀ w', Below w.heap.size w w' → l.length ≤ 8 → (∀ i (hi : i < l.length), few l[i] m = true) → ∃ t, Ending.returned (.bool true) = .returned (.bool t) ∧ Below w.heap.size w w' ∧ (t = true → l.length ≤ 8 ∧ ∀ i (hi : i < l.length), few l[i] m = true)) := fun w' h h1 h2 => ⟨true, rfl, h, fun _ => ⟨h1, h2⟩⟩
 generalize hP : (fun (e : Ending) (w' : World) => ∃ t, e = .returned (.bool t) ∧ Below w.heap.size w w' ∧ (t = true → l.length ≤ 8 ∧ ∀ i (hi : i < l.length), few l[i] m = true)) = P
 have E1 : Hid (∀ w', Below w.heap.size w w' → P (.returned (.bool false)) w') := by subst hP; exact HE1
 have E2 : Hid (∀ w', Below w.heap.size w w' → l.length ≤ 8 → (∀ i (hi : i < l.length), few l[i] m = true) → P (.returned (.bool true)) w') := by subst hP; exact HE2
 clear hP HE1 HE2
 obtain ⟨L, hL⟩ : ∃ L, l.length = L := ⟨_, rfl⟩
 have HL := qh9 hL
 rw [hL] at hc ⊢
 clear hL
 unfold maxLen at hcm
 by_cases hbig : 8 < L
 · go_enter Tryz.func18, Tryz.ntmps18
   go_wp2
   exact E1.out _ (Below.refl _ _)
 · have hL8 : L ≤ 8 := by omega
   clear hbig
   go_enter Tryz.func18, Tryz.ntmps18
   go_wp2_with fail
   have h0 : Hid (∀ j (hj : j < l.length), j < 0 → few l[j] m = true) := fun j _ h => absurd h (Nat.not_lt_zero _)
   go_loopw [5] (fun v wr => ∃ i : Nat, i ≤ L ∧ v = .int .i64 (i : Int) ∧ Hid (Below w.heap.size w wr) ∧ Hid (∀ j (hj : j < l.length), j < i → few l[j] m = true)) (fun v _ => L - (intOf v).toNat)
   case atStart => exact ⟨0, Nat.zero_le _, rfl, Below.refl _ _, h0⟩
   case round =>
    clear h0
    obtain ⟨i, hiL, rfl, hb, hall⟩ := hrel
    obtain ⟨wo, rfl⟩ : ∃ wo : World, wo = wr := ⟨_, rfl⟩
    by_cases hlt : i < L
    · have hil : i < l.length := by rw [HL.out]; exact hlt
      obtain ⟨b, o, rfl, hbS, hrs⟩ := HA.out (by omega)
      obtain ⟨cs, hcs, hcell⟩ := hrs.get hil
      have hcs' := hcs.below HS.out hb.out
      have ha0 : b < w.heap.size := HS.out b hbS
      obtain ⟨z0, z1, z2, z3, rfl⟩ : ∃ z0 z1 z2 z3, cs = [z0, z1, z2, z3] := by
       generalize l[i] = r at hcs
       cases r with
       | mk k n s l => unfold RawAt at hcs; obtain ⟨A, c, e, _⟩ := hcs; exact ⟨_, _, _, _, e⟩
      have l0 := (hb.out.cell (p := ⟨b, o + i * 4 + 0, none⟩) ha0).trans (hcell 0 z0 rfl)
      have l1 := (hb.out.cell (p := ⟨b, o + i * 4 + 1, none⟩) ha0).trans (hcell 1 z1 rfl)
      have l2 := (hb.out.cell (p := ⟨b, o + i * 4 + 2, none⟩) ha0).trans (hcell 2 z2 rfl)
      have l3 := (hb.out.cell (p := ⟨b, o + i * 4 + 3, none⟩) ha0).trans (hcell 3 z3 rfl)
      rw [Nat.add_zero] at l0
      have call := qh9 (HF.out i hil [z0, z1, z2, z3] wo hcs' (HS.out.later hb.out.size))
      have hnext : Hid (few l[i] m = true → ∀ j (hj : j < l.length), j < i + 1 → few l[j] m = true) := fun hf j hj hji => by
       by_cases e : j = i
       · subst e; exact hf
       · exact hall.out j hj (by omega)
      clear hcell hcs hcs' hrs
      generalize few l[i] m = f at call hnext
      go_wp2_with fail
      refine call.out.mono ?_
      rintro e w3 ⟨rfl, hb3⟩
      have hb4 := qc9 hb hb3
      clear l0 l1 l2 l3 hb3 call hb hall
      cases f with
      | false =>
       clear hnext
       go_wp2
       exact E1.out _ hb4.out
      | true =>
       have hn2 := qh9 (hnext.out (by simp))
       clear hnext
       go_wp2
       go_roundw
       case rel => exact ⟨i + 1, by omega, by go_num, hb4, hn2⟩
       case measure => simp [intOf]; omega
    · have hn : ¬ (i : Int) < L := by omega
      have HR := qh9 (E2.out wo hb.out (by rw [HL.out]; exact hL8) (fun j hj => hall.out j hj (by have := HL.out; omega)))
      clear hb hall hlt
      go_wp2
      exact HR.out

def syE : Nat → List UInt8 × List UInt8
 | 0 => (userB, [97])
 | 1 => (userB, [98])
 | 2 => (userB, [102, 111, 111])
 | 3 => (userB, [111, 100, 100, 32, 110, 97, 109, 101])
 | 4 => (userB, [49])
 | 5 => (userB, [120, 124, 121])
 | 6 => (userB, [46])
 | 7 => (userB, [45, 50, 47, 51])
 | 8 => (userB, [35])
 | 9 => (lispB, [110, 105, 108])
 | 10 => (lispB, [116])
 | 11 => (lispB, [99, 97, 114])
 | _ => (lispB, [113, 117, 111, 116, 101])
def RetSyD (w : World) (x : List UInt8 × List UInt8) (e : Ending) (w' : World) : Prop := e = .returned (.agg #[.string (BA x.1), .string (BA x.2)]) ∧ Below w.heap.size w w' ∧ SyOk x.1 x.2 ∧ x.2.length ≤ 8
theorem retSyD {fn : Func} {q : Tmp} {w0 : World} {tmps : Array Value} {w : World} {g : Nat} {s1 s2 : ByteArray} {t : TypeId} {old : Array Value} {fr : Nat × Nat} {X : List UInt8 × List UInt8}
 (h : fn.results = #[.cell q 24]) (hq : tmps.getD q undef = .pointer (some ⟨g, 0, none⟩)) (hg : w.heap[g]? = some (.cells old t fr))
 (hlt : w0.heap.size ≤ g) (hb : Below w0.heap.size w0 w) (hok : (SyOk (LA s1) (LA s2) ∧ (LA s2).length ≤ 8) ∧ X = (LA s1, LA s2)) :
 bodyPost Tryz.prog fn (RetSyD w0 X) Exit.ret ⟨tmps, []⟩ (w.setRow g #[.string s1, .string s2]) := by
 obtain ⟨hok, rfl⟩ := hok
 exact bodyPost_ret (results_cell_row h tmps _ g t _ fr _ hq (setRow_heap _ _ _ _ _ _ hg) Tryz.underlying24 rfl (by kernel_rfl)) rfl
  ⟨by show _ = Ending.returned (.agg #[.string (BA (LA s1)), .string (BA (LA s2))]); rw [BA_LA, BA_LA], below_setRowO hb hlt _, hok⟩

theorem symMakeD (n : Int) (w : World) (hn : -9223372036854775808 ≤ n) (hn' : n ≤ 9223372036854775807) :
 Calls Tryz.prog 79 #[.int .i64 n] w (RetSyD w (syE (n % 13).toNat)) := by
 obtain ⟨X, hX⟩ : ∃ X, syE (n % 13).toNat = X := ⟨_, rfl⟩
 rw [hX]
 have HX := qh9 hX
 clear hX
 go_enter Tryz.func79, Tryz.ntmps79
 go_wp2_with fail
 refine (modO n 13 _ hn hn' (by decide) (by decide)).mono ?_
 rintro e w1 ⟨rfl, rfl⟩
 have k0 := Int.emod_nonneg n (show (13 : Int) ≠ 0 by decide)
 have k1 := Int.emod_lt_of_pos n (show (0 : Int) < 13 by decide)
 generalize n % 13 = k at k0 k1 HX ⊢
 obtain ⟨j, rfl⟩ := Int.eq_ofNat_of_zero_le k0
 have hg0 := qh9 (heap_alloc2_old w (Obj.cells #[Value.string { data := #[] }, Value.string { data := #[] }] 24) (Obj.cells #[Value.string { data := #[97] }, Value.string { data := #[98] }, Value.string { data := #[102, 111, 111] }, Value.string { data := #[111, 100, 100, 32, 110, 97, 109, 101] }, Value.string { data := #[49] }, Value.string { data := #[120, 124, 121] }, Value.string { data := #[46] }, Value.string { data := #[45, 50, 47, 51] }, Value.string { data := #[35] }] 9))
 have hg1 := heap_alloc2_new w (Obj.cells #[Value.string { data := #[] }, Value.string { data := #[] }] 24) (Obj.cells #[Value.string { data := #[97] }, Value.string { data := #[98] }, Value.string { data := #[102, 111, 111] }, Value.string { data := #[111, 100, 100, 32, 110, 97, 109, 101] }, Value.string { data := #[49] }, Value.string { data := #[120, 124, 121] }, Value.string { data := #[46] }, Value.string { data := #[45, 50, 47, 51] }, Value.string { data := #[35] }] 9)
 have hW := Below.alloc (Below.alloc (Below.refl w.heap.size w) (Nat.le_refl _) (Obj.cells #[Value.string { data := #[] }, Value.string { data := #[] }] 24)) (by simp) (Obj.cells #[Value.string { data := #[97] }, Value.string { data := #[98] }, Value.string { data := #[102, 111, 111] }, Value.string { data := #[111, 100, 100, 32, 110, 97, 109, 101] }, Value.string { data := #[49] }, Value.string { data := #[120, 124, 121] }, Value.string { data := #[46] }, Value.string { data := #[45, 50, 47, 51] }, Value.string { data := #[35] }] 9)
 have hS : ((w.alloc (Obj.cells #[Value.string { data := #[] }, Value.string { data := #[] }] 24)).alloc (Obj.cells #[Value.string { data := #[97] }, Value.string { data := #[98] }, Value.string { data := #[102, 111, 111] }, Value.string { data := #[111, 100, 100, 32, 110, 97, 109, 101] }, Value.string { data := #[49] }, Value.string { data := #[120, 124, 121] }, Value.string { data := #[46] }, Value.string { data := #[45, 50, 47, 51] }, Value.string { data := #[35] }] 9)).heap.size = w.heap.size + 2 := by simp
 generalize (w.alloc (Obj.cells #[Value.string { data := #[] }, Value.string { data := #[] }] 24)).alloc (Obj.cells #[Value.string { data := #[97] }, Value.string { data := #[98] }, Value.string { data := #[102, 111, 111] }, Value.string { data := #[111, 100, 100, 32, 110, 97, 109, 101] }, Value.string { data := #[49] }, Value.string { data := #[120, 124, 121] }, Value.string { data := #[46] }, Value.string { data := #[45, 50, 47, 51] }, Value.string { data := #[35] }] 9) = W at hg0 hg1 hW hS ⊢
 have hS1 : w.heap.size + 2 ≤ W.heap.size := by omega
 clear hS
 by_cases hj : j < 9
 · obtain ⟨s, hs, hok⟩ : ∃ s, W.cell? ⟨w.heap.size + 1, j, none⟩ = some (.string s) ∧ (SyOk userB (LA s) ∧ (LA s).length ≤ 8) ∧ X = (userB, LA s) := by
    rw [cell_of_row W _ j _ _ _ hg1]
    match j, hj with
    | 0, _ => exact ⟨_, rfl, ⟨⟨.inr rfl, by decide, by decide⟩, by decide⟩, HX.out.symm⟩
    | 1, _ => exact ⟨_, rfl, ⟨⟨.inr rfl, by decide, by decide⟩, by decide⟩, HX.out.symm⟩
    | 2, _ => exact ⟨_, rfl, ⟨⟨.inr rfl, by decide, by decide⟩, by decide⟩, HX.out.symm⟩
    | 3, _ => exact ⟨_, rfl, ⟨⟨.inr rfl, by decide, by decide⟩, by decide⟩, HX.out.symm⟩
    | 4, _ => exact ⟨_, rfl, ⟨⟨.inr rfl, by decide, by decide⟩, by decide⟩, HX.out.symm⟩
    | 5, _ => exact ⟨_, rfl, ⟨⟨.inr rfl, by decide, by decide⟩, by decide⟩, HX.out.symm⟩
    | 6, _ => exact ⟨_, rfl, ⟨⟨.inr rfl, by decide, by decide⟩, by decide⟩, HX.out.symm⟩
    | 7, _ => exact ⟨_, rfl, ⟨⟨.inr rfl, by decide, by decide⟩, by decide⟩, HX.out.symm⟩
    | 8, _ => exact ⟨_, rfl, ⟨⟨.inr rfl, by decide, by decide⟩, by decide⟩, HX.out.symm⟩
   have HOK : Hid (SyOk (LA (BA [117, 115, 101, 114])) (LA s) ∧ (LA s).length ≤ 8) := by rw [LA_BA]; exact hok.1
   have HXX : Hid (X = (LA (BA [117, 115, 101, 114]), LA s)) := by rw [LA_BA]; exact hok.2
   clear hg1 hok
   go_wp2_with fail
   refine (userO s W).mono ?_
   rintro e w2 ⟨rfl, hb2⟩
   have hg2 := qh9 ((hb2.block w.heap.size (by omega)).trans hg0.out)
   clear hs
   go_wp2_with (refine storeSy rfl (.tmp 2) (.tmp 20) rfl w.heap.size _ _ rfl rfl _ _ hg2.out rfl ?_)
   exact retSyD rfl rfl hg2.out (Nat.le_refl _) (hW.trans (hb2.mono hW.size)) ⟨HOK.out, HXX.out⟩
 · clear hg1
   have hx : j = 9 ∨ j = 10 ∨ j = 11 ∨ j = 12 := by omega
   rcases hx with rfl | rfl | rfl | rfl
   · go_wp2_with fail
     refine (lispO _ W).mono ?_
     rintro e w2 ⟨rfl, hb2⟩
     have hg2 := qh9 ((hb2.block w.heap.size (by omega)).trans hg0.out)
     go_wp2_with (refine storeSy rfl (.tmp 2) (.tmp 26) rfl w.heap.size _ _ rfl rfl _ _ hg2.out rfl ?_)
     exact retSyD rfl rfl hg2.out (Nat.le_refl _) (hW.trans (hb2.mono hW.size)) ⟨⟨⟨.inl (LA_BA _), by decide, by decide⟩, by decide⟩, by rw [← HX.out, LA_BA]; rfl⟩
   · go_wp2_with fail
     refine (lispO _ W).mono ?_
     rintro e w2 ⟨rfl, hb2⟩
     have hg2 := qh9 ((hb2.block w.heap.size (by omega)).trans hg0.out)
     go_wp2_with (refine storeSy rfl (.tmp 2) (.tmp 33) rfl w.heap.size _ _ rfl rfl _ _ hg2.out rfl ?_)
     exact retSyD rfl rfl hg2.out (Nat.le_refl _) (hW.trans (hb2.mono hW.size)) ⟨⟨⟨.inl (LA_BA _), by decide, by decide⟩, by decide⟩, by rw [← HX.out, LA_BA]; rfl⟩
   · go_wp2_with fail
     refine (lispO _ W).mono ?_
     rintro e w2 ⟨rfl, hb2⟩
     have hg2 := qh9 ((hb2.block w.heap.size (by omega)).trans hg0.out)
     go_wp2_with (refine storeSy rfl (.tmp 2) (.tmp 40) rfl w.heap.size _ _ rfl rfl _ _ hg2.out rfl ?_)
     exact retSyD rfl rfl hg2.out (Nat.le_refl _) (hW.trans (hb2.mono hW.size)) ⟨⟨⟨.inl (LA_BA _), by decide, by decide⟩, by decide⟩, by rw [← HX.out, LA_BA]; rfl⟩
   · go_wp2_with fail
     refine (lispO _ W).mono ?_
     rintro e w2 ⟨rfl, hb2⟩
     have hg2 := qh9 ((hb2.block w.heap.size (by omega)).trans hg0.out)
     go_wp2_with (refine storeSy rfl (.tmp 2) (.tmp 41) rfl w.heap.size _ _ rfl rfl _ _ hg2.out rfl ?_)
     exact retSyD rfl rfl hg2.out (Nat.le_refl _) (hW.trans (hb2.mono hW.size)) ⟨⟨⟨.inl (LA_BA _), by decide, by decide⟩, by decide⟩, by rw [← HX.out, LA_BA]; rfl⟩
def RetXD (w : World) (m : Nat) (o : Ob) (e : Ending) (w' : World) : Prop := ∃ p, e = .returned (vO o p) ∧ Pair w' (Upto w w' NoB) o p ∧ Below w.heap.size w w' ∧ OkO m o
theorem RetXD.le {w w' : World} {m m' : Nat} {o : Ob} {e : Ending} (h : RetXD w m o e w') (hm : m ≤ m') : RetXD w m' o e w' := by
 obtain ⟨p, h1, h2, h3, h4⟩ := h
 exact ⟨p, h1, h2, h3, h4.1, Nat.le_trans h4.2 hm, h4.3⟩
theorem retXD {fn : Func} {q : Tmp} {w0 : World} {S' : Nat → Prop} {tmps : Array Value} {w : World} {g m : Nat} {o : Ob} {p : Value} {t : TypeId} {old : Array Value} {fr : Nat × Nat}
 (h : fn.results = #[.cell q 27]) (hq : tmps.getD q undef = .pointer (some ⟨g, 0, none⟩)) (hg : w.heap[g]? = some (.cells old t fr))
 (hp : Pair w S' o p) (hn : ¬ S' g) (hS : ∀ b, S' b → Upto w0 w NoB b) (hlt : w0.heap.size ≤ g) (hb : Below w0.heap.size w0 w) (hm : OkO m o) :
 bodyPost Tryz.prog fn (RetXD w0 m o) Exit.ret ⟨tmps, []⟩ (w.setRow g (cellsO o p).toArray) :=
 retO h hq (setRow_heap _ _ _ _ _ _ hg) (by simp [cellsO_length]) ⟨p, rfl, (hp.setRow g hn _).more (fun b hb => by
  have := hS b hb
  unfold Upto at this ⊢
  rwa [size_setRow]), below_setRowO hb hlt _, hm⟩

theorem dInt (k n : Int) (s : ByteArray) (A : Option Addr) (L c : Nat) (w : World) (m : Nat) (hm : 1 ≤ m) (hq : k % 8 = 0 ∨ k % 8 = 1) (hk : I64 k) (hn : I64 n) (ht : Tab w) :
 Calls Tryz.prog 21 #[.agg #[.int .i64 k, .int .i64 n, .string s, .slice A L c]] w (RetXD w m (Ob.num ((n % 2001 - 1000 : Int) : Rat))) := by
 obtain ⟨X, hX⟩ : ∃ X, Ob.num ((n % 2001 - 1000 : Int) : Rat) = X := ⟨_, rfl⟩
 rw [hX]
 have HX := qh9 hX
 clear hX
 have HT := qh9 ht
 have HK := qh9 hk
 have HN := qh9 hn
 have HQ := qh9 hq
 clear ht hk hn hq
 go_enter Tryz.func21, Tryz.ntmps21
 go_wp2_with fail
 have M := MkW.new w #[.int .i64 k, .int .i64 n, .string s, .slice A L c]
 refine (modO k 8 _ HK.out.1 HK.out.2 (by decide) (by decide)).mono ?_
 rintro e w1 ⟨rfl, rfl⟩
 generalize (w.alloc (.cells #[.int .i64 k, .int .i64 n, .string s, .slice A L c] 40)).alloc (.cells #[.int .i64 0, .string ⟨#[]⟩, .string ⟨#[]⟩, .string ⟨#[]⟩, .string ⟨#[]⟩, .string ⟨#[]⟩, .slice none 0 0] 27) = W at M ⊢
 have c1 : W.cell? ⟨w.heap.size, 1, none⟩ = some (.int .i64 n) := M.cell 1
 have HM := qh9 M
 clear M
 have hq := HQ.out
 clear HQ
 generalize k % 8 = q at hq ⊢
 have j0 := Int.emod_nonneg n (show (2001 : Int) ≠ 0 by decide)
 have j1 := Int.emod_lt_of_pos n (show (0 : Int) < 2001 by decide)
 have CI : Hid (Calls Tryz.prog 77 #[.int .i64 (n % 2001 - 1000)] W (RetO W NoB X)) := by rw [← HX.out]; exact intO (n % 2001 - 1000) W NoB (NoB.in W) (i64_small (by omega)) (HT.out.below HM.out.bel)
 have OK : Hid (OkO m X) := by rw [← HX.out]; exact ⟨bd_small (by omega) (by omega), hm, trivial⟩
 have CM := qh9 (modO n 2001 W HN.out.1 HN.out.2 (by decide) (by decide))
 generalize n % 2001 = j at j0 j1 CM CI
 rcases hq with rfl | rfl
 all_goals
  go_wp2_with fail
  refine CM.out.mono ?_
  rintro e w1 ⟨rfl, rfl⟩
  go_wp2_with fail
  refine CI.out.mono ?_
  rintro e w2 ⟨p, rfl, hp, hb2⟩
  have hs2 := hb2.size
  have hsz := HM.out.sz
  have hg2 := qh9 ((hb2.block (w.heap.size + 1) (by omega)).trans HM.out.b1)
  have hbw := qh9 (HM.out.bel.trans (hb2.mono (by omega)))
  go_wp2_with (refine storeV (w1 := w2) rfl (.tmp 2) (.tmp 15) rfl (w.heap.size + 1) _ _ rfl rfl hp _ _ hg2.out rfl ?_)
  exact retXD (q := 2) rfl rfl hg2.out hp (fun h => by
   rcases h with h | ⟨h, _⟩
   · exact h
   · omega) (fun b hb => by
   rcases hb with hb | ⟨h1, h2⟩
   · exact hb.elim
   · exact .inr ⟨by omega, h2⟩) (by omega) hbw.out OK.out
theorem dText (k n : Int) (s : ByteArray) (A : Option Addr) (L c : Nat) (w : World) (m : Nat) (hm : 1 ≤ m) (hq : k % 8 = 4) (hk : I64 k) (hsz : s.size ≤ 12) :
 Calls Tryz.prog 21 #[.agg #[.int .i64 k, .int .i64 n, .string s, .slice A L c]] w (RetXD w m (.str (LA s))) := by
 have HK := qh9 hk
 have HQ := qh9 hq
 have HSZ := qh9 hsz
 clear hk hq hsz
 go_enter Tryz.func21, Tryz.ntmps21
 go_wp2_with fail
 have M := MkW.new w #[.int .i64 k, .int .i64 n, .string s, .slice A L c]
 refine (modO k 8 _ HK.out.1 HK.out.2 (by decide) (by decide)).mono ?_
 rintro e w1 ⟨rfl, rfl⟩
 generalize (w.alloc (.cells #[.int .i64 k, .int .i64 n, .string s, .slice A L c] 40)).alloc (.cells #[.int .i64 0, .string ⟨#[]⟩, .string ⟨#[]⟩, .string ⟨#[]⟩, .string ⟨#[]⟩, .string ⟨#[]⟩, .slice none 0 0] 27) = W at M ⊢
 have c2 : W.cell? ⟨w.heap.size, 2, none⟩ = some (.string s) := M.cell 2
 have HM := qh9 M
 clear M
 have hq := HQ.out
 clear HQ
 generalize k % 8 = q at hq ⊢
 subst hq
 have OK : Hid (OkO m (.str (LA s))) := ⟨(show s.data.toList.length ≤ 2 * 10 + 20 from (by rw [Array.length_toList]; exact Nat.le_trans HSZ.out (by decide))), hm, (show s.data.toList.length ≤ 12 from (by rw [Array.length_toList]; exact HSZ.out))⟩
 go_wp2_with fail
 refine (textO s W NoB).mono ?_
 rintro e w2 ⟨p, rfl, hp, hb2⟩
 have hs2 := hb2.size
 have hsz := HM.out.sz
 have hg2 := qh9 ((hb2.block (w.heap.size + 1) (by omega)).trans HM.out.b1)
 have hbw := qh9 (HM.out.bel.trans (hb2.mono (by omega)))
 go_wp2_with (refine storeV (w1 := w2) rfl (.tmp 2) (.tmp 39) rfl (w.heap.size + 1) _ _ rfl rfl hp _ _ hg2.out rfl ?_)
 exact retXD (q := 2) rfl rfl hg2.out hp (fun h => by
  rcases h with h | ⟨h, _⟩
  · exact h
  · omega) (fun b hb => by
  rcases hb with hb | ⟨h1, h2⟩
  · exact hb.elim
  · exact .inr ⟨by omega, h2⟩) (by omega) hbw.out OK.out

theorem dSym (k n : Int) (s : ByteArray) (A : Option Addr) (L c : Nat) (w : World) (m : Nat) (hm : 1 ≤ m) (hq : k % 8 = 3) (hk : I64 k) (hn : I64 n) :
 Calls Tryz.prog 21 #[.agg #[.int .i64 k, .int .i64 n, .string s, .slice A L c]] w (RetXD w m (.sym (syE (n % 13).toNat).1 (syE (n % 13).toNat).2)) := by
 have CS : Hid (∀ W, Calls Tryz.prog 79 #[.int .i64 n] W (RetSyD W (syE (n % 13).toNat))) := fun W => symMakeD n W hn.1 hn.2
 generalize syE (n % 13).toNat = y at CS ⊢
 obtain ⟨a, b⟩ := y
 show Calls _ _ _ _ (RetXD w m (.sym a b))
 obtain ⟨X, hX⟩ : ∃ X, Ob.sym (LA (BA a)) (LA (BA b)) = X := ⟨_, rfl⟩
 have hX' : Ob.sym a b = X := by rw [← hX, LA_BA, LA_BA]
 rw [hX']
 have HX := qh9 hX
 clear hX hX'
 have HK := qh9 hk
 have HN := qh9 hn
 have HQ := qh9 hq
 clear hk hq hn
 go_enter Tryz.func21, Tryz.ntmps21
 go_wp2_with fail
 have M := MkW.new w #[.int .i64 k, .int .i64 n, .string s, .slice A L c]
 refine (modO k 8 _ HK.out.1 HK.out.2 (by decide) (by decide)).mono ?_
 rintro e w1 ⟨rfl, rfl⟩
 generalize (w.alloc (.cells #[.int .i64 k, .int .i64 n, .string s, .slice A L c] 40)).alloc (.cells #[.int .i64 0, .string ⟨#[]⟩, .string ⟨#[]⟩, .string ⟨#[]⟩, .string ⟨#[]⟩, .string ⟨#[]⟩, .slice none 0 0] 27) = W at M ⊢
 have c1 : W.cell? ⟨w.heap.size, 1, none⟩ = some (.int .i64 n) := M.cell 1
 have HM := qh9 M
 clear M
 have hq := HQ.out
 clear HQ
 generalize k % 8 = q at hq ⊢
 subst hq
 go_wp2_with fail
 refine (CS.out W).mono ?_
 rintro e w1 ⟨rfl, hb1, hok⟩
 dsimp only at hok ⊢
 have hs1 := hb1.size
 have OK : Hid (OkO m X) := by
  rw [← HX.out]
  exact ⟨(show SyOk (LA (BA a)) (LA (BA b)) from (by rw [LA_BA, LA_BA]; exact hok.1)), hm, (show (LA (BA b)).length ≤ 8 from (by rw [LA_BA]; exact hok.2))⟩
 have HB1 := qh9 hb1
 clear hb1 c1 hok
 go_wp2_with fail
 have CO := symO (BA a) (BA b) w1 NoB
 rw [HX.out] at CO
 refine CO.mono ?_
 rintro e w2 ⟨p, rfl, hp, hb2⟩
 have hs2 := hb2.size
 have hsz := HM.out.sz
 have hb12 := HB1.out.trans (hb2.mono hs1)
 have hg2 := qh9 ((hb12.block (w.heap.size + 1) (by omega)).trans HM.out.b1)
 have hbw := qh9 (HM.out.bel.trans (hb12.mono (by omega)))
 clear hb12
 go_wp2_with (refine storeV (w1 := w2) rfl (.tmp 2) (.tmp 34) rfl (w.heap.size + 1) _ _ rfl rfl hp _ _ hg2.out rfl ?_)
 exact retXD (q := 2) rfl rfl hg2.out hp (fun h => by
  rcases h with h | ⟨h, _⟩
  · exact h
  · omega) (fun b hb => by
  rcases hb with hb | ⟨h1, h2⟩
  · exact hb.elim
  · exact .inr ⟨by omega, h2⟩) (by omega) hbw.out OK.out

theorem mkRetXD {w W : World} {m : Nat} {q : Rat} (hb : Below w.heap.size w W) {z0 z1 z2 z3 z4 z5 z6 : Value} (h1 : W.heap[w.heap.size + 1]? = some (.cells #[z0, z1, z2, z3, z4, z5, z6] 27 (0, 0))) (ok : OkO m (.num q)) {fn : Func} {r : Tmp} {tmps : Array Value}
 (h : fn.results = #[.cell r 27]) (hr : tmps.getD r undef = .pointer (some ⟨w.heap.size + 1, 0, none⟩)) :
 bodyPost Tryz.prog fn (RetXD w m (.num q)) Exit.ret ⟨tmps, []⟩ (((((((W.setCell ⟨w.heap.size + 1, 0, none⟩ (.int .i64 1)).setCell ⟨w.heap.size + 1, 1, none⟩ (.string (nt q))).setCell ⟨w.heap.size + 1, 2, none⟩ (.string (dt q))).setCell ⟨w.heap.size + 1, 3, none⟩ (.string ⟨#[]⟩)).setCell ⟨w.heap.size + 1, 4, none⟩ (.string ⟨#[]⟩)).setCell ⟨w.heap.size + 1, 5, none⟩ (.string ⟨#[]⟩)).setCell ⟨w.heap.size + 1, 6, none⟩ (.slice none 0 0)) := by
 rw [setRow7 h1 rfl]
 exact retXD (S' := NoB) (o := .num q) (p := .slice none 0 0) h hr h1 rfl (fun h => h) (fun _ h => h.elim) (by omega) hb ok

theorem dRat (k n : Int) (s : ByteArray) (A : Option Addr) (L c : Nat) (w : World) (m : Nat) (hm : 1 ≤ m) (hq : k % 8 = 2) (hk : I64 k) (hn : I64 n) (hs : s.size ≤ 12) (ht : Tab w) :
 Calls Tryz.prog 21 #[.agg #[.int .i64 k, .int .i64 n, .string s, .slice A L c]] w (RetXD w m (.num (quo (LA (BA (text (n % 41 - 20)))) (LA (BA (text (1 + (s.size : Int)))))))) := by
 obtain ⟨X, hX⟩ : ∃ X, quo (LA (BA (text (n % 41 - 20)))) (LA (BA (text (1 + (s.size : Int))))) = X := ⟨_, rfl⟩
 rw [hX]
 have HX := qh9 hX
 clear hX
 have HT := qh9 ht
 have HK := qh9 hk
 have HN := qh9 hn
 have HQ := qh9 hq
 clear hk hq hn ht
 go_enter Tryz.func21, Tryz.ntmps21
 go_wp2_with fail
 have M := MkW.new w #[.int .i64 k, .int .i64 n, .string s, .slice A L c]
 refine (modO k 8 _ HK.out.1 HK.out.2 (by decide) (by decide)).mono ?_
 rintro e w1 ⟨rfl, rfl⟩
 generalize (w.alloc (.cells #[.int .i64 k, .int .i64 n, .string s, .slice A L c] 40)).alloc (.cells #[.int .i64 0, .string ⟨#[]⟩, .string ⟨#[]⟩, .string ⟨#[]⟩, .string ⟨#[]⟩, .string ⟨#[]⟩, .slice none 0 0] 27) = W at M ⊢
 have c1 : W.cell? ⟨w.heap.size, 1, none⟩ = some (.int .i64 n) := M.cell 1
 have c2 : W.cell? ⟨w.heap.size, 2, none⟩ = some (.string s) := M.cell 2
 have HM := qh9 M
 clear M
 have hq := HQ.out
 clear HQ
 generalize k % 8 = q at hq ⊢
 subst hq
 have j0 := Int.emod_nonneg n (show (41 : Int) ≠ 0 by decide)
 have j1 := Int.emod_lt_of_pos n (show (0 : Int) < 41 by decide)
 have CM : Hid (∀ W, Calls Tryz.prog 46 #[.int .i64 n, .int .i64 41] W fun e w' => e = .returned (.int .i64 (n % 41)) ∧ W = w') := fun W => modO n 41 W HN.out.1 HN.out.2 (by decide) (by decide)
 generalize n % 41 = j at j0 j1 CM HX
 obtain ⟨z, hz⟩ : ∃ z : Nat, s.size = z := ⟨_, rfl⟩
 have hz12 : z ≤ 12 := by omega
 have HB : Hid (∀ W', Below W.heap.size W W' → Tab W') := fun W' h => HT.out.below (HM.out.below h).1
 have CF1 : Hid (∀ W', Below W.heap.size W W' → Calls Tryz.prog 78 #[.int .i64 (j - 20)] W' (RetS W' (j - 20))) := fun W' h => fromIntR _ W' (i64_small (by omega)) (HB.out W' h)
 have CF2 : Hid (∀ W', Below W.heap.size W W' → Calls Tryz.prog 78 #[.int .i64 (1 + (s.size : Int))] W' (RetS W' (1 + (s.size : Int)))) := fun W' h => fromIntR _ W' (i64_small (by omega)) (HB.out W' h)
 have t1 : (BA (text (j - 20))).size ≤ 10 := by
  rw [BA_size]; exact Nat.le_trans (text_length (k := 4) (by omega)) (by omega)
 have t2 : (BA (text (1 + (s.size : Int)))).size ≤ 10 := by
  rw [BA_size]; exact Nat.le_trans (text_length (k := 4) (by omega)) (by omega)
 have CQ : Hid (∀ W', Calls Tryz.prog 64 #[.string (BA (text (j - 20))), .string (BA (text (1 + (s.size : Int))))] W' (RetN W' (quo (LA (BA (text (j - 20)))) (LA (BA (text (1 + (s.size : Int)))))))) := fun W' => ratRN _ _ W' (by omega) (by omega)
 have OK : Hid (OkO m (.num (quo (LA (BA (text (j - 20)))) (LA (BA (text (1 + (s.size : Int)))))))) := ⟨(bd_quo (k := 10) (by show (BA _).size ≤ 10; omega) (by show (BA _).size ≤ 10; omega) (by decide)), hm, trivial⟩
 rw [HX.out] at CQ OK
 have HS := qh9 hs
 have HC : Hid (∀ W', Below W.heap.size W W' → W'.cell? ⟨w.heap.size, 1, none⟩ = some (.int .i64 n) ∧ W'.cell? ⟨w.heap.size, 2, none⟩ = some (.string s)) := fun W' h => ⟨by rw [cell_of_row _ _ _ _ _ _ (HM.out.below h).2.1]; rfl, by rw [cell_of_row _ _ _ _ _ _ (HM.out.below h).2.1]; rfl⟩
 have e1 : IntKind.i64.wrap (j - 20) = j - 20 := IntWalk.i64_in _ (by omega)
 have e2 : IntKind.i64.wrap (1 + (s.size : Int)) = 1 + (s.size : Int) := IntWalk.i64_in _ (by omega)
 clear t1 t2 hz hz12 hs j0 j1
 have hB0 : Below W.heap.size W W.drew := (Below.refl _ _).drew
 go_wp2_with fail
 go_region_held3 (fun W' => W'.cell? ⟨w.heap.size, 1, none⟩ = some (.int .i64 n) ∧ W'.cell? ⟨w.heap.size, 2, none⟩ = some (.string s))
  (go_keep)
  (first
    | (go_at_call 46; refine (CM.out _).mono ?_; rintro e w3 ⟨rfl, rfl⟩)
    | (go_at_call 78; (with_reducible refine (CF1.out _ ‹Below W.heap.size W _›).mono ?_); rintro e w3 ⟨rfl, hb3⟩; have hB3 := chain2 ‹Below W.heap.size W _› hb3 (Nat.le_refl _); clear hb3 c1 c2; obtain ⟨c1, c2⟩ := HC.out _ hB3)
    | (go_at_call 78; (with_reducible refine (CF2.out _ ‹Below W.heap.size W _›).mono ?_); rintro e w4 ⟨rfl, hb4⟩; have hB4 := chain2 ‹Below W.heap.size W _› hb4 (Nat.le_refl _); clear hb4 c1 c2; obtain ⟨c1, c2⟩ := HC.out _ hB4)
    | (go_at_call 64; refine (CQ.out _).mono ?_; rintro e w5 ⟨rfl, hb5⟩; have hB5 := chain2 ‹Below W.heap.size W _› hb5 (Nat.le_refl _); clear hb5 c1 c2; obtain ⟨c1, c2⟩ := HC.out _ hB5; have hg5 := (HM.out.below hB5).2.2; obtain ⟨⟨z0, z1, z2, z3, z4, z5, z6⟩, hz0⟩ := row7 hg5; clear hg5; unfold vQ))
 all_goals go_wp2
 all_goals exact mkRetXD (HM.out.below ‹Below W.heap.size W _›).1 (HM.out.below ‹Below W.heap.size W _›).2.2 OK.out rfl rfl
def consD (S : Nat → Prop) (r : Rw) (B m0 m1 : Nat) (o0 o1 : Ob) (raw : Value) (i : Nat) (v : Value) (lo hi : Nat) (w : World) : Prop :=
 match i with
 | 0 => v = raw
 | 1 => ∃ cs, v = .agg cs.toArray ∧ RawAt w S (partV r 0) cs ∧ In S w
 | 2 => ∃ p, v = vO o0 p ∧ Pair w (fun b => lo ≤ b ∧ b < hi) o0 p ∧ OkO m0 o0
 | 3 => v = raw
 | 4 => ∃ cs, v = .agg cs.toArray ∧ RawAt w S (partV r 1) cs ∧ In S w
 | 5 => ∃ p, v = vO o1 p ∧ Pair w (fun b => lo ≤ b ∧ b < hi) o1 p ∧ OkO m1 o1
 | _ => ∃ p, v = vO (.cons o0 o1) p ∧ Pair w (fun b => B ≤ b ∧ b < hi) (.cons o0 o1) p ∧ OkO (1 + m0 + m1) (.cons o0 o1)
theorem consD_mono {S : Nat → Prop} {r : Rw} {B m0 m1 : Nat} {o0 o1 : Ob} {raw : Value} : ∀ i x l m w w', consD S r B m0 m1 o0 o1 raw i x l m w → m ≤ w.heap.size → Below w.heap.size w w' → consD S r B m0 m1 o0 o1 raw i x l m w' := by
 intro i x l m w w' h hm hb
 match i, h with
 | 0, h => exact h
 | 3, h => exact h
 | 1, ⟨cs, h1, h2, h3⟩ => exact ⟨cs, h1, h2.below h3 hb, h3.later hb.size⟩
 | 4, ⟨cs, h1, h2, h3⟩ => exact ⟨cs, h1, h2.below h3 hb, h3.later hb.size⟩
 | 2, ⟨p, h1, h2, h3⟩ => exact ⟨p, h1, h2.below (fun b hb => by omega) hb, h3⟩
 | 5, ⟨p, h1, h2, h3⟩ => exact ⟨p, h1, h2.below (fun b hb => by omega) hb, h3⟩
 | i + 6, ⟨p, h1, h2, h3⟩ => exact ⟨p, h1, h2.below (fun b hb => by omega) hb, h3⟩

theorem dCons (k n : Int) (s : ByteArray) (A : Option Addr) (L c : Nat) (w : World) (S : Nat → Prop) (hS : In S w) (r : Rw) (m0 m1 : Nat) (o0 o1 : Ob) (hq : k % 8 = 5) (hk : I64 k) (ht : Tab w)
 (hr : RawAt w S r [.int .i64 k, .int .i64 n, .string s, .slice A L c])
 (K0 : ∀ w cs, In S w → RawAt w S (partV r 0) cs → Tab w → Calls Tryz.prog 21 #[.agg cs.toArray] w (RetXD w m0 o0))
 (K1 : ∀ w cs, In S w → RawAt w S (partV r 1) cs → Tab w → Calls Tryz.prog 21 #[.agg cs.toArray] w (RetXD w m1 o1)) :
 Calls Tryz.prog 21 #[.agg #[.int .i64 k, .int .i64 n, .string s, .slice A L c]] w (RetXD w (1 + m0 + m1) (.cons o0 o1)) := by
 obtain ⟨X, hX⟩ : ∃ X, Ob.cons o0 o1 = X := ⟨_, rfl⟩
 rw [hX]
 have HX := qh9 hX
 clear hX
 have HT := qh9 ht
 have HK := qh9 hk
 have HQ := qh9 hq
 have HS := qh9 hS
 have HR := qh9 hr
 have H0 := qh9 K0
 have H1 := qh9 K1
 clear hk hq ht hS hr K0 K1
 go_enter Tryz.func21, Tryz.ntmps21
 go_wp2_with fail
 have M := MkW.new w #[.int .i64 k, .int .i64 n, .string s, .slice A L c]
 refine (modO k 8 _ HK.out.1 HK.out.2 (by decide) (by decide)).mono ?_
 rintro e w1 ⟨rfl, rfl⟩
 generalize (w.alloc (.cells #[.int .i64 k, .int .i64 n, .string s, .slice A L c] 40)).alloc (.cells #[.int .i64 0, .string ⟨#[]⟩, .string ⟨#[]⟩, .string ⟨#[]⟩, .string ⟨#[]⟩, .string ⟨#[]⟩, .slice none 0 0] 27) = W at M ⊢
 have HM := qh9 M
 clear M
 have hq := HQ.out
 clear HQ
 generalize k % 8 = q at hq ⊢
 subst hq
 go_wp2_with fail
 have HSW := HS.out.later HM.out.bel.size
 refine wp_region_grow (l := _) 7 (by kernel_rfl) (by kernel_rfl) (fun i => 42 + i) (consD S r W.heap.size m0 m1 o0 o1 (.agg #[.int .i64 k, .int .i64 n, .string s, .slice A L c])) consD_mono (fun i j _ _ h => by omega) (fun i hi => by show 42 + i < 67; omega) ?step ?done
 case step =>
  intro i hi a w2 v lo hi' hoth hb hw
  have hB := HM.out.below hb
  have h1 : a.tmps[1]? = some (.pointer (some ⟨w.heap.size, 0, none⟩)) := (hoth 1 (fun j hj => by omega)).trans rfl
  have hT : Tab w2 := HT.out.below hB.1
  have hIn : In S w2 := HS.out.later hB.1.size
  have hraw : RawAt w2 S r [.int .i64 k, .int .i64 n, .string s, .slice A L c] := HR.out.below HS.out hB.1
  match i, hi with
  | 0, _ =>
   refine grow_load rfl rfl 40 (.tmp 1) rfl w.heap.size 0 (eval_of h1) [.int .i64 k, .int .i64 n, .string s, .slice A L c] _ (World.rangeAt_of_block hB.2.1 0 4) Tryz.underlying40 rfl (by kernel_rfl) ⟨_, rfl, Below.refl _ _, rfl⟩
  | 1, _ =>
   obtain ⟨s42, e42, _⟩ := hw 0 (by omega) (by kernel_rfl)
   have e : v 0 = .agg #[.int .i64 k, .int .i64 n, .string s, .slice A L c] := e42
   rw [e] at s42
   refine grow_callc rfl rfl 82 42 (.int .i64 0) _ rfl _ (fun v u w => by go_simp) s42 ?_
   refine (partO r _ 0 w2 S hIn hraw (by decide)).mono ?_
   rintro e w3 ⟨cs, rfl, hcs, hb3⟩
   exact ⟨_, rfl, _, rfl, hb3, cs, rfl, hcs, hIn.later hb3.size⟩
  | 2, _ =>
   obtain ⟨s43, ⟨cs, e43, hcs, hin⟩, _⟩ := hw 1 (by omega) (by kernel_rfl)
   rw [e43] at s43
   refine grow_call1 rfl rfl 21 43 _ rfl _ (fun v w => by go_simp) s43 ?_
   refine (H0.out w2 cs hin hcs hT).mono ?_
   rintro e w3 ⟨p, rfl, hp, hb3, ok⟩
   exact ⟨_, rfl, _, rfl, hb3, p, rfl, hp.more (fun b h => by rcases h with h | h; exact h.elim; exact h), ok⟩
  | 3, _ =>
   refine grow_load rfl rfl 40 (.tmp 1) rfl w.heap.size 0 (eval_of h1) [.int .i64 k, .int .i64 n, .string s, .slice A L c] _ (World.rangeAt_of_block hB.2.1 0 4) Tryz.underlying40 rfl (by kernel_rfl) ⟨_, rfl, Below.refl _ _, rfl⟩
  | 4, _ =>
   obtain ⟨s42, e42, _⟩ := hw 3 (by omega) (by kernel_rfl)
   have e : v 3 = .agg #[.int .i64 k, .int .i64 n, .string s, .slice A L c] := e42
   rw [e] at s42
   refine grow_callc rfl rfl 82 45 (.int .i64 1) _ rfl _ (fun v u w => by go_simp) s42 ?_
   refine (partO r _ 1 w2 S hIn hraw (by decide)).mono ?_
   rintro e w3 ⟨cs, rfl, hcs, hb3⟩
   exact ⟨_, rfl, _, rfl, hb3, cs, rfl, hcs, hIn.later hb3.size⟩
  | 5, _ =>
   obtain ⟨s43, ⟨cs, e43, hcs, hin⟩, _⟩ := hw 4 (by omega) (by kernel_rfl)
   rw [e43] at s43
   refine grow_call1 rfl rfl 21 46 _ rfl _ (fun v w => by go_simp) s43 ?_
   refine (H1.out w2 cs hin hcs hT).mono ?_
   rintro e w3 ⟨p, rfl, hp, hb3, ok⟩
   exact ⟨_, rfl, _, rfl, hb3, p, rfl, hp.more (fun b h => by rcases h with h | h; exact h.elim; exact h), ok⟩
  | 6, _ =>
   obtain ⟨s44, ⟨p1, e44, hp1, ok1⟩, l1, h44⟩ := hw 2 (by omega) (by kernel_rfl)
   obtain ⟨s47, ⟨p2, e47, hp2, ok2⟩, l2, h47⟩ := hw 5 (by omega) (by kernel_rfl)
   rw [e44] at s44
   rw [e47] at s47
   refine grow_call2 rfl rfl 81 44 47 _ rfl _ _ (fun v u w => by go_simp) s44 s47 ?_
   refine (consO o0 o1 p1 p2 w2 (fun b => W.heap.size ≤ b ∧ b < w2.heap.size) (fun b h => h.2) (hp1.more fun b h => by omega) (hp2.more fun b h => by omega)).mono ?_
   rintro e w3 ⟨p, rfl, hp, hb3⟩
   have h23 := hb3.size
   have h02 := hb.size
   exact ⟨_, rfl, _, rfl, hb3, p, rfl, hp.more (fun b h => by rcases h with h | h <;> omega), ⟨ok1.1, ok2.1⟩, by have := ok1.2; have := ok2.2; show 1 + o0.nodes + o1.nodes ≤ _; omega, ⟨ok1.3, ok2.3⟩⟩
 case done =>
  intro a w2 v lo hi hdef hsz hoth hb hj hap
  obtain ⟨h6, ⟨p, hv, hp, ok⟩, _, hhi⟩ := hj 6 (by omega)
  have ha := eq_puts hdef hsz hoth (fun i hi => (hj i hi).1)
  have hB := HM.out.below hb
  have hsz0 := HM.out.sz
  have hsb := hb.size
  have hg2 := qh9 hB.2.2
  have hbw := qh9 hB.1
  rw [HX.out] at hv hp ok
  have HO := qh9 ok
  subst ha
  clear hj hap hoth hdef hsz ok hB hb h6
  simp only [puts, Nat.reduceAdd, hv]
  generalize v 0 = v0
  generalize v 1 = v1
  generalize v 2 = v2
  generalize v 3 = v3
  generalize v 4 = v4
  generalize v 5 = v5
  clear hv
  show wpList _ _ _ [_] _ _
  simp only [Act.put, List.setIfInBounds_toArray, List.set_cons_zero, List.set_cons_succ]
  go_wp2_with (refine storeV (w1 := w2) rfl (.tmp 2) (.tmp 48) rfl (w.heap.size + 1) _ _ rfl rfl hp _ _ hg2.out rfl ?_)
  exact retXD (q := 2) rfl rfl hg2.out hp (fun h => by omega) (fun b hb => .inr ⟨by omega, by omega⟩) (by omega) hbw.out HO.out
structure MkLE (E : Rw → Ob) (B : Nat) (W wr : World) (l : List Rw) (i : Nat) (v : Value) (xs : List (Ob × Value)) : Prop extends MkL B W wr l i v xs where
 ob : fsts xs = (l.take i).map E
theorem MkLE.snoc {E : Rw → Ob} {B : Nat} {W wr : World} {l : List Rw} {i : Nat} {v : Value} {xs : List (Ob × Value)} (h : MkLE E B W wr l i v xs) (hi : i < l.length) {a : Ob} (ha : E l[i] = a) (p : Value) : fsts (xs ++ [(a, p)]) = (l.take (i + 1)).map E := by
 have := h.ob
 rw [List.take_succ_eq_append_getElem hi, List.map_append, ← this, ← ha]
 simp [fsts]

theorem dList (k n : Int) (s : ByteArray) (A : Option Addr) (c : Nat) (w : World) (S : Nat → Prop) (hS : In S w) (l : List Rw) (E : Rw → Ob) (hL : l.length ≤ 6) (hq : k % 8 = 6 ∨ k % 8 = 7) (hk : I64 k) (ht : Tab w)
 (hA : 0 < l.length → ∃ b o, A = some ⟨b, o, none⟩ ∧ S b ∧ RawsAt w S b o l) (hc : l.length ≤ c)
 (KI : ∀ i (hi : i < l.length), ∀ w cs, In S w → RawAt w S l[i] cs → Tab w → Calls Tryz.prog 21 #[.agg cs.toArray] w (RetXD w (4 * l[i].cnt - 1) (E l[i]))) :
 Calls Tryz.prog 21 #[.agg #[.int .i64 k, .int .i64 n, .string s, .slice A l.length c]] w (RetXD w (1 + 4 * Rw.cnts l) (Ob.list (l.map E))) := by
 obtain ⟨X, hX⟩ : ∃ X, Ob.list (l.map E) = X := ⟨_, rfl⟩
 rw [hX]
 have HX := qh9 hX
 clear hX
 have HT := qh9 ht
 have HK := qh9 hk
 have HQ := qh9 hq
 have HS := qh9 hS
 have HA := qh9 hA
 have HI := qh9 KI
 clear hk hq ht hS hA KI
 obtain ⟨L, hLL⟩ : ∃ L, l.length = L := ⟨_, rfl⟩
 rw [hLL] at hL hc ⊢
 have HL := qh9 hLL
 clear hLL
 go_enter Tryz.func21, Tryz.ntmps21
 go_wp2_with fail
 have M := MkW.new w #[.int .i64 k, .int .i64 n, .string s, .slice A L c]
 refine (modO k 8 _ HK.out.1 HK.out.2 (by decide) (by decide)).mono ?_
 rintro e w1 ⟨rfl, rfl⟩
 generalize (w.alloc (.cells #[.int .i64 k, .int .i64 n, .string s, .slice A L c] 40)).alloc (.cells #[.int .i64 0, .string ⟨#[]⟩, .string ⟨#[]⟩, .string ⟨#[]⟩, .string ⟨#[]⟩, .string ⟨#[]⟩, .slice none 0 0] 27) = W at M ⊢
 have HM := qh9 M
 clear M
 have hq := HQ.out
 clear HQ
 generalize k % 8 = q at hq ⊢
 have h0 : Hid (MkLE E W.heap.size W W l 0 (.slice none 0 0) []) := ⟨MkL.start W l, rfl⟩
 obtain ⟨i0, hi0, hz0, hz1, hz2⟩ := infoO
 have HI0 := qh9 hi0
 have HZ0 := qh9 hz0
 have HZ1 := qh9 hz1
 have HZ2 := qh9 hz2
 clear hi0 hz0 hz1 hz2
 rcases hq with rfl | rfl
 all_goals
  go_wp2_with fail
  go_loopw [3, 4] (fun u v wr => ∃ (i : Nat) (xs : List (Ob × Value)) (sl : Value), sl = u ∧ i ≤ L ∧ v = .int .i64 (i : Int) ∧ Hid (MkLE E W.heap.size W wr l i sl xs)) (fun _ v _ => L - (intOf v).toNat)
  case atStart => exact ⟨0, [], _, rfl, Nat.zero_le _, rfl, h0⟩
  case round =>
   clear h0
   obtain ⟨i, xs, sl, rfl, hiL, rfl, hE⟩ := hrel
   obtain ⟨wo, rfl⟩ : ∃ wo : World, wo = wr := ⟨_, rfl⟩
   have hbel := hE.out.bel
   have hB := HM.out.below hbel
   have d3 : wo.cell? ⟨w.heap.size, 3, none⟩ = some (.slice A L c) := by rw [cell_of_row _ _ _ _ _ _ hB.2.1]; rfl
   have hWw := HM.out.sz
   have hs1 := hbel.size
   by_cases hlt : i < L
   · have hil : i < l.length := by rw [HL.out]; exact hlt
     obtain ⟨b, o, hAe, hb, hrs⟩ := HA.out (by omega)
     rw [hAe] at d3
     clear hAe
     obtain ⟨cs, hcs, hcell⟩ := hrs.get hil
     have hcs' := hcs.below HS.out hB.1
     have ha0 : b < w.heap.size := HS.out b hb
     obtain ⟨z0, z1, z2, z3, rfl⟩ : ∃ z0 z1 z2 z3, cs = [z0, z1, z2, z3] := by
      generalize l[i] = r at hcs
      cases r with
      | mk k n s l => unfold RawAt at hcs; obtain ⟨A, c, e, _⟩ := hcs; exact ⟨_, _, _, _, e⟩
     have l0 := (hB.1.cell (p := ⟨b, o + i * 4 + 0, none⟩) ha0).trans (hcell 0 z0 rfl)
     have l1 := (hB.1.cell (p := ⟨b, o + i * 4 + 1, none⟩) ha0).trans (hcell 1 z1 rfl)
     have l2 := (hB.1.cell (p := ⟨b, o + i * 4 + 2, none⟩) ha0).trans (hcell 2 z2 rfl)
     have l3 := (hB.1.cell (p := ⟨b, o + i * 4 + 3, none⟩) ha0).trans (hcell 3 z3 rfl)
     rw [Nat.add_zero] at l0
     obtain ⟨a, ha⟩ : ∃ a, E l[i] = a := ⟨_, rfl⟩
     have call : Hid (Calls Tryz.prog 21 #[.agg #[z0, z1, z2, z3]] wo (RetXD wo (4 * l[i].cnt - 1) a)) := by
      rw [← ha]
      exact HI.out i hil wo [z0, z1, z2, z3] (HS.out.later hB.1.size) hcs' (HT.out.below hB.1)
     have HIL := qh9 hil
     have HEA := qh9 ha
     clear ha
     clear hcell hcs hcs' hrs hbel
     go_wp2_with fail
     refine call.out.mono ?_
     rintro e w3 ⟨p, rfl, hp, hb3, ok⟩
     have own3 := qh9 (hE.out.own3 hb3 (.cells (cellsO a p).toArray 27))
     have HSTEP : Hid (∀ v' w4, w4.ownsRow W.heap.size 27 7 v' (i + 1) (flatC xs ++ cellsO a p) → (w3.alloc (.cells (cellsO a p).toArray 27)).grownBy w4 sl.ownBlock → (v'.ownBlock = sl.ownBlock ∨ v'.ownBlock = some (w3.alloc (.cells (cellsO a p).toArray 27)).heap.size) → MkLE E W.heap.size W w4 l (i + 1) v' (xs ++ [(a, p)])) :=
      fun v' w4 h4 hg hat => ⟨hE.out.step rfl hb3 _ HIL.out hp ok h4 hg hat, hE.out.snoc HIL.out HEA.out p⟩
     have hone : ∀ u ∈ cellsO a p, u.oneCell' = true := by
      have := hp.one
      intro u hu
      rw [Array.all_eq_true_iff_forall_mem] at this
      exact this u (by simpa using hu)
     have hnews : ∀ j u, (cellsO a p)[j]? = some u → (w3.alloc (.cells (cellsO a p).toArray 27)).cell? ((⟨w3.heap.size, 0, none⟩ : Addr).add j) = some u := newsO (cs := (cellsO a p).toArray) rfl
     have hs3 : W.heap.size ≤ (w3.alloc (.cells (cellsO a p).toArray 27)).heap.size := by have := hb3.size; simp; omega
     obtain ⟨x0, x1, x2, x3, x4, x5, ea⟩ := cells7 a p
     rw [ea] at own3 HSTEP hone hnews hs3
     unfold vO
     rw [ea]
     have HONE := qh9 hone
     have HNEWS := qh9 hnews
     clear l0 l1 l2 l3 d3 hp hb3 ok call ea hone hnews hB hs1 hWw
     go_wp2_with (at_builtin; refine wpList_append_own_at _ rfl (.tmp 56) (.tmp 63) _ rfl W.heap.size 27 i0 _ 7 112 Tryz.underlying25 HI0.out HZ0.out HZ1.out HZ2.out rfl (by omega) sl i (flatC xs) rfl own3.out ⟨w3.heap.size, 0, none⟩ 1 1 [x0, x1, x2, x3, x4, x5, p] rfl rfl HNEWS.out HONE.out (by simp only [maxLen]; omega) (by omega) hs3 ?_; intro v4 w4 hown4 hg4 hnil4 hat4; have hst := qh9 (HSTEP.out v4 w4 hown4 hg4 hat4); clear hown4 hg4 hnil4 hat4)
     go_roundw
     case rel => exact ⟨i + 1, _, _, rfl, by omega, by go_num, hst⟩
     case measure => simp [intOf]; omega
   · have hiL2 : i = L := by omega
     have hn : ¬ (i : Int) < L := by omega
     have hbel2 := qh9 hB.1
     have hg2 := qh9 hB.2.2
     have hnod := hE.out.nodes
     rw [hiL2, ← HL.out, List.take_length] at hnod
     have OK : Hid (OkO (1 + 4 * Rw.cnts l) (Ob.list (fsts xs))) := ⟨hE.out.bd, hnod, hE.out.tx⟩
     have hxx : Ob.list (fsts xs) = X := by rw [hE.out.ob, hiL2, ← HL.out, List.take_length, HX.out]
     have hlen : (fsts xs).length = i := by simp [fsts, hE.out.len]
     obtain ⟨A', c', hsl, hc', hA'⟩ := hE.out.slice
     have call := qh9 (listO (fsts xs) A' c' wo (fun b => W.heap.size ≤ b ∧ b < wo.heap.size) (fun b h => h.2) hc' (by omega) hA')
     rw [hxx] at call OK
     clear hE hxx
     subst hsl
     have HL2 := qh9 hlen
     clear hlen hc' hA' hnod hB hbel hiL2 hlt
     generalize fsts xs = os at call
     go_wp2_with fail
     refine call.out.mono ?_
     rintro e w2 ⟨p, rfl, hp, hb2⟩
     have hs2 := hb2.size
     have hg3 := qh9 ((hb2.block (w.heap.size + 1) (by omega)).trans hg2.out)
     have hbw := qh9 (hbel2.out.trans (hb2.mono (by omega)))
     clear call hb2 d3
     go_wp2_with (refine storeV (w1 := w2) rfl (.tmp 2) (.tmp 66) rfl (w.heap.size + 1) _ _ rfl rfl hp _ _ hg3.out rfl ?_)
     exact retXD (q := 2) rfl rfl hg3.out hp (fun h => by
      rcases h with h | h <;> omega) (fun b hb => .inr (by rcases hb with h | h <;> omega)) (by omega) hbw.out OK.out
mutual
def objE : Rw → Ob
 | .mk k n s l => if k % 8 = 0 ∨ k % 8 = 1 then .num ((n % 2001 - 1000 : Int) : Rat) else if k % 8 = 2 then .num (quo (LA (BA (text (n % 41 - 20)))) (LA (BA (text (1 + (s.size : Int)))))) else if k % 8 = 3 then .sym (syE (n % 13).toNat).1 (syE (n % 13).toNat).2 else if k % 8 = 4 then .str (LA s) else if k % 8 = 5 then .cons ((objEs l)[0]?.getD (.num ((0 % 2001 - 1000 : Int) : Rat))) ((objEs l)[1]?.getD (.num ((0 % 2001 - 1000 : Int) : Rat))) else Ob.list (objEs l)
def objEs : List Rw → List Ob
 | [] => []
 | r :: rs => objE r :: objEs rs
end
theorem objEs_map : ∀ l : List Rw, objEs l = l.map objE
 | [] => by unfold objEs; rfl
 | r :: rs => by unfold objEs; rw [objEs_map rs]; rfl
def partE (l : List Rw) (i : Nat) : Ob := match l[i]? with
 | some r => objE r
 | none => (.num ((0 % 2001 - 1000 : Int) : Rat))
theorem partE_eq (l : List Rw) (i : Nat) : (objEs l)[i]?.getD (.num ((0 % 2001 - 1000 : Int) : Rat)) = partE l i := by
 rw [objEs_map, List.getElem?_map]
 unfold partE
 cases l[i]? <;> rfl
section
variable {k n : Int} {s : ByteArray} {l : List Rw}
theorem objE_num (h : k % 8 = 0 ∨ k % 8 = 1) : objE (.mk k n s l) = .num ((n % 2001 - 1000 : Int) : Rat) := by unfold objE; rw [if_pos h]
theorem objE_rat (h : k % 8 = 2) : objE (.mk k n s l) = .num (quo (LA (BA (text (n % 41 - 20)))) (LA (BA (text (1 + (s.size : Int)))))) := by unfold objE; rw [if_neg (by omega), if_pos h]
theorem objE_sym (h : k % 8 = 3) : objE (.mk k n s l) = .sym (syE (n % 13).toNat).1 (syE (n % 13).toNat).2 := by unfold objE; rw [if_neg (by omega), if_neg (by omega), if_pos h]
theorem objE_str (h : k % 8 = 4) : objE (.mk k n s l) = .str (LA s) := by unfold objE; rw [if_neg (by omega), if_neg (by omega), if_neg (by omega), if_pos h]
theorem objE_cons (h : k % 8 = 5) : objE (.mk k n s l) = .cons (partE l 0) (partE l 1) := by unfold objE; rw [if_neg (by omega), if_neg (by omega), if_neg (by omega), if_neg (by omega), if_pos h, partE_eq, partE_eq]
theorem objE_list (h : k % 8 = 6 ∨ k % 8 = 7) : objE (.mk k n s l) = Ob.list (l.map objE) := by unfold objE; rw [if_neg (by omega), if_neg (by omega), if_neg (by omega), if_neg (by omega), if_neg (by omega), objEs_map]
end

theorem dEmpty (cs : List Value) (w : World) (S : Nat → Prop) (h : RawAt w S (.mk 0 0 ⟨#[]⟩ []) cs) (ht : Tab w) : Calls Tryz.prog 21 #[.agg cs.toArray] w (RetXD w 1 (.num ((0 % 2001 - 1000 : Int) : Rat))) := by
 unfold RawAt at h
 obtain ⟨A, c, rfl, hk, hn, _⟩ := h
 exact dInt 0 0 ⟨#[]⟩ A 0 c w 1 (Nat.le_refl _) (.inl rfl) hk hn ht

theorem objectD : ∀ (r : Rw) (cs : List Value) (w : World) (S : Nat → Prop), In S w → RawAt w S r cs → r.ok → Tab w → Calls Tryz.prog 21 #[.agg cs.toArray] w (RetXD w (4 * r.cnt - 1) (objE r)) := by
 intro r
 induction r using Rw.ind with
 | h k n s l ih =>
  intro cs w S hS h hok ht
  have h' := h
  unfold RawAt at h
  obtain ⟨A, c, rfl, hk, hn, hc, hcm, hA⟩ := h
  unfold Rw.ok at hok
  obtain ⟨hs, hl, hoks⟩ := hok
  have hcnt : (Rw.mk k n s l).cnt = 1 + Rw.cnts l := by unfold Rw.cnt; rfl
  rw [hcnt]
  have q0 := Int.emod_nonneg k (show (8 : Int) ≠ 0 by decide)
  have q1 := Int.emod_lt_of_pos k (show (0 : Int) < 8 by decide)
  have hq : k % 8 = 0 ∨ k % 8 = 1 ∨ k % 8 = 2 ∨ k % 8 = 3 ∨ k % 8 = 4 ∨ k % 8 = 5 ∨ k % 8 = 6 ∨ k % 8 = 7 := by omega
  have m1 : 1 ≤ 4 * (1 + Rw.cnts l) - 1 := by omega
  have KP : ∀ i w cs, In S w → RawAt w S (partV (.mk k n s l) i) cs → Tab w → Calls Tryz.prog 21 #[.agg cs.toArray] w (RetXD w (partM l i) (partE l i)) := by
   intro i w cs hS hr ht
   have e : partV (.mk k n s l) i = l.getD i (.mk 0 0 ⟨#[]⟩ []) := rfl
   rw [e, List.getD_eq_getElem?_getD] at hr
   unfold partM partE
   by_cases hi : i < l.length
   · rw [List.getElem?_eq_getElem hi] at hr ⊢
     exact ih l[i] (List.getElem_mem hi) cs w S hS hr (Rw.oks_mem hoks _ (List.getElem_mem hi)) ht
   · rw [List.getElem?_eq_none (by omega)] at hr ⊢
     exact dEmpty cs w S hr ht
  rcases hq with hq | hq | hq | hq | hq | hq | hq | hq
  · rw [objE_num (.inl hq)]
    exact dInt k n s A l.length c w _ m1 (.inl hq) hk hn ht
  · rw [objE_num (.inr hq)]
    exact dInt k n s A l.length c w _ m1 (.inr hq) hk hn ht
  · rw [objE_rat hq]
    exact dRat k n s A l.length c w _ m1 hq hk hn hs ht
  · rw [objE_sym hq]
    exact dSym k n s A l.length c w _ m1 hq hk hn
  · rw [objE_str hq]
    exact dText k n s A l.length c w _ m1 hq hk (by omega)
  · rw [objE_cons hq]
    exact (dCons k n s A l.length c w S hS _ (partM l 0) (partM l 1) (partE l 0) (partE l 1) hq hk ht h' (KP 0) (KP 1)).mono fun _ _ hr => hr.le (partM_le l)
  · rw [objE_list (.inl hq)]
    exact (dList k n s A c w S hS l objE hl (.inl hq) hk ht hA hc (fun i hi w cs hS hr ht => ih l[i] (List.getElem_mem hi) cs w S hS hr (Rw.oks_mem hoks _ (List.getElem_mem hi)) ht)).mono fun _ _ hr => hr.le (by omega)
  · rw [objE_list (.inr hq)]
    exact (dList k n s A c w S hS l objE hl (.inr hq) hk ht hA hc (fun i hi w cs hS hr ht => ih l[i] (List.getElem_mem hi) cs w S hS hr (Rw.oks_mem hoks _ (List.getElem_mem hi)) ht)).mono fun _ _ hr => hr.le (by omega)
def PE (r : Rw) (o : Ob) : Prop := o = objE r
theorem oMkE : OMk PE := fun r cs w S hS h hok ht => (objectD r cs w S hS h hok ht).mono fun e w' ⟨p, h1, h2, h3, h4⟩ => ⟨_, p, h1, h2, h3, h4, rfl⟩
theorem PE.det : ∀ r o o', PE r o → PE r o' → o = o' := fun r o o' h h' => h.trans h'.symm
end Go.Proofs.YtlocnkobancjmaaGreatDoor
