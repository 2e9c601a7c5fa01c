import Derived.Test.YtlocnkobancjmaaGreatDoorAl
import Derived.Test.YtlocnkobancjmaaGreatDoorG31
import Derived.Test.YtlocnkobancjmaaGreatDoorG26
import Derived.Test.YtlocnkobancjmaaGreatDoorG17
import Derived.BigQuiet
import Derived.Test.YtlocnkobancjmaaGreatDoorG29
import Derived.Test.YtlocnkobancjmaaGreatDoorG30
import Derived.Test.YtlocnkobancjmaaGreatDoorG18
import Derived.BigRegion
import Derived.IntWalk
import Derived.Test.YtlocnkobancjmaaGreatDoorG24
import Derived.Test.YtlocnkobancjmaaGreatDoorG25
import Derived.Deep.RegionHeld3
namespace Go.Proofs.YtlocnkobancjmaaGreatDoor
open Go Go.RowKit
set_option linter.unusedVariables false
set_option maxHeartbeats 32000000
set_option maxRecDepth 100000
theorem quotedF (o : Ob) (p : Value) (W0 w : World) (hz : Below W0.heap.size W0 w) (hp : Hd w o p) (oi ox : Ob) (ci : ∀ X, Below W0.heap.size W0 X → Hd X o p → Calls Tryz.prog 146 #[vO o p] X (RetIt X (Has W0) (some [oi, ox])))
 (ce : ∀ X p q, Hd X oi p → Hd X quoteO q → Calls Tryz.prog 105 #[vO oi p, vO quoteO q] X (RetB X false)) :
 Calls Tryz.prog 176 #[vO o p] w (RetQU W0 w none) := by
 have CI := qh9 ci
 have HZ := qh9 hz
 clear ci hz
 obtain ⟨a0, a1, a2, a3, a4, a5, ea⟩ := cells7 (o) p
 have T := Bx2.new w #[a0, a1, a2, a3, a4, a5, p] #[.int .i64 0, .string ⟨#[]⟩, .string ⟨#[]⟩, .string ⟨#[]⟩, .string ⟨#[]⟩, .string ⟨#[]⟩, .slice none 0 0]
 rw [vO_cells ea]
 go_enter Tryz.func176, Tryz.ntmps176
 go_wp2_with fail
 generalize (w.alloc (.cells #[a0, a1, a2, a3, a4, a5, p] 27)).alloc (.cells #[.int .i64 0, .string ⟨#[]⟩, .string ⟨#[]⟩, .string ⟨#[]⟩, .string ⟨#[]⟩, .string ⟨#[]⟩, .slice none 0 0] 27) = W at T ⊢
 have B0 : Hid (Bx W (w.heap.size) (cellsO (o) p).toArray) := by rw [ea]; exact T.b0
 have K0 := qh9 (hp.below T.bel)
 have R0 := qh9 T.b1
 have HW := qh9 T.bel
 try rw [← vO_cells ea]
 clear T ea hp
 with_reducible refine (quoteH _).mono ?_
 rintro e w1 ⟨q0, rfl, k0, hb⟩
 replace B0 := qh9 (B0.out.keep hb)
 replace K0 := qh9 (K0.out.below hb)
 replace R0 := qh9 (R0.out.keep hb)
 replace HW := qc9 HW hb
 clear hb
 replace k0 := qh9 k0
 have T := qh9 (Bx1.new w1 #[.int .i64 0, .string ⟨#[]⟩, .string ⟨#[]⟩, .string ⟨#[]⟩, .string ⟨#[]⟩, .string ⟨#[]⟩, .slice none 0 0])
 go_wp2_with (first | ((with_reducible refine storeB (w1 := w1) (g := w1.heap.size) (b := quoteO) (p := q0) (.tmp 4) (.tmp 8) ?_ ?_ ?_ ?_ k0.out T.out.b0 ?_); rfl; rfl; rfl; rfl; have P := Pt1U.new (w := w1) (o := quoteO) (p := q0) (z := #[.int .i64 0, .string ⟨#[]⟩, .string ⟨#[]⟩, .string ⟨#[]⟩, .string ⟨#[]⟩, .string ⟨#[]⟩, .slice none 0 0]); generalize World.setRow (w1.alloc (.cells #[.int .i64 0, .string ⟨#[]⟩, .string ⟨#[]⟩, .string ⟨#[]⟩, .string ⟨#[]⟩, .string ⟨#[]⟩, .slice none 0 0] 27)) w1.heap.size (cellsO (quoteO) q0).toArray = X1 at P ⊢; have hb := P.bel; replace B0 := qh9 (B0.out.keep hb); replace K0 := qh9 (K0.out.below hb); replace R0 := qh9 (R0.out.keep hb); replace HW := qc9 HW hb; replace k0 := qh9 (k0.out.below hb); have D0 := qh9 P.b0; clear P hb T) | ((with_reducible refine loadB (.tmp 1) ?_ ?_ ?_ B0.out ?_); rfl; rfl; rfl) | ((with_reducible refine loadB (.tmp 4) ?_ ?_ ?_ D0.out ?_); rfl; rfl; rfl) | ((with_reducible refine loadG (.tmp 1) ?_ ?_ ?_ B0.out ?_); rfl; rfl; rfl) | ((with_reducible refine loadG (.tmp 4) ?_ ?_ ?_ D0.out ?_); rfl; rfl; rfl))
 with_reducible refine (CI.out _ (HZ.out.trans (HW.out.mono HZ.out.size)) K0.out).mono ?_
 rintro e w2 ⟨hb, g, rfl, hat, hg1, hg2⟩
 have hZ2 := (HZ.out.trans (HW.out.mono HZ.out.size)).trans (hb.mono (Nat.le_trans HZ.out.size HW.out.size))
 unfold ObsAt at hat
 obtain ⟨⟨pi, hpi, hci⟩, hat⟩ := hat
 unfold ObsAt at hat
 obtain ⟨⟨px, hpx, hcx⟩, _⟩ := hat
 have KI := qh9 (hpi.hd (fun b h => Nat.lt_of_lt_of_le h hZ2.size))
 have KX : Hid (Hd W0 ox px) := hpx.keep (fun b h => h) (fun b h => (hZ2.block b h).symm)
 replace B0 := qh9 (B0.out.keep hb)
 replace K0 := qh9 (K0.out.below hb)
 replace R0 := qh9 (R0.out.keep hb)
 replace HW := qc9 HW hb
 replace k0 := qh9 (k0.out.below hb)
 replace D0 := qh9 (D0.out.keep hb)
 have HI : Hid (CAt w2 oi g 0 pi) := ⟨hg2, hci⟩
 have HX : Hid (CAt w2 ox g (0 + 7) px) := ⟨hg2, hcx⟩
 have CE := qh9 ce
 clear hb CI hg1 hZ2 hpi hpx hci hcx hg2 ce
 have e2 : [oi, ox].length = 2 := rfl
 rw [e2]
 clear e2
 go_upto_region 3 with fail
 go_wp2_with fail
 refine wp_region_grow (l := _) 14 (by kernel_rfl) (by kernel_rfl) (fun i => [14, 15, 16, 17, 18, 19, 20, 21, 22, 23, 24, 25, 26, 27].getD i 0) (LR [LV (.bool true), LV (.bool false), LV (.bool false), LV (.slice (some ⟨g, 0, none⟩) 2 2), LV (.int .i64 2), LV (.bool false), LV (.bool false), LV (.bool false), LV (.slice (some ⟨g, 0, none⟩) 2 2), LV (.pointer (some ⟨g, 0, none⟩)), LV (vO (oi) pi), LV (vO (quoteO) q0), LV (.bool false), LV (.bool true)]) (LR_mono (l := [LV (.bool true), LV (.bool false), LV (.bool false), LV (.slice (some ⟨g, 0, none⟩) 2 2), LV (.int .i64 2), LV (.bool false), LV (.bool false), LV (.bool false), LV (.slice (some ⟨g, 0, none⟩) 2 2), LV (.pointer (some ⟨g, 0, none⟩)), LV (vO (oi) pi), LV (vO (quoteO) q0), LV (.bool false), LV (.bool true)]) ⟨mLV _, mLV _, mLV _, mLV _, mLV _, mLV _, mLV _, mLV _, mLV _, mLV _, mLV _, mLV _, mLV _, mLV _, trivial⟩) (by
  intro i j hi hj h
  exact inj_getD [14, 15, 16, 17, 18, 19, 20, 21, 22, 23, 24, 25, 26, 27] (by decide) i j hi hj h) (by
  intro i hi
  exact lt_getD 33 [14, 15, 16, 17, 18, 19, 20, 21, 22, 23, 24, 25, 26, 27] (by decide) i hi) ?step ?done
 case step =>
  intro i hi a w9 v lo hi' hoth hb hw
  have sl6 : a.tmps[6]? = some (.bool true) := (hoth 6 (fun j hj => by
   have := ne_getD 6 [14, 15, 16, 17, 18, 19, 20, 21, 22, 23, 24, 25, 26, 27] (by decide) j hj
   exact this)).trans rfl
  have sl5 : a.tmps[5]? = some (.slice (some ⟨g, 0, none⟩) 2 2) := (hoth 5 (fun j hj => by
   have := ne_getD 5 [14, 15, 16, 17, 18, 19, 20, 21, 22, 23, 24, 25, 26, 27] (by decide) j hj
   exact this)).trans rfl
  have sl4 : a.tmps[4]? = some (.pointer (some ⟨w1.heap.size, 0, none⟩)) := (hoth 4 (fun j hj => by
   have := ne_getD 4 [14, 15, 16, 17, 18, 19, 20, 21, 22, 23, 24, 25, 26, 27] (by decide) j hj
   exact this)).trans rfl
  match i, hi with
  | 0, _ =>
   exact gw_move rfl (wanted_plain rfl) 6 _ rfl sl6 ⟨_, rfl, Below.refl _ _, rfl⟩
  | 1, _ =>
   obtain ⟨s0, r0, _⟩ := hw 0 (by omega) (by kernel_rfl)
   have e0 : v 0 = .bool true := r0
   rw [e0] at s0
   exact gw_not rfl (wanted_plain rfl) 14 _ _ rfl s0 ⟨_, rfl, Below.refl _ _, rfl⟩
  | 2, _ =>
   obtain ⟨s0, r0, _⟩ := hw 1 (by omega) (by kernel_rfl)
   have e0 : v 1 = .bool false := r0
   rw [e0] at s0
   exact gw_move rfl (wanted_plain rfl) 15 _ rfl s0 ⟨_, rfl, Below.refl _ _, rfl⟩
  | 3, _ =>
   obtain ⟨s9, r9, _⟩ := hw 2 (by omega) (by kernel_rfl)
   have e9 : v 2 = .bool false := r9
   rw [e9] at s9
   exact gw_move rfl (wanted_on rfl rfl rfl s9 rfl) 5 _ rfl sl5 ⟨_, rfl, Below.refl _ _, rfl⟩
  | 4, _ =>
   obtain ⟨s9, r9, _⟩ := hw 2 (by omega) (by kernel_rfl)
   have e9 : v 2 = .bool false := r9
   rw [e9] at s9
   obtain ⟨s0, r0, _⟩ := hw 3 (by omega) (by kernel_rfl)
   have e0 : v 3 = .slice (some ⟨g, 0, none⟩) 2 2 := r0
   rw [e0] at s0
   exact gw_lenU rfl (wanted_on rfl rfl rfl s9 rfl) 17 _ _ _ rfl s0 ⟨_, rfl, Below.refl _ _, rfl⟩
  | 5, _ =>
   obtain ⟨s9, r9, _⟩ := hw 2 (by omega) (by kernel_rfl)
   have e9 : v 2 = .bool false := r9
   rw [e9] at s9
   obtain ⟨s0, r0, _⟩ := hw 4 (by omega) (by kernel_rfl)
   have e0 : v 4 = .int .i64 2 := r0
   rw [e0] at s0
   exact gw_neqU rfl (wanted_on rfl rfl rfl s9 rfl) 18 _ rfl s0 ⟨_, rfl, Below.refl _ _, rfl⟩
  | 6, _ =>
   obtain ⟨s0, r0, _⟩ := hw 2 (by omega) (by kernel_rfl)
   have e0 : v 2 = .bool false := r0
   rw [e0] at s0
   obtain ⟨s1, r1, _⟩ := hw 5 (by omega) (by kernel_rfl)
   have e1 : v 5 = .bool false := r1
   rw [e1] at s1
   exact gw_pickU rfl (wanted_plain rfl) 16 19 _ _ rfl s0 s1 ⟨_, rfl, Below.refl _ _, rfl⟩
  | 7, _ =>
   obtain ⟨s0, r0, _⟩ := hw 6 (by omega) (by kernel_rfl)
   have e0 : v 6 = .bool false := r0
   rw [e0] at s0
   exact gw_move rfl (wanted_plain rfl) 20 _ rfl s0 ⟨_, rfl, Below.refl _ _, rfl⟩
  | 8, _ =>
   obtain ⟨s9, r9, _⟩ := hw 7 (by omega) (by kernel_rfl)
   have e9 : v 7 = .bool false := r9
   rw [e9] at s9
   exact gw_move rfl (wanted_on rfl rfl rfl s9 rfl) 5 _ rfl sl5 ⟨_, rfl, Below.refl _ _, rfl⟩
  | 9, _ =>
   obtain ⟨s9, r9, _⟩ := hw 7 (by omega) (by kernel_rfl)
   have e9 : v 7 = .bool false := r9
   rw [e9] at s9
   obtain ⟨s0, r0, _⟩ := hw 8 (by omega) (by kernel_rfl)
   have e0 : v 8 = .slice (some ⟨g, 0, none⟩) 2 2 := r0
   rw [e0] at s0
   exact gw_idxU rfl (wanted_on rfl rfl rfl s9 rfl) 22 _ _ _ rfl s0 ⟨_, rfl, Below.refl _ _, rfl⟩
  | 10, _ =>
   obtain ⟨s9, r9, _⟩ := hw 7 (by omega) (by kernel_rfl)
   have e9 : v 7 = .bool false := r9
   rw [e9] at s9
   obtain ⟨s0, r0, _⟩ := hw 9 (by omega) (by kernel_rfl)
   have e0 : v 9 = .pointer (some ⟨g, 0, none⟩) := r0
   rw [e0] at s0
   exact gw_ldU rfl (wanted_on rfl rfl rfl s9 rfl) 23 rfl s0 (HI.out.below hb) ⟨_, rfl, Below.refl _ _, rfl⟩
  | 11, _ =>
   obtain ⟨s9, r9, _⟩ := hw 7 (by omega) (by kernel_rfl)
   have e9 : v 7 = .bool false := r9
   rw [e9] at s9
   exact gw_box rfl (wanted_on rfl rfl rfl s9 rfl) (.tmp 4) rfl (eval_of sl4) (D0.out.keep hb) ⟨_, rfl, Below.refl _ _, rfl⟩
  | 12, _ =>
   obtain ⟨s9, r9, _⟩ := hw 7 (by omega) (by kernel_rfl)
   have e9 : v 7 = .bool false := r9
   rw [e9] at s9
   obtain ⟨s0, r0, _⟩ := hw 10 (by omega) (by kernel_rfl)
   have e0 : v 10 = vO (oi) pi := r0
   rw [e0] at s0
   obtain ⟨s1, r1, _⟩ := hw 11 (by omega) (by kernel_rfl)
   have e1 : v 11 = vO (quoteO) q0 := r1
   rw [e1] at s1
   refine gw_tt rfl (wanted_on rfl rfl rfl s9 rfl) 105 24 25 _ _ _ rfl (fun v u w => by go_simp) s0 s1 ?_
   with_reducible refine (CE.out w9 pi q0 (KI.out.below hb) (k0.out.below hb)).mono ?_
   rintro e w3 ⟨rfl, hb3⟩
   exact ⟨_, rfl, _, rfl, hb3, rfl⟩
  | 13, _ =>
   obtain ⟨s9, r9, _⟩ := hw 7 (by omega) (by kernel_rfl)
   have e9 : v 7 = .bool false := r9
   rw [e9] at s9
   obtain ⟨s0, r0, _⟩ := hw 12 (by omega) (by kernel_rfl)
   have e0 : v 12 = .bool false := r0
   rw [e0] at s0
   exact gw_not rfl (wanted_on rfl rfl rfl s9 rfl) 26 _ _ rfl s0 ⟨_, rfl, Below.refl _ _, rfl⟩
  | k + 14, h => exact absurd h (by omega)
 case done =>
  intro a w9 v lo hi' hdef hsz hoth hb hj hap
  obtain ⟨_, hv7, _, _⟩ := hj 7 (by omega)
  obtain ⟨_, hv13, _, _⟩ := hj 13 (by omega)
  have ha := eq_puts hdef hsz hoth (fun i hi => (hj i hi).1)
  subst ha
  clear hj hoth hdef hsz hap
  change v 7 = _ at hv7
  change v 13 = _ at hv13
  simp only [puts, List.getD_cons_zero, List.getD_cons_succ, hv7, hv13]
  generalize v 0 = v0
  generalize v 1 = v1
  generalize v 2 = v2
  generalize v 3 = v3
  generalize v 4 = v4
  generalize v 5 = v5
  generalize v 6 = v6
  generalize v 8 = v8
  generalize v 9 = v9
  generalize v 10 = v10
  generalize v 11 = v11
  generalize v 12 = v12
  clear hv7 hv13
  simp only [Act.put, List.setIfInBounds_toArray, List.set_cons_zero, List.set_cons_succ]
  show wpList _ _ _ [_] _ _
  replace B0 := qh9 (B0.out.keep hb)
  replace K0 := qh9 (K0.out.below hb)
  replace R0 := qh9 (R0.out.keep hb)
  replace HW := qc9 HW hb
  replace k0 := qh9 (k0.out.below hb)
  replace D0 := qh9 (D0.out.keep hb)
  replace KI := qh9 (KI.out.below hb)
  replace HI := qh9 (HI.out.below hb)
  replace HX := qh9 (HX.out.below hb)
  clear hb
  go_wp2_with ((with_reducible refine storeZU (g := w.heap.size + 1) (.tmp 2) (.tmp 29) ?_ ?_ ?_ ?_ R0.out ?_); rfl; rfl; rfl; rfl)
  exact retQNs rfl rfl rfl R0.out (by omega) HW.out
theorem quotedT (o : Ob) (p : Value) (W0 w : World) (hz : Below W0.heap.size W0 w) (hp : Hd w o p) (oi ox : Ob) (ci : ∀ X, Below W0.heap.size W0 X → Hd X o p → Calls Tryz.prog 146 #[vO o p] X (RetIt X (Has W0) (some [oi, ox])))
 (ce : ∀ X p q, Hd X oi p → Hd X quoteO q → Calls Tryz.prog 105 #[vO oi p, vO quoteO q] X (RetB X true)) :
 Calls Tryz.prog 176 #[vO o p] w (RetQU W0 w (some ox)) := by
 have CI := qh9 ci
 have HZ := qh9 hz
 clear ci hz
 obtain ⟨a0, a1, a2, a3, a4, a5, ea⟩ := cells7 (o) p
 have T := Bx2.new w #[a0, a1, a2, a3, a4, a5, p] #[.int .i64 0, .string ⟨#[]⟩, .string ⟨#[]⟩, .string ⟨#[]⟩, .string ⟨#[]⟩, .string ⟨#[]⟩, .slice none 0 0]
 rw [vO_cells ea]
 go_enter Tryz.func176, Tryz.ntmps176
 go_wp2_with fail
 generalize (w.alloc (.cells #[a0, a1, a2, a3, a4, a5, p] 27)).alloc (.cells #[.int .i64 0, .string ⟨#[]⟩, .string ⟨#[]⟩, .string ⟨#[]⟩, .string ⟨#[]⟩, .string ⟨#[]⟩, .slice none 0 0] 27) = W at T ⊢
 have B0 : Hid (Bx W (w.heap.size) (cellsO (o) p).toArray) := by rw [ea]; exact T.b0
 have K0 := qh9 (hp.below T.bel)
 have R0 := qh9 T.b1
 have HW := qh9 T.bel
 try rw [← vO_cells ea]
 clear T ea hp
 with_reducible refine (quoteH _).mono ?_
 rintro e w1 ⟨q0, rfl, k0, hb⟩
 replace B0 := qh9 (B0.out.keep hb)
 replace K0 := qh9 (K0.out.below hb)
 replace R0 := qh9 (R0.out.keep hb)
 replace HW := qc9 HW hb
 clear hb
 replace k0 := qh9 k0
 have T := qh9 (Bx1.new w1 #[.int .i64 0, .string ⟨#[]⟩, .string ⟨#[]⟩, .string ⟨#[]⟩, .string ⟨#[]⟩, .string ⟨#[]⟩, .slice none 0 0])
 go_wp2_with (first | ((with_reducible refine storeB (w1 := w1) (g := w1.heap.size) (b := quoteO) (p := q0) (.tmp 4) (.tmp 8) ?_ ?_ ?_ ?_ k0.out T.out.b0 ?_); rfl; rfl; rfl; rfl; have P := Pt1U.new (w := w1) (o := quoteO) (p := q0) (z := #[.int .i64 0, .string ⟨#[]⟩, .string ⟨#[]⟩, .string ⟨#[]⟩, .string ⟨#[]⟩, .string ⟨#[]⟩, .slice none 0 0]); generalize World.setRow (w1.alloc (.cells #[.int .i64 0, .string ⟨#[]⟩, .string ⟨#[]⟩, .string ⟨#[]⟩, .string ⟨#[]⟩, .string ⟨#[]⟩, .slice none 0 0] 27)) w1.heap.size (cellsO (quoteO) q0).toArray = X1 at P ⊢; have hb := P.bel; replace B0 := qh9 (B0.out.keep hb); replace K0 := qh9 (K0.out.below hb); replace R0 := qh9 (R0.out.keep hb); replace HW := qc9 HW hb; replace k0 := qh9 (k0.out.below hb); have D0 := qh9 P.b0; clear P hb T) | ((with_reducible refine loadB (.tmp 1) ?_ ?_ ?_ B0.out ?_); rfl; rfl; rfl) | ((with_reducible refine loadB (.tmp 4) ?_ ?_ ?_ D0.out ?_); rfl; rfl; rfl) | ((with_reducible refine loadG (.tmp 1) ?_ ?_ ?_ B0.out ?_); rfl; rfl; rfl) | ((with_reducible refine loadG (.tmp 4) ?_ ?_ ?_ D0.out ?_); rfl; rfl; rfl))
 with_reducible refine (CI.out _ (HZ.out.trans (HW.out.mono HZ.out.size)) K0.out).mono ?_
 rintro e w2 ⟨hb, g, rfl, hat, hg1, hg2⟩
 have hZ2 := (HZ.out.trans (HW.out.mono HZ.out.size)).trans (hb.mono (Nat.le_trans HZ.out.size HW.out.size))
 unfold ObsAt at hat
 obtain ⟨⟨pi, hpi, hci⟩, hat⟩ := hat
 unfold ObsAt at hat
 obtain ⟨⟨px, hpx, hcx⟩, _⟩ := hat
 have KI := qh9 (hpi.hd (fun b h => Nat.lt_of_lt_of_le h hZ2.size))
 have KX : Hid (Hd W0 ox px) := hpx.keep (fun b h => h) (fun b h => (hZ2.block b h).symm)
 replace B0 := qh9 (B0.out.keep hb)
 replace K0 := qh9 (K0.out.below hb)
 replace R0 := qh9 (R0.out.keep hb)
 replace HW := qc9 HW hb
 replace k0 := qh9 (k0.out.below hb)
 replace D0 := qh9 (D0.out.keep hb)
 have HI : Hid (CAt w2 oi g 0 pi) := ⟨hg2, hci⟩
 have HX : Hid (CAt w2 ox g (0 + 7) px) := ⟨hg2, hcx⟩
 have CE := qh9 ce
 clear hb CI hg1 hZ2 hpi hpx hci hcx hg2 ce
 have e2 : [oi, ox].length = 2 := rfl
 rw [e2]
 clear e2
 go_upto_region 3 with fail
 go_wp2_with fail
 refine wp_region_grow (l := _) 14 (by kernel_rfl) (by kernel_rfl) (fun i => [14, 15, 16, 17, 18, 19, 20, 21, 22, 23, 24, 25, 26, 27].getD i 0) (LR [LV (.bool true), LV (.bool false), LV (.bool false), LV (.slice (some ⟨g, 0, none⟩) 2 2), LV (.int .i64 2), LV (.bool false), LV (.bool false), LV (.bool false), LV (.slice (some ⟨g, 0, none⟩) 2 2), LV (.pointer (some ⟨g, 0, none⟩)), LV (vO (oi) pi), LV (vO (quoteO) q0), LV (.bool true), LV (.bool false)]) (LR_mono (l := [LV (.bool true), LV (.bool false), LV (.bool false), LV (.slice (some ⟨g, 0, none⟩) 2 2), LV (.int .i64 2), LV (.bool false), LV (.bool false), LV (.bool false), LV (.slice (some ⟨g, 0, none⟩) 2 2), LV (.pointer (some ⟨g, 0, none⟩)), LV (vO (oi) pi), LV (vO (quoteO) q0), LV (.bool true), LV (.bool false)]) ⟨mLV _, mLV _, mLV _, mLV _, mLV _, mLV _, mLV _, mLV _, mLV _, mLV _, mLV _, mLV _, mLV _, mLV _, trivial⟩) (by
  intro i j hi hj h
  exact inj_getD [14, 15, 16, 17, 18, 19, 20, 21, 22, 23, 24, 25, 26, 27] (by decide) i j hi hj h) (by
  intro i hi
  exact lt_getD 33 [14, 15, 16, 17, 18, 19, 20, 21, 22, 23, 24, 25, 26, 27] (by decide) i hi) ?step ?done
 case step =>
  intro i hi a w9 v lo hi' hoth hb hw
  have sl6 : a.tmps[6]? = some (.bool true) := (hoth 6 (fun j hj => by
   have := ne_getD 6 [14, 15, 16, 17, 18, 19, 20, 21, 22, 23, 24, 25, 26, 27] (by decide) j hj
   exact this)).trans rfl
  have sl5 : a.tmps[5]? = some (.slice (some ⟨g, 0, none⟩) 2 2) := (hoth 5 (fun j hj => by
   have := ne_getD 5 [14, 15, 16, 17, 18, 19, 20, 21, 22, 23, 24, 25, 26, 27] (by decide) j hj
   exact this)).trans rfl
  have sl4 : a.tmps[4]? = some (.pointer (some ⟨w1.heap.size, 0, none⟩)) := (hoth 4 (fun j hj => by
   have := ne_getD 4 [14, 15, 16, 17, 18, 19, 20, 21, 22, 23, 24, 25, 26, 27] (by decide) j hj
   exact this)).trans rfl
  match i, hi with
  | 0, _ =>
   exact gw_move rfl (wanted_plain rfl) 6 _ rfl sl6 ⟨_, rfl, Below.refl _ _, rfl⟩
  | 1, _ =>
   obtain ⟨s0, r0, _⟩ := hw 0 (by omega) (by kernel_rfl)
   have e0 : v 0 = .bool true := r0
   rw [e0] at s0
   exact gw_not rfl (wanted_plain rfl) 14 _ _ rfl s0 ⟨_, rfl, Below.refl _ _, rfl⟩
  | 2, _ =>
   obtain ⟨s0, r0, _⟩ := hw 1 (by omega) (by kernel_rfl)
   have e0 : v 1 = .bool false := r0
   rw [e0] at s0
   exact gw_move rfl (wanted_plain rfl) 15 _ rfl s0 ⟨_, rfl, Below.refl _ _, rfl⟩
  | 3, _ =>
   obtain ⟨s9, r9, _⟩ := hw 2 (by omega) (by kernel_rfl)
   have e9 : v 2 = .bool false := r9
   rw [e9] at s9
   exact gw_move rfl (wanted_on rfl rfl rfl s9 rfl) 5 _ rfl sl5 ⟨_, rfl, Below.refl _ _, rfl⟩
  | 4, _ =>
   obtain ⟨s9, r9, _⟩ := hw 2 (by omega) (by kernel_rfl)
   have e9 : v 2 = .bool false := r9
   rw [e9] at s9
   obtain ⟨s0, r0, _⟩ := hw 3 (by omega) (by kernel_rfl)
   have e0 : v 3 = .slice (some ⟨g, 0, none⟩) 2 2 := r0
   rw [e0] at s0
   exact gw_lenU rfl (wanted_on rfl rfl rfl s9 rfl) 17 _ _ _ rfl s0 ⟨_, rfl, Below.refl _ _, rfl⟩
  | 5, _ =>
   obtain ⟨s9, r9, _⟩ := hw 2 (by omega) (by kernel_rfl)
   have e9 : v 2 = .bool false := r9
   rw [e9] at s9
   obtain ⟨s0, r0, _⟩ := hw 4 (by omega) (by kernel_rfl)
   have e0 : v 4 = .int .i64 2 := r0
   rw [e0] at s0
   exact gw_neqU rfl (wanted_on rfl rfl rfl s9 rfl) 18 _ rfl s0 ⟨_, rfl, Below.refl _ _, rfl⟩
  | 6, _ =>
   obtain ⟨s0, r0, _⟩ := hw 2 (by omega) (by kernel_rfl)
   have e0 : v 2 = .bool false := r0
   rw [e0] at s0
   obtain ⟨s1, r1, _⟩ := hw 5 (by omega) (by kernel_rfl)
   have e1 : v 5 = .bool false := r1
   rw [e1] at s1
   exact gw_pickU rfl (wanted_plain rfl) 16 19 _ _ rfl s0 s1 ⟨_, rfl, Below.refl _ _, rfl⟩
  | 7, _ =>
   obtain ⟨s0, r0, _⟩ := hw 6 (by omega) (by kernel_rfl)
   have e0 : v 6 = .bool false := r0
   rw [e0] at s0
   exact gw_move rfl (wanted_plain rfl) 20 _ rfl s0 ⟨_, rfl, Below.refl _ _, rfl⟩
  | 8, _ =>
   obtain ⟨s9, r9, _⟩ := hw 7 (by omega) (by kernel_rfl)
   have e9 : v 7 = .bool false := r9
   rw [e9] at s9
   exact gw_move rfl (wanted_on rfl rfl rfl s9 rfl) 5 _ rfl sl5 ⟨_, rfl, Below.refl _ _, rfl⟩
  | 9, _ =>
   obtain ⟨s9, r9, _⟩ := hw 7 (by omega) (by kernel_rfl)
   have e9 : v 7 = .bool false := r9
   rw [e9] at s9
   obtain ⟨s0, r0, _⟩ := hw 8 (by omega) (by kernel_rfl)
   have e0 : v 8 = .slice (some ⟨g, 0, none⟩) 2 2 := r0
   rw [e0] at s0
   exact gw_idxU rfl (wanted_on rfl rfl rfl s9 rfl) 22 _ _ _ rfl s0 ⟨_, rfl, Below.refl _ _, rfl⟩
  | 10, _ =>
   obtain ⟨s9, r9, _⟩ := hw 7 (by omega) (by kernel_rfl)
   have e9 : v 7 = .bool false := r9
   rw [e9] at s9
   obtain ⟨s0, r0, _⟩ := hw 9 (by omega) (by kernel_rfl)
   have e0 : v 9 = .pointer (some ⟨g, 0, none⟩) := r0
   rw [e0] at s0
   exact gw_ldU rfl (wanted_on rfl rfl rfl s9 rfl) 23 rfl s0 (HI.out.below hb) ⟨_, rfl, Below.refl _ _, rfl⟩
  | 11, _ =>
   obtain ⟨s9, r9, _⟩ := hw 7 (by omega) (by kernel_rfl)
   have e9 : v 7 = .bool false := r9
   rw [e9] at s9
   exact gw_box rfl (wanted_on rfl rfl rfl s9 rfl) (.tmp 4) rfl (eval_of sl4) (D0.out.keep hb) ⟨_, rfl, Below.refl _ _, rfl⟩
  | 12, _ =>
   obtain ⟨s9, r9, _⟩ := hw 7 (by omega) (by kernel_rfl)
   have e9 : v 7 = .bool false := r9
   rw [e9] at s9
   obtain ⟨s0, r0, _⟩ := hw 10 (by omega) (by kernel_rfl)
   have e0 : v 10 = vO (oi) pi := r0
   rw [e0] at s0
   obtain ⟨s1, r1, _⟩ := hw 11 (by omega) (by kernel_rfl)
   have e1 : v 11 = vO (quoteO) q0 := r1
   rw [e1] at s1
   refine gw_tt rfl (wanted_on rfl rfl rfl s9 rfl) 105 24 25 _ _ _ rfl (fun v u w => by go_simp) s0 s1 ?_
   with_reducible refine (CE.out w9 pi q0 (KI.out.below hb) (k0.out.below hb)).mono ?_
   rintro e w3 ⟨rfl, hb3⟩
   exact ⟨_, rfl, _, rfl, hb3, rfl⟩
  | 13, _ =>
   obtain ⟨s9, r9, _⟩ := hw 7 (by omega) (by kernel_rfl)
   have e9 : v 7 = .bool false := r9
   rw [e9] at s9
   obtain ⟨s0, r0, _⟩ := hw 12 (by omega) (by kernel_rfl)
   have e0 : v 12 = .bool true := r0
   rw [e0] at s0
   exact gw_not rfl (wanted_on rfl rfl rfl s9 rfl) 26 _ _ rfl s0 ⟨_, rfl, Below.refl _ _, rfl⟩
  | k + 14, h => exact absurd h (by omega)
 case done =>
  intro a w9 v lo hi' hdef hsz hoth hb hj hap
  obtain ⟨_, hv7, _, _⟩ := hj 7 (by omega)
  obtain ⟨_, hv13, _, _⟩ := hj 13 (by omega)
  have ha := eq_puts hdef hsz hoth (fun i hi => (hj i hi).1)
  subst ha
  clear hj hoth hdef hsz hap
  change v 7 = _ at hv7
  change v 13 = _ at hv13
  simp only [puts, List.getD_cons_zero, List.getD_cons_succ, hv7, hv13]
  generalize v 0 = v0
  generalize v 1 = v1
  generalize v 2 = v2
  generalize v 3 = v3
  generalize v 4 = v4
  generalize v 5 = v5
  generalize v 6 = v6
  generalize v 8 = v8
  generalize v 9 = v9
  generalize v 10 = v10
  generalize v 11 = v11
  generalize v 12 = v12
  clear hv7 hv13
  simp only [Act.put, List.setIfInBounds_toArray, List.set_cons_zero, List.set_cons_succ]
  show wpList _ _ _ [_] _ _
  replace B0 := qh9 (B0.out.keep hb)
  replace K0 := qh9 (K0.out.below hb)
  replace R0 := qh9 (R0.out.keep hb)
  replace HW := qc9 HW hb
  replace k0 := qh9 (k0.out.below hb)
  replace D0 := qh9 (D0.out.keep hb)
  replace KI := qh9 (KI.out.below hb)
  replace HI := qh9 (HI.out.below hb)
  replace HX := qh9 (HX.out.below hb)
  clear hb
  have KX1 := qh9 (KX.out.below (HZ.out.trans (HW.out.mono HZ.out.size)))
  go_wp2_with (first | ((with_reducible refine loadCU ?_ ?_ HX.out ?_); exact ⟨_, rfl, rfl⟩; rfl) | ((with_reducible refine storeB (w1 := w9) (g := w.heap.size + 1) (b := ox) (p := px) (.tmp 2) (.tmp 32) ?_ ?_ ?_ ?_ KX1.out R0.out ?_); rfl; rfl; rfl; rfl))
  exact retQSs rfl rfl rfl R0.out rfl KX.out (by omega) HW.out
theorem quotedP (o : Ob) (p : Value) (W0 w : World) (hz : Below W0.heap.size W0 w) (hp0 : Hd W0 o p) (d : Nat) (hd : d ≤ 1000) (hb : o.bd d) (hn : o.nodes ≤ 3000) : Calls Tryz.prog 176 #[vO o p] w (RetQU W0 w (qO o)) := by
 have ci : ∀ X, Below W0.heap.size W0 X → Hd X o p → Calls Tryz.prog 146 #[vO o p] X (RetIt X (Has W0) o.items) := fun X h _ => itemsP o p X (Has W0) (fun b hb => Nat.lt_of_lt_of_le hb h.size) (hp0.keep (fun b h => h) (fun b hb => h.block b hb)) (by omega)
 have hp : Hd w o p := hp0.below hz
 clear hp0
 unfold qO
 cases hi : o.items with
 | none => rw [hi] at ci; exact quotedN o p W0 w hz hp ci
 | some l =>
  rw [hi] at ci
  have hol := Ob.items_eq hi
  match l, ci, hol with
  | [], ci, _ => exact quotedL o p W0 w hz hp [] (by simp) ci
  | [a], ci, _ => exact quotedL o p W0 w hz hp [a] (by simp) ci
  | a :: b :: c :: l, ci, _ => exact quotedL o p W0 w hz hp (a :: b :: c :: l) (by simp) ci
  | [i, x], ci, hol =>
   rw [hol] at hb hn
   have h1 : i.bd d := hb.1
   have h2 : i.nodes ≤ 3000 := by
    have e : (Ob.list [i, x]).nodes = 1 + i.nodes + (Ob.list [x]).nodes := rfl
    omega
   have h3 : quoteO.bd d := (⟨.inl rfl, by decide, by decide⟩ : SyOk lispB [113, 117, 111, 116, 101])
   by_cases e : i = quoteO
   · show Calls _ _ _ _ (RetQU W0 w (if i = quoteO then some x else none))
     rw [if_pos e]
     exact quotedT o p W0 w hz hp i x ci (fun X p q h h' => by
      have := equalP d hd i quoteO p q X (Has X) (In.has X) h h' h1 h3 h2
      rwa [decide_eq_true e] at this)
   · show Calls _ _ _ _ (RetQU W0 w (if i = quoteO then some x else none))
     rw [if_neg e]
     exact quotedF o p W0 w hz hp i x ci (fun X p q h h' => by
      have := equalP d hd i quoteO p q X (Has X) (In.has X) h h' h1 h3 h2
      rwa [decide_eq_false e] at this)
theorem consNG (W0 w : World) (g : Nat) (lv : Value) (cur : ByteArray) (a d : Ob) (p bp bv : Value) (acc R : List UInt8) (L : List Spn) (hW : Below W0.heap.size W0 w) (hP : PrW w W0.heap.size g lv cur bp bv acc)
 (cq : ∀ X, Below w.heap.size w X → Calls Tryz.prog 176 #[vO (.cons a d) p] X (RetQU W0 X none))
 (cl : ∀ X, Below w.heap.size w X → Calls Tryz.prog 177 #[.pointer (some ⟨g, 0, none⟩), vO (.cons a d) p] X (RetGE W0.heap.size g lv cur R L X)) :
 Calls Tryz.prog 126 #[.pointer (some ⟨g, 0, none⟩), vO (.cons a d) p] w (RetGE W0.heap.size g lv cur R L w) := by
 have CQ := qh9 cq
 have CL := qh9 cl
 have HB := qh9 (show W0.heap.size ≤ w.heap.size from hW.size)
 clear cq cl hP hW
 have ea : cellsO (.cons a d) p = [.int .i64 4, .string ⟨#[]⟩, .string ⟨#[]⟩, .string ⟨#[]⟩, .string ⟨#[]⟩, .string ⟨#[]⟩, p] := rfl
 have T := Bx1.new w #[.int .i64 4, .string ⟨#[]⟩, .string ⟨#[]⟩, .string ⟨#[]⟩, .string ⟨#[]⟩, .string ⟨#[]⟩, p]
 rw [vO_cells ea]
 go_enter Tryz.func126, Tryz.ntmps126
 go_upto_region 1 with fail
 generalize w.alloc (.cells #[.int .i64 4, .string ⟨#[]⟩, .string ⟨#[]⟩, .string ⟨#[]⟩, .string ⟨#[]⟩, .string ⟨#[]⟩, p] 27) = W at T ⊢
 have B0 : Hid (Bx W (w.heap.size) (cellsO (.cons a d) p).toArray) := by rw [ea]; exact T.b0
 have HW := qh9 T.bel
 clear T ea
 go_wp2_with (first | ((with_reducible refine loadB (.tmp 3) ?_ ?_ ?_ B0.out ?_); rfl; rfl; rfl))
 with_reducible refine (CQ.out _ HW.out).mono ?_
 rintro e w1 ⟨rfl, hb⟩
 replace B0 := qh9 (B0.out.keep hb)
 replace HW := qc9 HW hb
 clear hb
 have T1 := qh9 (aO_new w1 #[.int .i64 0, .string ⟨#[]⟩, .string ⟨#[]⟩, .string ⟨#[]⟩, .string ⟨#[]⟩, .string ⟨#[]⟩, .slice none 0 0])
 have hb2 : Below w1.heap.size w1 (World.setRow (w1.alloc (.cells #[.int .i64 0, .string ⟨#[]⟩, .string ⟨#[]⟩, .string ⟨#[]⟩, .string ⟨#[]⟩, .string ⟨#[]⟩, .slice none 0 0] 27)) w1.heap.size zeroC) := below_setRowO (aO_below w1 _) (Nat.le_refl _) _
 replace B0 := qh9 (B0.out.keep hb2)
 replace HW := qc9 HW hb2
 clear hb2
 unfold aO at T1
 go_wp2_with (first
  | ((with_reducible refine storeZU (g := w1.heap.size) (.tmp 5) (.tmp 10) ?_ ?_ ?_ ?_ T1.out ?_); rfl; rfl; rfl; rfl; generalize World.setRow (w1.alloc (.cells #[.int .i64 0, .string ⟨#[]⟩, .string ⟨#[]⟩, .string ⟨#[]⟩, .string ⟨#[]⟩, .string ⟨#[]⟩, .slice none 0 0] 27)) w1.heap.size zeroC = X1 at B0 HW ⊢; clear T1)
  | ((with_reducible refine loadB (.tmp 3) ?_ ?_ ?_ B0.out ?_); rfl; rfl; rfl))
 with_reducible refine (CL.out _ HW.out).mono ?_
 rintro e w2 ⟨⟨v, rfl, hv⟩, hp2, hk2⟩
 have HS := HW.out.size
 have KK := qh9 ((KpG.of (g := g) HW.out HB.out).trans hk2)
 have HV := qh9 (hv.keep (S' := fun b => w.heap.size ≤ b ∧ b < w2.heap.size) (fun b hb => ⟨by have := hb.1; omega, hb.2⟩) (fun _ _ _ _ => rfl))
 clear hk2 hv HS
 go_wp2
 go_ret
 exact ⟨⟨v, rfl, HV.out⟩, hp2, KK.out⟩
theorem consQG (W0 w : World) (g : Nat) (l : List Sy.Pg) (lv : Value) (cur : ByteArray) (a d x : Ob) (p bp bv : Value) (acc : List UInt8) (hW : Below W0.heap.size W0 w) (hP : PrW w W0.heap.size g lv cur bp bv acc)
 (cq : ∀ X, Below w.heap.size w X → Calls Tryz.prog 176 #[vO (.cons a d) p] X (RetQU W0 X (some x)))
 (co : PrC W0 g l lv cur x) (hz : acc.length + 1 + (prO (nmU l cur) x).length ≤ 100000000) :
 Calls Tryz.prog 126 #[.pointer (some ⟨g, 0, none⟩), vO (.cons a d) p] w (RetGE W0.heap.size g lv cur (acc ++ 39 :: prO (nmU l cur) x) [] w) := by
 have CQ := qh9 cq
 have CO := qh9 co
 have HB := qh9 hW
 have HP := qh9 hP
 have HZ := qh9 hz
 clear cq co hP hW hz
 have ea : cellsO (.cons a d) p = [.int .i64 4, .string ⟨#[]⟩, .string ⟨#[]⟩, .string ⟨#[]⟩, .string ⟨#[]⟩, .string ⟨#[]⟩, p] := rfl
 have T := Bx1.new w #[.int .i64 4, .string ⟨#[]⟩, .string ⟨#[]⟩, .string ⟨#[]⟩, .string ⟨#[]⟩, .string ⟨#[]⟩, p]
 rw [vO_cells ea]
 go_enter Tryz.func126, Tryz.ntmps126
 go_upto_region 1 with fail
 generalize w.alloc (.cells #[.int .i64 4, .string ⟨#[]⟩, .string ⟨#[]⟩, .string ⟨#[]⟩, .string ⟨#[]⟩, .string ⟨#[]⟩, p] 27) = W at T ⊢
 have B0 : Hid (Bx W (w.heap.size) (cellsO (.cons a d) p).toArray) := by rw [ea]; exact T.b0
 have HW := qh9 T.bel
 clear T ea
 go_wp2_with (first | ((with_reducible refine loadB (.tmp 3) ?_ ?_ ?_ B0.out ?_); rfl; rfl; rfl))
 with_reducible refine (CQ.out _ HW.out).mono ?_
 rintro e w1 ⟨q, rfl, hq, hb⟩
 replace HW := qc9 HW hb
 clear hb B0 CQ
 have HQ := qh9 hq
 have HQ1 := qh9 (hq.below (HB.out.trans (HW.out.mono HB.out.size)))
 clear hq
 have T1 := qh9 (aO_new w1 #[.int .i64 0, .string ⟨#[]⟩, .string ⟨#[]⟩, .string ⟨#[]⟩, .string ⟨#[]⟩, .string ⟨#[]⟩, .slice none 0 0])
 unfold aO at T1
 have hlt := HW.out.size
 have hgl := HP.out.lt
 go_wp2_with (first
  | ((with_reducible refine storeB (w1 := w1) (g := w1.heap.size) (b := x) (p := q) (.tmp 5) (.tmp 10) ?_ ?_ ?_ ?_ HQ1.out T1.out ?_); rfl; rfl; rfl; rfl; have P := Pt1U.new (w := w1) (o := x) (p := q) (z := #[.int .i64 0, .string ⟨#[]⟩, .string ⟨#[]⟩, .string ⟨#[]⟩, .string ⟨#[]⟩, .string ⟨#[]⟩, .slice none 0 0]); generalize World.setRow (w1.alloc (.cells #[.int .i64 0, .string ⟨#[]⟩, .string ⟨#[]⟩, .string ⟨#[]⟩, .string ⟨#[]⟩, .string ⟨#[]⟩, .slice none 0 0] 27)) w1.heap.size (cellsO x q).toArray = X1 at P ⊢; replace HW := qh9 (chain2 HW.out P.bel (Nat.le_refl _)); have D0 := qh9 P.b0; clear P T1 HQ1))
 have HP1 := qh9 (HP.out.keep HW.out)
 have hgne : w1.heap.size ≠ g := by omega
 have KA := qh9 (KpG.of (g := g) HW.out HB.out.size)
 clear HP hlt hgl
 generalize w1.heap.size = k1 at D0 hgne ⊢
 have HGN := qh9 hgne
 clear hgne
 with_reducible refine (writeG _ _ g lv cur _ _ acc ⟨#[39]⟩ HP1.out (by have := HZ.out; have e1 : (⟨#[39]⟩ : ByteArray).size = 1 := rfl; omega)).mono ?_
 rintro e w2 ⟨rfl, ⟨bv2, hp2⟩, hk2⟩
 have HP2 : Hid (PrW w2 W0.heap.size g lv cur (.pointer (some ⟨g, 2, none⟩)) bv2 (acc ++ [39])) := hp2
 replace D0 := qh9 (D0.out.kg hk2 HGN.out)
 replace KA := qh9 (KA.out.trans hk2)
 clear hp2 hk2 HP1 HW
 have HB2 := qh9 (HB.out.trans KA.out.bel)
 go_wp2_with (first | ((with_reducible refine loadB (.tmp 5) ?_ ?_ ?_ D0.out ?_); rfl; rfl; rfl))
 with_reducible refine (CO.out.go _ _ _ q (acc ++ [39]) HB2.out HP2.out HQ.out (by have := HZ.out; simp only [List.length_append, List.length_cons, List.length_nil]; omega)).mono ?_
 rintro e w3 ⟨⟨v, rfl, _⟩, hp3, hk3⟩
 have HP3 : Hid (∃ bp bv, PrW w3 W0.heap.size g lv cur bp bv (acc ++ 39 :: prO (nmU l cur) x)) := by
  obtain ⟨bp, bv, h⟩ := hp3
  exact ⟨bp, bv, by simpa using h⟩
 replace KA := qh9 (KA.out.trans hk3)
 clear hp3 hk3
 go_wp2
 go_ret
 exact ⟨⟨_, rfl, .nil⟩, HP3.out, KA.out⟩
theorem consG (W0 w : World) (g : Nat) (l : List Sy.Pg) (lv : Value) (cur : ByteArray) (a d : Ob) (p bp bv : Value) (acc : List UInt8) (k : Nat) (hk : k ≤ 1000) (hb : (Ob.cons a d).bd k) (hn : (Ob.cons a d).nodes ≤ 3000)
 (hW : Below W0.heap.size W0 w) (hP : PrW w W0.heap.size g lv cur bp bv acc) (hp : Hd W0 (.cons a d) p) (hz : acc.length + (prO (nmU l cur) (.cons a d)).length ≤ 100000000)
 (cl : isQU a d = false → ∀ X, Below w.heap.size w X → Calls Tryz.prog 177 #[.pointer (some ⟨g, 0, none⟩), vO (.cons a d) p] X (RetGE W0.heap.size g lv cur (acc ++ prO (nmU l cur) (.cons a d)) (spU (nmU l cur) acc.length (.cons a d)).l X))
 (co : ∀ x, x.nodes < (Ob.cons a d).nodes → x.bd k → PrC W0 g l lv cur x) :
 Calls Tryz.prog 126 #[.pointer (some ⟨g, 0, none⟩), vO (.cons a d) p] w (RetGE W0.heap.size g lv cur (acc ++ prO (nmU l cur) (.cons a d)) (spU (nmU l cur) acc.length (.cons a d)).l w) := by
 have cq : ∀ X, Below w.heap.size w X → Calls Tryz.prog 176 #[vO (.cons a d) p] X (RetQU W0 X (qO (.cons a d))) := fun X h => quotedP _ p W0 X (hW.trans (h.mono hW.size)) hp k hk hb hn
 rw [qO_cons] at cq
 cases hq : isQU a d with
 | false =>
  rw [hq] at cq
  exact consNG W0 w g lv cur a d p bp bv acc _ _ hW hP cq (cl hq)
 | true =>
  rw [hq, if_pos rfl] at cq
  cases d with
  | num q => cases hq
  | str s => cases hq
  | sym x y => cases hq
  | cons x e =>
   have e1 : prO (nmU l cur) (.cons a (.cons x e)) = 39 :: prO (nmU l cur) x := by rw [prO_cons, hq, if_pos rfl]
   have e2 : (spU (nmU l cur) acc.length (.cons a (.cons x e))).l = [] := by unfold spU; rw [hq]; rfl
   rw [e1] at hz ⊢
   rw [e2]
   refine consQG W0 w g l lv cur a (.cons x e) x p bp bv acc hW hP cq (co x ?_ hb.2.1) (by simp only [List.length_cons] at hz; omega)
   show x.nodes < 1 + a.nodes + (1 + x.nodes + e.nodes)
   omega
theorem SpL.shape {w : World} {S : Nat → Prop} {l : List Spn} {v : Value} (h : SpL w S l v) : ∃ A n c, v = .slice A n c := by
 cases h with
 | nil => exact ⟨_, _, _, rfl⟩
 | row b c => exact ⟨_, _, _, rfl⟩
theorem SpB.set2 {w : World} {k : Nat} {x y z : Value} (h : SpB w k x y z) (u : Value) : SpB (w.setCell ⟨k, 2, none⟩ u) k x y u := by
 unfold SpB at h ⊢
 simp [World.setCell, Array.getElem?_modify, h]
theorem SpB.set1 {w : World} {k : Nat} {x y z : Value} (h : SpB w k x y z) (u : Value) : SpB (w.setCell ⟨k, 1, none⟩ u) k x u z := by
 unfold SpB at h ⊢
 simp [World.setCell, Array.getElem?_modify, h]
theorem SpB.fr {w : World} {k : Nat} {x y z : Value} (h : SpB w k x y z) (i : Nat) : w.frozen? ⟨k, i, none⟩ = false := by
 unfold SpB at h
 simp [World.frozen?, h]
theorem SpB.c {w : World} {k : Nat} {x y z : Value} (h : SpB w k x y z) : w.cell? ⟨k, 0, none⟩ = some x ∧ w.cell? ⟨k, 1, none⟩ = some y ∧ w.cell? ⟨k, 2, none⟩ = some z := by
 refine ⟨?_, ?_, ?_⟩ <;> (rw [cell_of_row _ _ _ _ _ _ h]; rfl)
theorem objConsG (a d : Ob) (p : Value) (w : World) (B g : Nat) (lv : Value) (cur : ByteArray) (bp bv : Value) (acc R : List UInt8) (L : List Spn) (h : PrW w B g lv cur bp bv acc) (hB : B ≤ w.heap.size)
 (hC : ∀ X, Below w.heap.size w X → Calls Tryz.prog 126 #[.pointer (some ⟨g, 0, none⟩), vO (.cons a d) p] X (RetGE B g lv cur R L X)) :
 Calls Tryz.prog 72 #[.pointer (some ⟨g, 0, none⟩), vO (.cons a d) p] w (RetG B g lv cur R (.mk acc.length R.length L) w) := by
 have ea : cellsO (.cons a d) p = [.int .i64 4, .string ⟨#[]⟩, .string ⟨#[]⟩, .string ⟨#[]⟩, .string ⟨#[]⟩, .string ⟨#[]⟩, p] := rfl
 have T := Bx1.new w #[.int .i64 4, .string ⟨#[]⟩, .string ⟨#[]⟩, .string ⟨#[]⟩, .string ⟨#[]⟩, .string ⟨#[]⟩, p]
 have C := qh9 hC
 have H := qh9 h
 rw [vO_cells ea]
 go_enter Tryz.func72, Tryz.ntmps72
 go_upto_region 1 with fail
 generalize hW1 : ((w.alloc (.cells #[.int .i64 4, .string ⟨#[]⟩, .string ⟨#[]⟩, .string ⟨#[]⟩, .string ⟨#[]⟩, .string ⟨#[]⟩, p] 27)).alloc (.cells #[.int .i64 0, .int .i64 0, .slice none 0 0] 107)) = W1
 have hal : Below w.heap.size w W1 := by rw [← hW1]; exact T.bel.trans (Below.mono (below_al _ _) T.bel.size)
 have HB1 := qh9 hal
 have B0 : Hid (Bx W1 w.heap.size #[.int .i64 4, .string ⟨#[]⟩, .string ⟨#[]⟩, .string ⟨#[]⟩, .string ⟨#[]⟩, .string ⟨#[]⟩, p]) := by
  show Bx _ _ _
  rw [← hW1]
  exact T.b0.keep (below_al _ _)
 have R1 : Hid (SpB W1 (w.heap.size + 1) (.int .i64 0) (.int .i64 0) (.slice none 0 0)) := by
  show SpB _ _ _ _ _
  rw [← hW1]
  have e := heap_alloc_new (w.alloc (.cells #[.int .i64 4, .string ⟨#[]⟩, .string ⟨#[]⟩, .string ⟨#[]⟩, .string ⟨#[]⟩, .string ⟨#[]⟩, p] 27)) (.cells #[.int .i64 0, .int .i64 0, .slice none 0 0] 107)
  have e2 : (w.alloc (.cells #[.int .i64 4, .string ⟨#[]⟩, .string ⟨#[]⟩, .string ⟨#[]⟩, .string ⟨#[]⟩, .string ⟨#[]⟩, p] 27)).heap.size = w.heap.size + 1 := by simp
  rw [e2] at e
  exact e
 have H1 := qh9 (H.out.keep hal)
 clear T hal hW1 ea
 have hgl := H.out.lt
 have gne1 : w.heap.size + 1 ≠ g := by omega
 have gne2 : W1.heap.size ≠ g := by have := R1.out.lt; omega
 have gne3 : W1.heap.size ≠ w.heap.size + 1 := by have := R1.out.lt; omega
 have G1 := qh9 gne1
 have G2 := qh9 gne2
 have G3 := qh9 gne3
 have G4 : Hid (w.heap.size + 1 < W1.heap.size) := R1.out.lt
 have HBW := qh9 hB
 clear H h gne1 gne2 gne3 hgl hB hC
 go_wp2_with fail
 with_reducible refine (lenG _ B g lv cur bp bv acc H1.out).mono ?_
 rintro e w2 ⟨rfl, rfl⟩
 go_upto_region 2 with fail
 generalize hW2 : w2.alloc (.cells #[.int .i64 (acc.length : Int), .int .i64 0, .slice none 0 0] 107) = W2
 have hal : Below w2.heap.size w2 W2 := by rw [← hW2]; exact below_al _ _
 have R2 : Hid (SpB W2 w2.heap.size (.int .i64 (acc.length : Int)) (.int .i64 0) (.slice none 0 0)) := by
  show SpB _ _ _ _ _
  rw [← hW2]
  exact heap_alloc_new _ _
 replace B0 := qh9 (B0.out.keep hal)
 replace R1 := qh9 (R1.out.keep hal)
 replace HB1 := qc9 HB1 hal
 generalize w2.heap.size = k2 at R2 G2 G3 G4 ⊢
 clear hal hW2 H1
 have BC : Hid (Bx W2 w.heap.size (cellsO (.cons a d) p).toArray) := B0.out
 obtain ⟨m0, m1, m2, m3, m4, m5, m6⟩ := Bx.c B0.out
 go_wp2_with (first | ((with_reducible refine loadB (.tmp 3) ?_ ?_ ?_ BC.out ?_); rfl; rfl; rfl))
 with_reducible refine (C.out _ HB1.out).mono ?_
 rintro e w4 ⟨⟨v, rfl, hv⟩, ⟨bp4, bv4, hp4⟩, hk4⟩
 obtain ⟨sA, sn, sc, rfl⟩ := hv.shape
 have HV := qh9 hv
 have HP4 := qh9 hp4
 have K4 := qh9 hk4
 have hk2s : k2 < W2.heap.size := R2.out.lt
 have Q1 := qh9 (R1.out.kg K4.out G1.out)
 have Q2 := qh9 (R2.out.kg K4.out G2.out)
 have KA := qh9 ((KpG.of (g := g) HB1.out HBW.out).trans K4.out)
 have HK2S := qh9 hk2s
 have u1 : w4.cell? ⟨k2, 2, none⟩ = some (.slice none 0 0) := Q2.out.c.2.2
 have u2 : w4.frozen? ⟨k2, 2, none⟩ = false := Q2.out.fr 2
 clear hv hp4 hk4 m0 m1 m2 m3 m4 m5 m6 BC B0 hk2s
 go_upto_region 11 with fail
 have kk : ∀ j, j ≠ k2 → (w4.setCell ⟨k2, 2, none⟩ (.slice sA sn sc)).heap[j]? = w4.heap[j]? := fun j hj => Below.heap_setCell w4 ⟨k2, 2, none⟩ _ j hj
 have V2 := qh9 (Q2.out.set2 (.slice sA sn sc))
 have V1 : Hid (SpB (w4.setCell ⟨k2, 2, none⟩ (.slice sA sn sc)) (w.heap.size + 1) (.int .i64 0) (.int .i64 0) (.slice none 0 0)) := (kk _ (fun e => G3.out e.symm)).trans Q1.out
 have P6 := qh9 (HP4.out.typ kk G2.out Q2.out.noRow)
 have K6 := qh9 (KA.out.cell k2 2 (.slice sA sn sc) (by have := G4.out; omega) HBW.out)
 have S6 : Hid (SpL (w4.setCell ⟨k2, 2, none⟩ (.slice sA sn sc)) (fun b => W2.heap.size ≤ b ∧ b < (w4.setCell ⟨k2, 2, none⟩ (.slice sA sn sc)).heap.size) L (.slice sA sn sc)) :=
  HV.out.keep (fun b hb => ⟨hb.1, by simp only [World.setCell]; simpa using hb.2⟩) (fun b cur' hb _ => kk b (by have := HK2S.out; have := hb.1; omega))
 clear u1 u2 kk HV HP4 K4 Q1 Q2 KA
 generalize w4.setCell ⟨k2, 2, none⟩ (.slice sA sn sc) = W6 at V2 V1 P6 K6 S6 ⊢
 go_wp2_with fail
 with_reducible refine (lenG _ B g lv cur _ bv4 _ P6.out).mono ?_
 rintro e w5 ⟨rfl, rfl⟩
 have u1 : w5.cell? ⟨k2, 1, none⟩ = some (.int .i64 0) := V2.out.c.2.1
 have u2 : w5.frozen? ⟨k2, 1, none⟩ = false := V2.out.fr 1
 go_upto_region 12 with fail
 have kk : ∀ j, j ≠ k2 → (w5.setCell ⟨k2, 1, none⟩ (.int .i64 (R.length : Int))).heap[j]? = w5.heap[j]? := fun j hj => Below.heap_setCell w5 ⟨k2, 1, none⟩ _ j hj
 have Z2 := qh9 (V2.out.set1 (.int .i64 (R.length : Int)))
 have Z1 : Hid (SpB (w5.setCell ⟨k2, 1, none⟩ (.int .i64 (R.length : Int))) (w.heap.size + 1) (.int .i64 0) (.int .i64 0) (.slice none 0 0)) := (kk _ (fun e => G3.out e.symm)).trans V1.out
 have P7 := qh9 (P6.out.typ kk G2.out V2.out.noRow)
 have K7 := qh9 (K6.out.cell k2 1 (.int .i64 (R.length : Int)) (by have := G4.out; omega) HBW.out)
 have S7 : Hid (SpL (w5.setCell ⟨k2, 1, none⟩ (.int .i64 (R.length : Int))) (fun b => W2.heap.size ≤ b ∧ b < (w5.setCell ⟨k2, 1, none⟩ (.int .i64 (R.length : Int))).heap.size) L (.slice sA sn sc)) :=
  S6.out.keep (fun b hb => ⟨hb.1, by simp only [World.setCell]; simpa using hb.2⟩) (fun b cur' hb _ => kk b (by have := HK2S.out; have := hb.1; omega))
 clear u1 u2 kk V2 V1 P6 K6 S6
 generalize w5.setCell ⟨k2, 1, none⟩ (.int .i64 (R.length : Int)) = W7 at Z2 Z1 P7 K7 S7 ⊢
 obtain ⟨l0, l1, l2⟩ := Z2.out.c
 have kk : ∀ x j, j ≠ w.heap.size + 1 → (W7.setRow (w.heap.size + 1) x).heap[j]? = W7.heap[j]? := fun x j hj => setRow_other W7 _ j x hj
 go_wp2_with ((with_reducible refine SpB.store (.tmp 4) (.tmp 58) ?_ ?_ (w.heap.size + 1) (.int .i64 (acc.length : Int)) (.int .i64 (R.length : Int)) (.slice sA sn sc) (.int .i64 0) (.int .i64 0) (.slice none 0 0) ?_ ?_ Z1.out ?_ ?_ ?_ ?_); rfl; rfl; rfl; rfl; rfl; rfl; rfl)
 have hsz : W2.heap.size ≥ w.heap.size + 2 := by have := HK2S.out; have := G4.out; omega
 exact retSp rfl rfl (setRow_heap _ _ _ _ _ _ Z1.out) ⟨⟨_, rfl, ⟨_, rfl, S7.out.keep (fun b hb => ⟨by have := hb.1; omega, by rw [size_setRow]; exact hb.2⟩) (fun b cur' hb _ => kk _ b (by have := hb.1; omega))⟩⟩, ⟨_, _, P7.out.typ (kk _) G1.out Z1.out.noRow⟩, K7.out.row _ _ (by omega) HBW.out⟩
/-- The printing adds the text of any object. -/
theorem objG (W0 : World) (g : Nat) (l : List Sy.Pg) (lv : Value) (cur : ByteArray) (hv : Sy.PgV W0 l lv) (hl : l.length ≤ 1000000) (hi : ∀ q ∈ l, q.2.length ≤ 1000000) (hT : EscT W0) (k : Nat) (hk : k ≤ 900) :
 ∀ (m : Nat) (a : Ob), a.nodes ≤ m → a.nodes ≤ 3000 → a.bd k → PrC W0 g l lv cur a := by
 intro m
 induction m with
 | zero => intro a h; have := a.nodes_pos; omega
 | succ m ih =>
  intro a ha hn hb w bp bv p acc hW hP hp hz
  have hB := hW.size
  cases a with
  | num q =>
   have e : spU (nmU l cur) acc.length (.num q) = .mk acc.length (acc.length + (numS q).length) [] := rfl
   rw [e]
   have hz' : acc.length + (numS q).length ≤ 100000000 := hz
   exact objNumG q p w _ g lv cur bp bv acc hP hB ((show Bd k q from hb).more hk) (by omega)
  | str s =>
   have e : spU (nmU l cur) acc.length (.str s) = .mk acc.length (acc.length + (escL 34 s).length) [] := rfl
   rw [e]
   have hz' : acc.length + (escL 34 s).length ≤ 100000000 := hz
   have hs : s.length ≤ 2 * k + 20 := hb
   exact objStrG s p w _ g lv cur bp bv acc hP hB (hT.keep hW) (by omega) (by omega)
  | sym x y =>
   have e : spU (nmU l cur) acc.length (.sym x y) = .mk acc.length (acc.length + (nmU l cur x y).length) [] := rfl
   rw [e]
   have hz' : acc.length + (nmU l cur x y).length ≤ 100000000 := hz
   have hok : SyOk x y := hb
   refine objSymG x y (nmU l cur x y) p w _ g lv cur bp bv acc hP hB ?_ (fun X hX => ?_) (by omega)
   · have := nmU_len l cur x y
     obtain ⟨h1, h2, h3⟩ := hok
     have : x.length ≤ 4 := by rcases h1 with rfl | rfl <;> decide
     omega
   · have h0 := hW.trans (hX.mono hB)
     exact nameTextP l lv cur (BA x) (BA y) X (hv.keep h0) hl hi (symOk_of hok) (hT.keep h0)
  | cons a d =>
   have hnn : (Ob.cons a d).nodes = 1 + a.nodes + d.nodes := rfl
   have e : spU (nmU l cur) acc.length (.cons a d) = .mk acc.length (acc ++ prO (nmU l cur) (.cons a d)).length (spU (nmU l cur) acc.length (.cons a d)).l := by
    unfold spU
    simp only [List.length_append, Spn.l]
   rw [e]
   refine objConsG a d p w _ g lv cur bp bv acc _ _ hP hB fun X hX => ?_
   have h0 := hW.trans (hX.mono hB)
   refine consG W0 X g l lv cur a d p bp bv acc k (by omega) hb hn h0 (hP.keep hX) hp hz (fun hq Y hY => ?_) (fun x hx hxb => ih x (by omega) (by omega) hxb)
   have e1 : prO (nmU l cur) (.cons a d) = 40 :: (prO (nmU l cur) a ++ prT (nmU l cur) d) := by rw [prO_cons, hq]; rfl
   have e2 : (spU (nmU l cur) acc.length (.cons a d)).l = if prpU d = true then spE (nmU l cur) acc.length (.cons a d) else [] := by
    unfold spU
    rw [hq]
    rfl
   rw [e2, e1]
   rw [e1] at hz
   exact listG W0 Y g l lv cur a d p bp bv acc k hb hn (h0.trans (hY.mono h0.size)) ((hP.keep hX).keep hY) hp (by rw [List.length_append]; exact hz) (fun x hx hxb => ih x (by omega) (by omega) hxb)







/-- What Print answers; b: whether the object is valid. -/
def prV (l : List Sy.Pg) (cur : ByteArray) (o : Ob) (b : Bool) : ByteArray × Int := if chkV l cur o b = 0 then (BA (prO (nmU l cur) o), 0) else (⟨#[]⟩, chkV l cur o b)
theorem chk_cases (l : List Sy.Pg) (cur : ByteArray) (o : Ob) (b : Bool) : chkV l cur o b = 0 ∨ chkV l cur o b = 1 ∨ chkV l cur o b = 13 := by
 unfold chkV
 split
 · split
   · exact .inl rfl
   · exact .inr (.inr rfl)
 · exact .inr (.inl rfl)
theorem printP (l : List Sy.Pg) (v : Value) (cur : ByteArray) (o : Ob) (p : Value) (b : Bool) (w : World) (hv : Sy.PgV w l v) (hl : l.length ≤ 1000000) (hi : ∀ q ∈ l, q.2.length ≤ 1000000) (hT : EscT w) (h : Hd w o p) (k : Nat) (hk : k ≤ 900) (hbd : o.bd k) (hn : o.nodes ≤ 3000)
 (hV : ∀ X, Below w.heap.size w X → Calls Tryz.prog 118 #[vO o p] X (RetB X b)) :
 Calls Tryz.prog 16 #[v, .string cur, vO o p] w (RetTE w (prV l cur o b).1 (prV l cur o b).2) := by
 have CC : Hid (∀ X, Below w.heap.size w X → Calls Tryz.prog 71 #[v, .string cur, vO o p] X (RetI X (chkV l cur o b))) := fun X hb => checkObjectP l v cur o p b X (hv.keep hb) hl hi (h.below hb) (fun Y hY => hV Y (hb.trans (hY.mono hb.size)))
 have hz := (prO_len (k := k) (c := 4 * k + 100) (nm := nmU l cur) (Nat.le_refl _) (nmU_len88 l cur) 3000 o hn hbd).1
 have hz2 : (prO (nmU l cur) o).length ≤ 100000000 := by
  have h1 : (4 * k + 100) * o.nodes ≤ 4000 * 3000 := Nat.mul_le_mul (by omega) hn
  omega
 have HZ := qh9 hz2
 have HNE := qh9 (prO_ne (nmU_ne l cur) hbd)
 have CO : Hid (∀ W0 g, Below w.heap.size w W0 → PrC W0 g l v cur o) := fun W0 g hb => objG W0 g l v cur (hv.keep hb) hl hi (hT.keep hb) k hk 3000 o hn hn hbd
 have HD := qh9 h
 have hcc := chk_cases l cur o b
 unfold prV
 generalize chkV l cur o b = c at CC hcc ⊢
 obtain ⟨V, hV2⟩ : ∃ V : ByteArray × Int, (if c = 0 then (BA (prO (nmU l cur) o), (0 : Int)) else (⟨#[]⟩, c)) = V := ⟨_, rfl⟩
 rw [hV2]
 have HV := qh9 hV2
 obtain ⟨Vs, Vn⟩ := V
 clear hV2
 obtain ⟨A, cc, rfl, hx⟩ := hv
 clear hz hz2 hV hT hbd h hx hl hi
 generalize l.length = ln at *
 obtain ⟨a0, a1, a2, a3, a4, a5, ea⟩ := cells7 o p
 have T := Bx1.new w #[a0, a1, a2, a3, a4, a5, p]
 rw [vO_cells ea]
 go_enter Tryz.func16, Tryz.ntmps16
 go_upto_region 1 with fail
 generalize w.alloc (.cells #[a0, a1, a2, a3, a4, a5, p] 27) = W at T ⊢
 have B0 : Hid (Bx W (w.heap.size) (cellsO o p).toArray) := by rw [ea]; exact T.b0
 have HW := qh9 T.bel
 clear T ea
 go_wp2_with (first | ((with_reducible refine loadB (.tmp 5) ?_ ?_ ?_ B0.out ?_); rfl; rfl; rfl))
 with_reducible refine (CC.out _ HW.out).mono ?_
 rintro e w1 ⟨rfl, hb⟩
 replace B0 := qh9 (B0.out.keep hb)
 replace HW := qc9 HW hb
 clear hb CC
 rcases hcc with rfl | rfl | rfl
 · have hx := Prod.mk.inj HV.out
   obtain ⟨hx1, hx2⟩ := hx
   subst hx1 hx2
   clear HV
   have hP1 : Hid (PrW (w1.alloc (.cells #[.slice A ln cc, .string cur, .pointer none, .slice none 0 0] 104)) w1.heap.size w1.heap.size (.slice A ln cc) cur (.pointer none) (.slice none 0 0) []) :=
    ⟨Nat.le_refl _, heap_alloc_new _ _, .inl rfl, ⟨rfl, .inl ⟨rfl, rfl⟩⟩⟩
   have hal := below_al w1 (.cells #[.slice A ln cc, .string cur, .pointer none, .slice none 0 0] 104)
   replace B0 := qh9 (B0.out.keep hal)
   have CT := qh9 (CO.out w1 w1.heap.size HW.out)
   have HD1 := qh9 (HD.out.below HW.out)
   have HAL := qh9 hal
   clear hal CO HD
   go_upto_region 5 with fail
   generalize w1.alloc (.cells #[.slice A ln cc, .string cur, .pointer none, .slice none 0 0] 104) = W1 at hP1 B0 HAL ⊢
   go_wp2_with (first | ((with_reducible refine loadB (.tmp 5) ?_ ?_ ?_ B0.out ?_); rfl; rfl; rfl))
   with_reducible refine (CT.out.go W1 _ _ p [] HAL.out hP1.out HD1.out (by have := HZ.out; simpa using this)).mono ?_
   rintro e w2 ⟨⟨v2, rfl, _⟩, ⟨bp2, bv2, hp2⟩, hk2⟩
   have HP2 : Hid (PrW w2 w1.heap.size w1.heap.size (.slice A ln cc) cur bp2 bv2 (prO (nmU l cur) o)) := by
    rw [List.nil_append] at hp2
    exact hp2
   replace HAL := qh9 (HAL.out.trans hk2.bel)
   clear hp2 hk2 B0 hP1 CT HD1
   go_wp2_with fail
   with_reducible refine (stringG w2 _ _ _ cur _ _ _ HP2.out HNE.out).mono ?_
   rintro e w3 ⟨rfl, hb3⟩
   have HF := qh9 (chain2 HW.out (HAL.out.trans hb3) (Nat.le_refl _))
   clear hb3
   go_wp2
   go_ret2
   exact ⟨rfl, HF.out⟩
 · have hx := Prod.mk.inj HV.out
   obtain ⟨hx1, hx2⟩ := hx
   subst hx1 hx2
   clear HV
   go_wp2
   go_ret2
   exact ⟨rfl, HW.out⟩
 · have hx := Prod.mk.inj HV.out
   obtain ⟨hx1, hx2⟩ := hx
   subst hx1 hx2
   clear HV
   go_wp2
   go_ret2
   exact ⟨rfl, HW.out⟩
theorem packages6 (w : World) : Calls Tryz.prog 15 #[] w (fun e w' => ∃ x, e = .returned x ∧ Sy.PgV w' userM x ∧ Below w.heap.size w w') := by
 go_enter Tryz.func15, Tryz.ntmps15
 go_wp2_with fail
 refine (initialR5 _).mono ?_
 rintro e w1 ⟨x, rfl, hx, hb⟩
 have HX := qh9 hx
 have HB := qh9 hb
 clear hx hb
 go_wp2_with fail
 refine (lispO ⟨#[99, 97, 114]⟩ _).mono ?_
 rintro e w2 ⟨rfl, hb⟩
 replace HX := qh9 (HX.out.keep hb)
 replace HB := qc9 HB hb
 clear hb
 go_wp2_with fail
 refine (lispO ⟨#[110, 105, 108]⟩ _).mono ?_
 rintro e w3 ⟨rfl, hb⟩
 replace HX := qh9 (HX.out.keep hb)
 replace HB := qc9 HB hb
 clear hb
 go_wp2_with fail
 refine (lispO ⟨#[116]⟩ _).mono ?_
 rintro e w4 ⟨rfl, hb⟩
 replace HX := qh9 (HX.out.keep hb)
 replace HB := qc9 HB hb
 clear hb
 go_wp2_with fail
 refine (defR w4 x HX.out).mono ?_
 rintro e w5 ⟨y, rfl, hy, hb⟩
 have HY := qh9 hy
 replace HB := qh9 (chain2 HB.out (chain2 (below_al w4 (.cells #[.string (BA lispB), .string ⟨#[99, 97, 114]⟩, .string (BA lispB), .string ⟨#[110, 105, 108]⟩, .string (BA lispB), .string ⟨#[116]⟩] 24)) hb (Nat.le_refl _)) (Nat.le_refl _))
 clear hy hb
 go_wp2
 go_ret
 exact ⟨y, rfl, HY.out, HB.out⟩
/-- One half. -/
def hfU : Rat := quo (LA ⟨#[49]⟩) (LA ⟨#[50]⟩)
def aU : Ob := .sym lispB [97]
def inU : Ob := Ob.list [aU, .num hfU]
def oU : Ob := Ob.list [quoteO, inU]
theorem symF6 (s : ByteArray) (w : World) : Calls Tryz.prog 62 #[.agg #[.string (BA lispB), .string s]] w (fun e w' => e = .returned (.agg #[.int .i64 2, .string ⟨#[]⟩, .string ⟨#[]⟩, .string (BA lispB), .string s, .string ⟨#[]⟩, .slice none 0 0]) ∧ Below w.heap.size w w') :=
 (symO (BA lispB) s w NoB).mono fun e w' ⟨p, he, hp, hb⟩ => by
   have hpe : p = .slice none 0 0 := hp
   subst hpe
   refine ⟨he.trans ?_, hb⟩
   show Ending.returned (.agg #[.int .i64 2, .string ⟨#[]⟩, .string ⟨#[]⟩, .string (BA (LA (BA lispB))), .string (BA (LA s)), .string ⟨#[]⟩, .slice none 0 0]) = _
   rw [BA_LA, BA_LA]
theorem ratF6 (w : World) : Calls Tryz.prog 64 #[.string ⟨#[49]⟩, .string ⟨#[50]⟩] w (fun e w' => e = .returned (.agg #[.int .i64 1, .string (nt hfU), .string (dt hfU), .string ⟨#[]⟩, .string ⟨#[]⟩, .string ⟨#[]⟩, .slice none 0 0]) ∧ Below w.heap.size w w') :=
 (ratO ⟨#[49]⟩ ⟨#[50]⟩ w NoB (NoB.in w) (by decide) (by decide)).mono fun e w' ⟨p, he, hp, hb⟩ => by
   have hpe : p = .slice none 0 0 := hp
   subst hpe
   exact ⟨he, hb⟩
theorem obs2U {w : World} {S : Nat → Prop} {x y : Ob} {p q : Value} {g : Nat} {cs : Array Value} (hx : Pair w S x p) (hy : Pair w S y q) (hg : w.heap[g]? = some (.cells cs 27 (0, 0))) (hc : cs = (cellsO x p ++ cellsO y q).toArray) : ObsAt w S g 0 [x, y] := by
 subst hc
 have hl : (cellsO x p).length = 7 := cellsO_length _ _
 unfold ObsAt
 refine ⟨⟨p, hx, fun j u hj => ?_⟩, ?_⟩
 · have hj7 : j < 7 := by
    rcases Nat.lt_or_ge j 7 with h | h
    · exact h
    · rw [List.getElem?_eq_none (by omega)] at hj; cases hj
   rw [Nat.zero_add, cell_of_row _ _ _ _ _ _ hg, List.getElem?_toArray, List.getElem?_append_left (by omega)]
   exact hj
 · unfold ObsAt
   refine ⟨⟨q, hy, fun j u hj => ?_⟩, by unfold ObsAt; trivial⟩
   rw [cell_of_row _ _ _ _ _ _ hg, List.getElem?_toArray, List.getElem?_append_right (by omega), show 0 + 7 + j - (cellsO x p).length = j from by omega]
   exact hj
theorem list2U (x y : Ob) (p q : Value) (w : World) (cs : Array Value) (hc : cs = (cellsO x p ++ cellsO y q).toArray) (hx : Hd w x p) (hy : Hd w y q) :
 Calls Tryz.prog 61 #[.slice (some ⟨w.heap.size, 0, none⟩) 2 2] (w.alloc (.cells cs 27)) (RetH (w.alloc (.cells cs 27)) (Ob.list [x, y])) := by
 have hb := below_al w (.cells cs 27)
 have hs : w.heap.size < (w.alloc (.cells cs 27)).heap.size := by simp
 exact (listO [x, y] (some ⟨w.heap.size, 0, none⟩) 2 (w.alloc (.cells cs 27)) (Has _) (In.has _) (Nat.le_refl 2) (show 2 ≤ 100000 by decide) (fun _ => ⟨_, 0, rfl, hs, obs2U (hx.below hb) (hy.below hb) (heap_alloc_new _ _) hc⟩)).mono fun _ _ h => h.h (In.has _)
theorem oU_pr : prV initM5 ⟨#[108, 105, 115, 112]⟩ oU true = (⟨#[39, 40, 97, 32, 49, 47, 50, 41]⟩, 0) := by kernel_rfl
theorem oU_bd : oU.bd 90 := ⟨(⟨.inl rfl, by decide, by decide⟩ : SyOk lispB [113, 117, 111, 116, 101]), ⟨⟨(⟨.inl rfl, by decide, by decide⟩ : SyOk lispB [97]), (bd_quo (k := 1) (Nat.le_refl _) (Nat.le_refl _) (by decide)).more (by decide), nil_ok⟩, nil_ok⟩⟩
theorem first6 (w : World) (hT : EscT w) : Calls Tryz.prog 13 #[] w (RetB w true) := by
 have HT := qh9 hT
 clear hT
 have HW : Hid (Below w.heap.size w w) := Below.refl _ _
 go_enter Tryz.func13, Tryz.ntmps13
 go_wp2_with fail
 with_reducible refine (lispO _ _).mono ?_
 rintro e w1 ⟨rfl, hb⟩
 replace HW := qc9 HW hb
 clear hb
 go_wp2_with fail
 with_reducible refine (symF6 _ _).mono ?_
 rintro e w2 ⟨rfl, hb⟩
 replace HW := qc9 HW hb
 clear hb
 go_wp2_with fail
 with_reducible refine (lispO _ _).mono ?_
 rintro e w3 ⟨rfl, hb⟩
 replace HW := qc9 HW hb
 clear hb
 go_wp2_with fail
 with_reducible refine (symF6 _ _).mono ?_
 rintro e w4 ⟨rfl, hb⟩
 replace HW := qc9 HW hb
 clear hb
 go_wp2_with fail
 with_reducible refine (ratF6 _).mono ?_
 rintro e w5 ⟨rfl, hb⟩
 replace HW := qc9 HW hb
 clear hb
 have K1 := qh9 (list2U aU (.num hfU) (.slice none 0 0) (.slice none 0 0) w5 #[.int .i64 2, .string ⟨#[]⟩, .string ⟨#[]⟩, .string (BA lispB), .string ⟨#[97]⟩, .string ⟨#[]⟩, .slice none 0 0, .int .i64 1, .string (nt hfU), .string (dt hfU), .string ⟨#[]⟩, .string ⟨#[]⟩, .string ⟨#[]⟩, .slice none 0 0] rfl rfl rfl)
 go_wp2_with fail
 replace HW := qh9 (chain2 HW.out (below_al w5 (.cells #[.int .i64 2, .string ⟨#[]⟩, .string ⟨#[]⟩, .string (BA lispB), .string ⟨#[97]⟩, .string ⟨#[]⟩, .slice none 0 0, .int .i64 1, .string (nt hfU), .string (dt hfU), .string ⟨#[]⟩, .string ⟨#[]⟩, .string ⟨#[]⟩, .slice none 0 0] 27)) (Nat.le_refl _))
 with_reducible refine K1.out.mono ?_
 rintro e w6 ⟨p1, rfl, hp1, hb⟩
 replace HW := qc9 HW hb
 clear hb K1
 rw [show vO (Ob.list [aU, .num hfU]) p1 = .agg #[.int .i64 4, .string ⟨#[]⟩, .string ⟨#[]⟩, .string ⟨#[]⟩, .string ⟨#[]⟩, .string ⟨#[]⟩, p1] from rfl]
 have K2 := qh9 (list2U quoteO inU (.slice none 0 0) p1 w6 #[.int .i64 2, .string ⟨#[]⟩, .string ⟨#[]⟩, .string (BA lispB), .string ⟨#[113, 117, 111, 116, 101]⟩, .string ⟨#[]⟩, .slice none 0 0, .int .i64 4, .string ⟨#[]⟩, .string ⟨#[]⟩, .string ⟨#[]⟩, .string ⟨#[]⟩, .string ⟨#[]⟩, p1] rfl rfl hp1)
 clear hp1
 go_wp2_with fail
 replace HW := qh9 (chain2 HW.out (below_al w6 (.cells #[.int .i64 2, .string ⟨#[]⟩, .string ⟨#[]⟩, .string (BA lispB), .string ⟨#[113, 117, 111, 116, 101]⟩, .string ⟨#[]⟩, .slice none 0 0, .int .i64 4, .string ⟨#[]⟩, .string ⟨#[]⟩, .string ⟨#[]⟩, .string ⟨#[]⟩, .string ⟨#[]⟩, p1] 27)) (Nat.le_refl _))
 with_reducible refine K2.out.mono ?_
 rintro e w7 ⟨p2, rfl, hp2, hb⟩
 replace HW := qc9 HW hb
 clear hb K2
 have HP := qh9 hp2
 have T1 := qh9 (aO_new w7 #[.int .i64 0, .string ⟨#[]⟩, .string ⟨#[]⟩, .string ⟨#[]⟩, .string ⟨#[]⟩, .string ⟨#[]⟩, .slice none 0 0])
 unfold aO at T1
 clear hp2
 go_upto_region 2 with ((with_reducible refine storeB (w1 := w7) (g := w7.heap.size) (b := Ob.list [quoteO, inU]) (p := p2) (.tmp 1) (.tmp 12) ?_ ?_ ?_ ?_ HP.out T1.out ?_); rfl; rfl; rfl; rfl; have P := Pt1U.new (w := w7) (o := Ob.list [quoteO, inU]) (p := p2) (z := #[.int .i64 0, .string ⟨#[]⟩, .string ⟨#[]⟩, .string ⟨#[]⟩, .string ⟨#[]⟩, .string ⟨#[]⟩, .slice none 0 0]); generalize World.setRow (w7.alloc (.cells #[.int .i64 0, .string ⟨#[]⟩, .string ⟨#[]⟩, .string ⟨#[]⟩, .string ⟨#[]⟩, .string ⟨#[]⟩, .slice none 0 0] 27)) w7.heap.size (cellsO (Ob.list [quoteO, inU]) p2).toArray = X1 at P ⊢; replace HW := qh9 (chain2 HW.out P.bel (Nat.le_refl _)); replace HP := qh9 (HP.out.below P.bel); have D0 := qh9 P.b0; clear P T1)
 generalize w7.heap.size = g at D0 ⊢
 have D1 : Hid (Bx X1 g #[.int .i64 4, .string ⟨#[]⟩, .string ⟨#[]⟩, .string ⟨#[]⟩, .string ⟨#[]⟩, .string ⟨#[]⟩, p2]) := D0.out
 have D2 : Hid (Bx X1.drew g #[.int .i64 4, .string ⟨#[]⟩, .string ⟨#[]⟩, .string ⟨#[]⟩, .string ⟨#[]⟩, .string ⟨#[]⟩, p2]) := D0.out
 obtain ⟨m0, m1, m2, m3, m4, m5, m6⟩ := Bx.c D1.out
 obtain ⟨n0, n1, n2, n3, n4, n5, n6⟩ := Bx.c D2.out
 have CP : Hid (∀ X x, Below X1.heap.size X1 X → Sy.PgV X initM5 x → Calls Tryz.prog 16 #[x, .string ⟨#[108, 105, 115, 112]⟩, .agg #[.int .i64 4, .string ⟨#[]⟩, .string ⟨#[]⟩, .string ⟨#[]⟩, .string ⟨#[]⟩, .string ⟨#[]⟩, p2]] X (RetTE X ⟨#[39, 40, 97, 32, 49, 47, 50, 41]⟩ 0)) := fun X x hX hx => by
  have := printP initM5 x ⟨#[108, 105, 115, 112]⟩ oU p2 true X hx (by decide) (by decide) (HT.out.keep (HW.out.trans (hX.mono HW.out.size))) (HP.out.below hX) 90 (by decide) oU_bd (by decide) (fun Y hY => validP oU p2 Y (Has Y) oU_bd (by decide) (In.has Y) ((HP.out.below hX).below hY))
  rw [oU_pr] at this
  exact this
 clear D0
 go_wp2_with fail
 go_region_with (first | (go_at_call 65; (with_reducible refine (initialR5 _).mono ?_); rintro e w8 ⟨x, rfl, hx, hb8⟩; have Z8 := qh9 ((Below.drew (Below.refl X1.heap.size X1)).trans hb8); obtain ⟨r0, r1, r2, r3, r4, r5, r6⟩ := Bx.c (D1.out.keep Z8.out); have HX := qh9 hx; clear hb8 hx) | (go_at_call 16; (with_reducible refine (CP.out _ _ Z8.out HX.out).mono ?_); rintro e w9 ⟨rfl, hb9⟩; have Z9 := qc9 Z8 hb9))
 all_goals (have HF := qh9 (chain2 HW.out Z9.out (Nat.le_refl _)); go_wp2; go_ret; exact ⟨rfl, HF.out⟩)







structure Pt1 (w X : World) (o : Ob) (p : Value) : Prop where
 bel : Below w.heap.size w X
 b0 : Bx X w.heap.size (cellsO o p).toArray


def Ad (w : World) (o : Ob) (b k : Nat) (p : Value) : Prop := At w (Has w) o b k p
/-- A raw tree in its box. -/
def RwB (W : World) (g : Nat) (a b c d : Value) : Prop := W.heap[g]? = some (.cells #[a, b, c, d] 40 (0, 0))

theorem againW (s : ByteArray) (w : World) (hT : EscT w) :
 Calls Tryz.prog 3 #[.string s] w (RetB w true) := by
 have HT := qh9 hT
 clear hT
 go_enter Tryz.func3, Tryz.ntmps3
 go_wp2_with fail
 with_reducible refine (first6 w HT.out).mono ?_
 rintro e w1 ⟨rfl, hb⟩
 have HB := qh9 hb
 clear hb
 by_cases hl : s.size ≤ 100
 · have HL := qh9 hl
   have hl2 : ¬ (100 : Int) < (s.size : Int) := by omega
   clear hl
   go_wp2_with fail
   with_reducible refine (packages6 _).mono ?_
   rintro e w2 ⟨y1, rfl, hy, hb⟩
   replace HB := qc9 HB hb
   have HY := qh9 hy
   clear hb hy
   go_wp2_with fail
   with_reducible refine (onePr s ⟨#[117, 115, 101, 114]⟩ userM y1 w2 HY.out userB5 (SmS.of (by have := HL.out; omega))).mono ?_
   intro e w3 hO
   cases hR : oneS userM ⟨#[117, 115, 101, 114]⟩ s with
   | error x =>
    rw [hR] at hO
    obtain ⟨hb, rfl⟩ := hO
    have hx := oneS_bad hR
    replace HB := qc9 HB hb
    obtain ⟨x1, x2⟩ := x
    have hx1 : (x1 == 0) = false := by rw [beq_eq_false_iff_ne]; exact hx
    have HF : Hid (Below w.heap.size w ((w3.alloc (.cells #[.int .i64 0, .string ⟨#[]⟩, .string ⟨#[]⟩, .string ⟨#[]⟩, .string ⟨#[]⟩, .string ⟨#[]⟩, .slice none 0 0] 27)).alloc (.cells #[.int .i64 0, .int .i64 0] 30))) := HB.out.trans ((al2 w3 _ _).mono HB.out.size)
    clear hb HY hR hx HF
    go_wp2
    go_ret
    exact ⟨rfl, HB.out.trans ((al2 w3 _ _).mono HB.out.size)⟩
   | ok o =>
    rw [hR] at hO
    obtain ⟨hb, p, rfl, hq⟩ := hO
    replace HB := qc9 HB hb
    obtain ⟨hok, hnd, htl, hag, hsm⟩ := one_again ⟨#[117, 115, 101, 114]⟩ s o HL.out hR
    have HP : Hid (Hd w3 o p) := hq.more (fun b h => h.2)
    have bd := pr_bd hok
    have CPA : Hid (∀ (X : World) (q y : Value), Below w3.heap.size w3 X → Hd X o q → Sy.PgV X userM y → Calls Tryz.prog 16 #[y, .string ⟨#[117, 115, 101, 114]⟩, vO o q] X (RetTE X (BA (prO (nmU userM ⟨#[117, 115, 101, 114]⟩) o)) 0)) := fun X q y hX hq hy => by
     have h := printP userM y ⟨#[117, 115, 101, 114]⟩ o q true X hy (by decide) (by decide) (HT.out.keep (HB.out.trans (hX.mono HB.out.size))) hq 100 (by decide) bd (by omega) (fun Y hY => validU o q Y (by omega) (hq.below hY) hok)
     have hc : chkV userM ⟨#[117, 115, 101, 114]⟩ o true = 0 := by
      unfold chkV
      have hf : (Sy.findM userM ⟨#[117, 115, 101, 114]⟩).isSome = true := by kernel_rfl
      rw [if_pos rfl, pr_home hok, hf]
      rfl
     unfold prV at h
     rw [if_pos hc] at h
     exact h
    have CON : Hid (∀ (X : World) (y : Value), Sy.PgV X userM y → Calls Tryz.prog 14 #[y, .string ⟨#[117, 115, 101, 114]⟩, .string (BA (prO (nmU userM ⟨#[117, 115, 101, 114]⟩) o))] X (OutOn X (.ok o))) := fun X y hy => by
     have := onePr (BA (prO (nmU userM ⟨#[117, 115, 101, 114]⟩) o)) ⟨#[117, 115, 101, 114]⟩ userM y X hy userB5 hsm
     rwa [hag] at this
    generalize BA (prO (nmU userM ⟨#[117, 115, 101, 114]⟩) o) = T at *
    have A2 : Hid (Below w3.heap.size w3 ((w3.alloc (.cells #[.int .i64 0, .string ⟨#[]⟩, .string ⟨#[]⟩, .string ⟨#[]⟩, .string ⟨#[]⟩, .string ⟨#[]⟩, .slice none 0 0] 27)).alloc (.cells #[.int .i64 0, .int .i64 0] 30))) := al2 w3 _ _
    have B2 : Hid (Bx ((w3.alloc (.cells #[.int .i64 0, .string ⟨#[]⟩, .string ⟨#[]⟩, .string ⟨#[]⟩, .string ⟨#[]⟩, .string ⟨#[]⟩, .slice none 0 0] 27)).alloc (.cells #[.int .i64 0, .int .i64 0] 30)) w3.heap.size #[.int .i64 0, .string ⟨#[]⟩, .string ⟨#[]⟩, .string ⟨#[]⟩, .string ⟨#[]⟩, .string ⟨#[]⟩, .slice none 0 0]) := Bx.keep (aO_new w3 _) (below_al _ _)
    have E2 : Hid (EB ((w3.alloc (.cells #[.int .i64 0, .string ⟨#[]⟩, .string ⟨#[]⟩, .string ⟨#[]⟩, .string ⟨#[]⟩, .string ⟨#[]⟩, .slice none 0 0] 27)).alloc (.cells #[.int .i64 0, .int .i64 0] 30)) (w3.heap.size + 1) (.int .i64 0) (.int .i64 0)) := heap_alloc2_new w3 _ _
    have E3 : Hid (EB (((w3.alloc (.cells #[.int .i64 0, .string ⟨#[]⟩, .string ⟨#[]⟩, .string ⟨#[]⟩, .string ⟨#[]⟩, .string ⟨#[]⟩, .slice none 0 0] 27)).alloc (.cells #[.int .i64 0, .int .i64 0] 30)).setRow w3.heap.size (cellsO o p).toArray) (w3.heap.size + 1) (.int .i64 0) (.int .i64 0)) := E2.out.row (by omega) _
    have B4 : Hid (Bx ((((w3.alloc (.cells #[.int .i64 0, .string ⟨#[]⟩, .string ⟨#[]⟩, .string ⟨#[]⟩, .string ⟨#[]⟩, .string ⟨#[]⟩, .slice none 0 0] 27)).alloc (.cells #[.int .i64 0, .int .i64 0] 30)).setRow w3.heap.size (cellsO o p).toArray).setRow (w3.heap.size + 1) #[.int .i64 0, .int .i64 0]) w3.heap.size (cellsO o p).toArray) := (setRow_other _ _ _ _ (by omega)).trans (setRow_heap _ _ _ _ _ _ B2.out)
    have E4 : Hid (EB ((((w3.alloc (.cells #[.int .i64 0, .string ⟨#[]⟩, .string ⟨#[]⟩, .string ⟨#[]⟩, .string ⟨#[]⟩, .string ⟨#[]⟩, .slice none 0 0] 27)).alloc (.cells #[.int .i64 0, .int .i64 0] 30)).setRow w3.heap.size (cellsO o p).toArray).setRow (w3.heap.size + 1) #[.int .i64 0, .int .i64 0]) (w3.heap.size + 1) (.int .i64 0) (.int .i64 0)) := setRow_heap _ _ _ _ _ _ E3.out
    have hb : Below w3.heap.size w3 ((((w3.alloc (.cells #[.int .i64 0, .string ⟨#[]⟩, .string ⟨#[]⟩, .string ⟨#[]⟩, .string ⟨#[]⟩, .string ⟨#[]⟩, .slice none 0 0] 27)).alloc (.cells #[.int .i64 0, .int .i64 0] 30)).setRow w3.heap.size (cellsO o p).toArray).setRow (w3.heap.size + 1) #[.int .i64 0, .int .i64 0]) := below_setRow (below_setRowO A2.out (Nat.le_refl _) _) (by omega) _
    have HP2 := qh9 (HP.out.below hb)
    have HN : Hid (w3.heap.size + 2 ≤ ((((w3.alloc (.cells #[.int .i64 0, .string ⟨#[]⟩, .string ⟨#[]⟩, .string ⟨#[]⟩, .string ⟨#[]⟩, .string ⟨#[]⟩, .slice none 0 0] 27)).alloc (.cells #[.int .i64 0, .int .i64 0] 30)).setRow w3.heap.size (cellsO o p).toArray).setRow (w3.heap.size + 1) #[.int .i64 0, .int .i64 0]).heap.size) := (show _ ≤ _ by rw [size_setRow, size_setRow]; simp)
    have HBX := qh9 hb
    clear hb A2 HY hq hok hnd htl hag hsm bd hR
    go_upto_region 6 with (first | ((with_reducible refine storeB (w1 := w3) (g := w3.heap.size) (b := o) (p := p) (.tmp 3) (.tmp 18) ?_ ?_ ?_ ?_ HP.out B2.out ?_); rfl; rfl; rfl; rfl) | ((with_reducible refine EB.store (.tmp 4) (.tmp 19) ?_ ?_ (w3.heap.size + 1) 0 0 (.int .i64 0) (.int .i64 0) ?_ ?_ E3.out ?_); rfl; rfl; rfl; rfl))
    clear B2 E2 E3 HP
    generalize (((w3.alloc (.cells #[.int .i64 0, .string ⟨#[]⟩, .string ⟨#[]⟩, .string ⟨#[]⟩, .string ⟨#[]⟩, .string ⟨#[]⟩, .slice none 0 0] 27)).alloc (.cells #[.int .i64 0, .int .i64 0] 30)).setRow w3.heap.size (cellsO o p).toArray).setRow (w3.heap.size + 1) #[.int .i64 0, .int .i64 0] = X at *
    obtain ⟨gb, hgb⟩ : ∃ gb, gb = w3.heap.size := ⟨_, rfl⟩
    obtain ⟨ge, hge⟩ : ∃ ge, ge = w3.heap.size + 1 := ⟨_, rfl⟩
    rw [← hge] at E4 ⊢
    rw [← hgb] at B4 ⊢
    have HGE : Hid (w.heap.size ≤ ge) := (show _ ≤ _ by have := HB.out.size; omega)
    have HNE : Hid (gb ≠ ge) := (show _ ≠ _ by omega)
    clear hgb hge
    have ec := E4.out.c0
    obtain ⟨x0, x1, x2, x3, x4, x5, eo⟩ := cells7 o p
    have BO : Hid (Bx X gb #[x0, x1, x2, x3, x4, x5, p]) := by
     have := B4.out
     rwa [eo] at this
    have EV := qh9 (vO_cells eo)
    have CP : Hid (∀ X' y, Below X.heap.size X X' → Sy.PgV X' userM y → Calls Tryz.prog 16 #[y, .string ⟨#[117, 115, 101, 114]⟩, .agg #[x0, x1, x2, x3, x4, x5, p]] X' (RetTE X' T 0)) := fun X' y hX hy => by
     have := CPA.out X' p y (chain2 HBX.out hX (Nat.le_refl _)) (HP2.out.below hX) hy
     rwa [EV.out] at this
    clear B4 eo
    have D0 := qh9 (BO.out.keep ((Below.refl X.heap.size X).drew))
    obtain ⟨m0, m1, m2, m3, m4, m5, m6⟩ := Bx.c BO.out
    obtain ⟨n0, n1, n2, n3, n4, n5, n6⟩ := Bx.c D0.out
    go_wp2_with fail
    go_region_held3 (fun W' => W'.cell? ⟨gb, 0, none⟩ = some x0 ∧ W'.cell? ⟨gb, 1, none⟩ = some x1 ∧ W'.cell? ⟨gb, 2, none⟩ = some x2 ∧ W'.cell? ⟨gb, 3, none⟩ = some x3 ∧ W'.cell? ⟨gb, 4, none⟩ = some x4 ∧ W'.cell? ⟨gb, 5, none⟩ = some x5 ∧ W'.cell? ⟨gb, 6, none⟩ = some p) (go_keep) ((first | (go_at_call 15; refine (packages6 _).mono ?_; rintro e x0a ⟨y0, rfl, hy, hb⟩; have HY0 := qh9 hy; have HR0 := qh9 ((Below.drew (Below.refl X.heap.size X)).trans hb); obtain ⟨q0, q1, q2, q3, q4, q5, q6⟩ := Bx.c (BO.out.keep HR0.out); clear hy hb) | (go_at_call 16; refine (CP.out x0a y0 HR0.out HY0.out).mono ?_; rintro e W0 ⟨rfl, hb⟩; have HG0 := qc9 HR0 hb; obtain ⟨t0, t1, t2, t3, t4, t5, t6⟩ := Bx.c (BO.out.keep HG0.out); clear hb)))
    have E5 := qh9 (E4.out.keep HG0.out)
    have HB5 := qh9 (HB.out.trans ((chain2 HBX.out HG0.out (Nat.le_refl _)).mono HB.out.size))
    have HW5 := qh9 (chain2 HBX.out HG0.out (Nat.le_refl _))
    clear m0 m1 m2 m3 m4 m5 m6 n0 n1 n2 n3 n4 n5 n6 q0 q1 q2 q3 q4 q5 q6 t0 t1 t2 t3 t4 t5 t6 CP BO D0 EV E4 HY0 HR0 HB HBX HP2 ec HN HG0
    go_wp2_with fail
    with_reducible refine (packages6 _).mono ?_
    rintro e w4 ⟨y2, rfl, hy, hb⟩
    have E6 := qh9 (E5.out.keep hb)
    have HB6 := qc9 HB5 hb
    have HW6 := qc9 HW5 hb
    have HY := qh9 hy
    clear hb hy E5 HB5 HW5
    go_wp2_with fail
    with_reducible refine (CON.out _ y2 HY.out).mono ?_
    rintro e w5 ⟨hb, q, rfl, hq⟩
    have E7 := qh9 (E6.out.keep hb)
    have HB7 := qc9 HB6 hb
    have HW7 := qc9 HW6 hb
    have HQ : Hid (Hd w5 o q) := hq.more (fun b h => h.2)
    clear hb hq E6 HB6 HW6 HY CON
    have B7 : Hid (Bx (w5.alloc (.cells #[.int .i64 0, .string ⟨#[]⟩, .string ⟨#[]⟩, .string ⟨#[]⟩, .string ⟨#[]⟩, .string ⟨#[]⟩, .slice none 0 0] 27)) w5.heap.size #[.int .i64 0, .string ⟨#[]⟩, .string ⟨#[]⟩, .string ⟨#[]⟩, .string ⟨#[]⟩, .string ⟨#[]⟩, .slice none 0 0]) := aO_new w5 _
    have hlt : ge < w5.heap.size := E7.out.lt
    have E8 : Hid (EB ((w5.alloc (.cells #[.int .i64 0, .string ⟨#[]⟩, .string ⟨#[]⟩, .string ⟨#[]⟩, .string ⟨#[]⟩, .string ⟨#[]⟩, .slice none 0 0] 27)).setRow w5.heap.size (cellsO o q).toArray) ge (.int .i64 0) (.int .i64 0)) := (E7.out.keep (below_al w5 _)).row (by omega) _
    have hbX : Below w5.heap.size w5 ((w5.alloc (.cells #[.int .i64 0, .string ⟨#[]⟩, .string ⟨#[]⟩, .string ⟨#[]⟩, .string ⟨#[]⟩, .string ⟨#[]⟩, .slice none 0 0] 27)).setRow w5.heap.size (cellsO o q).toArray) := below_setRowO (below_al w5 _) (Nat.le_refl _) _
    have BX : Hid (Bx ((w5.alloc (.cells #[.int .i64 0, .string ⟨#[]⟩, .string ⟨#[]⟩, .string ⟨#[]⟩, .string ⟨#[]⟩, .string ⟨#[]⟩, .slice none 0 0] 27)).setRow w5.heap.size (cellsO o q).toArray) w5.heap.size (cellsO o q).toArray) := setRow_heap _ _ _ _ _ _ B7.out
    have eX : ((w5.alloc (.cells #[.int .i64 0, .string ⟨#[]⟩, .string ⟨#[]⟩, .string ⟨#[]⟩, .string ⟨#[]⟩, .string ⟨#[]⟩, .slice none 0 0] 27)).setRow w5.heap.size (cellsO o q).toArray).setRow ge #[.int .i64 0, .int .i64 0] = (w5.alloc (.cells #[.int .i64 0, .string ⟨#[]⟩, .string ⟨#[]⟩, .string ⟨#[]⟩, .string ⟨#[]⟩, .string ⟨#[]⟩, .slice none 0 0] 27)).setRow w5.heap.size (cellsO o q).toArray := setRow_self _ _ _ _ _ E8.out
    have EX := qh9 eX
    have HQX := qh9 (HQ.out.below hbX)
    have HBX := qc9 HB7 hbX
    have HWX := qc9 HW7 hbX
    clear hbX eX hlt HB7 HW7
    go_upto_region 12 with (first | ((with_reducible refine storeB (w1 := w5) (g := w5.heap.size) (b := o) (p := q) (.tmp 7) (.tmp 35) ?_ ?_ ?_ ?_ HQ.out B7.out ?_); rfl; rfl; rfl; rfl) | ((with_reducible refine EB.store (.tmp 4) (.tmp 36) ?_ ?_ ge 0 0 (.int .i64 0) (.int .i64 0) ?_ ?_ E8.out ?_); rfl; rfl; rfl; rfl; rw [EX.out]))
    clear B7 HQ E7 EX
    generalize (w5.alloc (.cells #[.int .i64 0, .string ⟨#[]⟩, .string ⟨#[]⟩, .string ⟨#[]⟩, .string ⟨#[]⟩, .string ⟨#[]⟩, .slice none 0 0] 27)).setRow w5.heap.size (cellsO o q).toArray = X2 at *
    generalize w5.heap.size = g7 at *
    obtain ⟨z0, z1, z2, z3, z4, z5, eo⟩ := cells7 o q
    have BO : Hid (Bx X2 g7 #[z0, z1, z2, z3, z4, z5, q]) := by
     have := BX.out
     rwa [eo] at this
    have EV := qh9 (vO_cells eo)
    have CP : Hid (∀ X' y, Below X2.heap.size X2 X' → Sy.PgV X' userM y → Calls Tryz.prog 16 #[y, .string ⟨#[117, 115, 101, 114]⟩, .agg #[z0, z1, z2, z3, z4, z5, q]] X' (RetTE X' T 0)) := fun X' y hX hy => by
     have := CPA.out X' q y (chain2 HWX.out hX (Nat.le_refl _)) (HQX.out.below hX) hy
     rwa [EV.out] at this
    clear BX eo CPA
    have D0 := qh9 (BO.out.keep ((Below.refl X2.heap.size X2).drew))
    obtain ⟨m0, m1, m2, m3, m4, m5, m6⟩ := Bx.c BO.out
    obtain ⟨n0, n1, n2, n3, n4, n5, n6⟩ := Bx.c D0.out
    go_wp2_with fail
    go_region_held3 (fun W' => W'.cell? ⟨g7, 0, none⟩ = some z0 ∧ W'.cell? ⟨g7, 1, none⟩ = some z1 ∧ W'.cell? ⟨g7, 2, none⟩ = some z2 ∧ W'.cell? ⟨g7, 3, none⟩ = some z3 ∧ W'.cell? ⟨g7, 4, none⟩ = some z4 ∧ W'.cell? ⟨g7, 5, none⟩ = some z5 ∧ W'.cell? ⟨g7, 6, none⟩ = some q) (go_keep) ((first | (go_at_call 15; refine (packages6 _).mono ?_; rintro e x0a ⟨y0, rfl, hy, hb⟩; have HY0 := qh9 hy; have HR0 := qh9 ((Below.drew (Below.refl X2.heap.size X2)).trans hb); obtain ⟨q0, q1, q2, q3, q4, q5, q6⟩ := Bx.c (BO.out.keep HR0.out); clear hy hb) | (go_at_call 16; refine (CP.out x0a y0 HR0.out HY0.out).mono ?_; rintro e W0 ⟨rfl, hb⟩; have HG0 := qc9 HR0 hb; obtain ⟨t0, t1, t2, t3, t4, t5, t6⟩ := Bx.c (BO.out.keep HG0.out); clear hb)))
    have E9 := qh9 (E8.out.keep HG0.out)
    have HF := qh9 (chain2 HBX.out HG0.out (Nat.le_refl _))
    have ec := E9.out.c0
    clear m0 m1 m2 m3 m4 m5 m6 n0 n1 n2 n3 n4 n5 n6 q0 q1 q2 q3 q4 q5 q6 t0 t1 t2 t3 t4 t5 t6 CP BO D0 EV E8 HY0 HR0 HBX HWX HQX HG0
    go_wp2
    go_ret
    exact ⟨rfl, HF.out⟩
 · have hl2 : (100 : Int) < (s.size : Int) := by omega
   go_wp2
   go_ret
   exact ⟨rfl, HB.out⟩
/-- PrintAgain, whatever the input. -/
theorem again_walk (s : ByteArray) (w : World) (hT : EscT w) : Calls Tryz.prog 3 #[.string s] w (RetB w true) :=
 againW s w hT
end Go.Proofs.YtlocnkobancjmaaGreatDoor
