import Derived.Test.YtlmnjelideegnaaGreatDoorCl
import Derived.Test.YtlmnjelideegnaaGreatDoorL29
import Derived.Test.YtlmnjelideegnaaGreatDoorL30
import Derived.Test.YtlmnjelideegnaaGreatDoorL17
import Derived.Test.YtlmnjelideegnaaGreatDoorL26
import Derived.BigQuiet
import Derived.Test.YtlmnjelideegnaaGreatDoorL28
import Derived.Test.YtlmnjelideegnaaGreatDoorL27
namespace Go.Proofs.YtlmnjelideegnaaGreatDoor
open Go Go.RowKit
set_option linter.unusedVariables false
set_option maxHeartbeats 32000000
set_option maxRecDepth 100000
theorem quoteRH (w : World) : Calls Tryz.prog 26 #[.agg #[.string (BA lispB), .string ⟨#[113, 117, 111, 116, 101]⟩]] w (RetH w quoteO) :=
 (symO _ _ w (Has w)).mono fun _ _ h => h.h (In.has w)
theorem quotedRN (o : Ob) (p : Value) (W0 w : World) (hz : Below W0.heap.size W0 w) (hp : Hd w o p) (ci : ∀ X, Below W0.heap.size W0 X → Hd X o p → Calls Tryz.prog 90 #[vO o p] X (RetJo X (Has W0) none)) :
 Calls Tryz.prog 86 #[vO o p] w (RetQU W0 w none) := by
 have CI := qh9 ci
 have HZ := qh9 hz
 clear ci hz
 obtain ⟨a0, a1, a2, a3, a4, a5, ea⟩ := cells7 (o) p
 have T := Bx2.new w #[a0, a1, a2, a3, a4, a5, p] #[.int .i64 0, .string ⟨#[]⟩, .string ⟨#[]⟩, .string ⟨#[]⟩, .string ⟨#[]⟩, .string ⟨#[]⟩, .slice none 0 0]
 rw [vO_cells ea]
 go_enter Tryz.func86, Tryz.ntmps86
 go_upto_region 1 with fail
 generalize (w.alloc (.cells #[a0, a1, a2, a3, a4, a5, p] 39)).alloc (.cells #[.int .i64 0, .string ⟨#[]⟩, .string ⟨#[]⟩, .string ⟨#[]⟩, .string ⟨#[]⟩, .string ⟨#[]⟩, .slice none 0 0] 39) = W at T ⊢
 have B0 : Hid (Bx W (w.heap.size) (cellsO (o) p).toArray) := by rw [ea]; exact T.b0
 have K0 := qh9 (hp.below T.bel)
 have R0 := qh9 T.b1
 have HW := qh9 T.bel
 try rw [← vO_cells ea]
 clear T ea hp
 go_wp2_with (first | ((with_reducible refine loadB (.tmp 1) ?_ ?_ ?_ B0.out ?_); rfl; rfl; rfl) | ((with_reducible refine loadG (.tmp 1) ?_ ?_ ?_ B0.out ?_); rfl; rfl; rfl))
 with_reducible refine (CI.out _ (HZ.out.trans (HW.out.mono HZ.out.size)) K0.out).mono ?_
 rintro e w2 ⟨hb, rfl⟩
 replace B0 := qh9 (B0.out.keep hb)
 replace K0 := qh9 (K0.out.below hb)
 replace R0 := qh9 (R0.out.keep hb)
 replace HW := qc9 HW hb
 clear hb CI
 go_upto_region 2 with fail
 first | (go_region_with (fail)) | fail
 all_goals
  have RD := qh9 (R0.out.keep (Below.drew (Below.refl _ _)))
  have HWD := qh9 (Below.drew HW.out)
  go_wp2_with ((with_reducible refine storeZU (g := w.heap.size + 1) (.tmp 2) (.tmp 27) ?_ ?_ ?_ ?_ RD.out ?_); rfl; rfl; rfl; rfl)
  exact retQNs rfl rfl rfl RD.out (by omega) HWD.out
theorem quotedRL (o : Ob) (p : Value) (W0 w : World) (hz : Below W0.heap.size W0 w) (hp : Hd w o p) (l : List Ob) (hl : l.length ≠ 2) (ci : ∀ X, Below W0.heap.size W0 X → Hd X o p → Calls Tryz.prog 90 #[vO o p] X (RetJo X (Has W0) (some l))) :
 Calls Tryz.prog 86 #[vO o p] w (RetQU W0 w none) := by
 have CI := qh9 ci
 have HZ := qh9 hz
 clear ci hz
 obtain ⟨a0, a1, a2, a3, a4, a5, ea⟩ := cells7 (o) p
 have T := Bx2.new w #[a0, a1, a2, a3, a4, a5, p] #[.int .i64 0, .string ⟨#[]⟩, .string ⟨#[]⟩, .string ⟨#[]⟩, .string ⟨#[]⟩, .string ⟨#[]⟩, .slice none 0 0]
 rw [vO_cells ea]
 go_enter Tryz.func86, Tryz.ntmps86
 go_upto_region 1 with fail
 generalize (w.alloc (.cells #[a0, a1, a2, a3, a4, a5, p] 39)).alloc (.cells #[.int .i64 0, .string ⟨#[]⟩, .string ⟨#[]⟩, .string ⟨#[]⟩, .string ⟨#[]⟩, .string ⟨#[]⟩, .slice none 0 0] 39) = W at T ⊢
 have B0 : Hid (Bx W (w.heap.size) (cellsO (o) p).toArray) := by rw [ea]; exact T.b0
 have K0 := qh9 (hp.below T.bel)
 have R0 := qh9 T.b1
 have HW := qh9 T.bel
 try rw [← vO_cells ea]
 clear T ea hp
 go_wp2_with (first | ((with_reducible refine loadB (.tmp 1) ?_ ?_ ?_ B0.out ?_); rfl; rfl; rfl) | ((with_reducible refine loadG (.tmp 1) ?_ ?_ ?_ B0.out ?_); rfl; rfl; rfl))
 with_reducible refine (CI.out _ (HZ.out.trans (HW.out.mono HZ.out.size)) K0.out).mono ?_
 rintro e w2 ⟨hb, A, c, rfl, _, _⟩
 replace B0 := qh9 (B0.out.keep hb)
 replace K0 := qh9 (K0.out.below hb)
 replace R0 := qh9 (R0.out.keep hb)
 replace HW := qc9 HW hb
 clear hb CI
 obtain ⟨n, hn⟩ : ∃ n, l.length = n := ⟨_, rfl⟩
 rw [hn] at hl ⊢
 clear hn
 have hl2 : ¬ (n : Int) = 2 := by omega
 have hl3 : ((n : Int) != 2) = true := by simp; omega
 have hl5 : decide ((n : Int) = 2) = false := by simp; omega
 clear hl
 go_upto_region 2 with fail
 go_quiet (fail)
 all_goals
  have RD := qh9 (R0.out.keep (belDN _ nq))
  have HWD := qh9 (chain2 HW.out (belDN _ nq) (Nat.le_refl _))
  go_wp2_with ((with_reducible refine storeZU (g := w.heap.size + 1) (.tmp 2) (.tmp 27) ?_ ?_ ?_ ?_ RD.out ?_); rfl; rfl; rfl; rfl)
  exact retQNs rfl rfl rfl RD.out (by omega) HWD.out
theorem quotedRF (o : Ob) (p : Value) (W0 w : World) (hz : Below W0.heap.size W0 w) (hp : Hd w o p) (oi ox : Ob) (ci : ∀ X, Below W0.heap.size W0 X → Hd X o p → Calls Tryz.prog 90 #[vO o p] X (RetJo X (Has W0) (some [oi, ox])))
 (ce : ∀ X p q, Hd X oi p → Hd X quoteO q → Calls Tryz.prog 23 #[vO oi p, vO quoteO q] X (RetB X false)) :
 Calls Tryz.prog 86 #[vO o p] w (RetQU W0 w none) := by
 have CI := qh9 ci
 have HZ := qh9 hz
 clear ci hz
 obtain ⟨a0, a1, a2, a3, a4, a5, ea⟩ := cells7 (o) p
 have T := Bx2.new w #[a0, a1, a2, a3, a4, a5, p] #[.int .i64 0, .string ⟨#[]⟩, .string ⟨#[]⟩, .string ⟨#[]⟩, .string ⟨#[]⟩, .string ⟨#[]⟩, .slice none 0 0]
 rw [vO_cells ea]
 go_enter Tryz.func86, Tryz.ntmps86
 go_upto_region 1 with fail
 generalize (w.alloc (.cells #[a0, a1, a2, a3, a4, a5, p] 39)).alloc (.cells #[.int .i64 0, .string ⟨#[]⟩, .string ⟨#[]⟩, .string ⟨#[]⟩, .string ⟨#[]⟩, .string ⟨#[]⟩, .slice none 0 0] 39) = W at T ⊢
 have B0 : Hid (Bx W (w.heap.size) (cellsO (o) p).toArray) := by rw [ea]; exact T.b0
 have K0 := qh9 (hp.below T.bel)
 have R0 := qh9 T.b1
 have HW := qh9 T.bel
 try rw [← vO_cells ea]
 clear T ea hp
 go_wp2_with (first | ((with_reducible refine loadB (.tmp 1) ?_ ?_ ?_ B0.out ?_); rfl; rfl; rfl) | ((with_reducible refine loadG (.tmp 1) ?_ ?_ ?_ B0.out ?_); rfl; rfl; rfl))
 with_reducible refine (CI.out _ (HZ.out.trans (HW.out.mono HZ.out.size)) K0.out).mono ?_
 rintro e w2 ⟨hb, A, c, rfl, hc2, hA⟩
 obtain ⟨g, rfl, hat, hg1, hg2⟩ := hA (by simp)
 have hZ2 := (HZ.out.trans (HW.out.mono HZ.out.size)).trans (hb.mono (Nat.le_trans HZ.out.size HW.out.size))
 unfold ObsAt at hat
 obtain ⟨⟨pi, hpi, hci⟩, hat⟩ := hat
 unfold ObsAt at hat
 obtain ⟨⟨px, hpx, hcx⟩, _⟩ := hat
 have KI := qh9 (hpi.hd (fun b h => Nat.lt_of_lt_of_le h hZ2.size))
 have KX : Hid (Hd W0 ox px) := hpx.keep (fun b h => h) (fun b h => (hZ2.block b h).symm)
 replace B0 := qh9 (B0.out.keep hb)
 replace K0 := qh9 (K0.out.below hb)
 replace R0 := qh9 (R0.out.keep hb)
 replace HW := qc9 HW hb
 have HI : Hid (CAt w2 oi g 0 pi) := ⟨hg2, hci⟩
 have HX : Hid (CAt w2 ox g (0 + 7) px) := ⟨hg2, hcx⟩
 have CE := qh9 ce
 clear hb CI hg1 hZ2 hpi hpx hci hcx hg2 ce hA
 have e2 : [oi, ox].length = 2 := rfl
 rw [e2] at hc2 ⊢
 clear e2
 go_upto_region 2 with fail
 go_wp2_with fail
 refine wp_region_grow (l := _) 15 (by kernel_rfl) (by kernel_rfl) (fun i => [11, 12, 13, 14, 15, 16, 17, 18, 19, 20, 21, 22, 23, 24, 25].getD i 0) (LR [LV (.bool true), LV (.bool false), LV (.bool false), LV (.slice (some ⟨g, 0, none⟩) 2 c), LV (.int .i64 2), LV (.bool false), LV (.bool false), LV (.bool false), LV (.slice (some ⟨g, 0, none⟩) 2 c), LV (.pointer (some ⟨g, 0, none⟩)), LV (vO (oi) pi), LV (.agg #[.string (BA lispB), .string ⟨#[113, 117, 111, 116, 101]⟩]), LH (quoteO), LV (.bool false), LV (.bool true)]) (LR_mono (l := [LV (.bool true), LV (.bool false), LV (.bool false), LV (.slice (some ⟨g, 0, none⟩) 2 c), LV (.int .i64 2), LV (.bool false), LV (.bool false), LV (.bool false), LV (.slice (some ⟨g, 0, none⟩) 2 c), LV (.pointer (some ⟨g, 0, none⟩)), LV (vO (oi) pi), LV (.agg #[.string (BA lispB), .string ⟨#[113, 117, 111, 116, 101]⟩]), LH (quoteO), LV (.bool false), LV (.bool true)]) ⟨mLV _, mLV _, mLV _, mLV _, mLV _, mLV _, mLV _, mLV _, mLV _, mLV _, mLV _, mLV _, mLH _, mLV _, mLV _, trivial⟩) (by
  intro i j hi hj h
  exact inj_getD [11, 12, 13, 14, 15, 16, 17, 18, 19, 20, 21, 22, 23, 24, 25] (by decide) i j hi hj h) (by
  intro i hi
  exact lt_getD 31 [11, 12, 13, 14, 15, 16, 17, 18, 19, 20, 21, 22, 23, 24, 25] (by decide) i hi) ?step ?done
 case step =>
  intro i hi a w9 v lo hi' hoth hb hw
  have sl5 : a.tmps[5]? = some (.bool true) := (hoth 5 (fun j hj => by
   have := ne_getD 5 [11, 12, 13, 14, 15, 16, 17, 18, 19, 20, 21, 22, 23, 24, 25] (by decide) j hj
   exact this)).trans rfl
  have sl4 : a.tmps[4]? = some (.slice (some ⟨g, 0, none⟩) 2 c) := (hoth 4 (fun j hj => by
   have := ne_getD 4 [11, 12, 13, 14, 15, 16, 17, 18, 19, 20, 21, 22, 23, 24, 25] (by decide) j hj
   exact this)).trans rfl
  match i, hi with
  | 0, _ =>
   exact gw_move rfl (wanted_plain rfl) 5 _ rfl sl5 ⟨_, rfl, Below.refl _ _, rfl⟩
  | 1, _ =>
   obtain ⟨s0, r0, _⟩ := hw 0 (by omega) (by kernel_rfl)
   have e0 : v 0 = .bool true := r0
   rw [e0] at s0
   exact gw_not rfl (wanted_plain rfl) 11 _ _ rfl s0 ⟨_, rfl, Below.refl _ _, rfl⟩
  | 2, _ =>
   obtain ⟨s0, r0, _⟩ := hw 1 (by omega) (by kernel_rfl)
   have e0 : v 1 = .bool false := r0
   rw [e0] at s0
   exact gw_move rfl (wanted_plain rfl) 12 _ rfl s0 ⟨_, rfl, Below.refl _ _, rfl⟩
  | 3, _ =>
   obtain ⟨s9, r9, _⟩ := hw 2 (by omega) (by kernel_rfl)
   have e9 : v 2 = .bool false := r9
   rw [e9] at s9
   exact gw_move rfl (wanted_on rfl rfl rfl s9 rfl) 4 _ rfl sl4 ⟨_, rfl, Below.refl _ _, rfl⟩
  | 4, _ =>
   obtain ⟨s9, r9, _⟩ := hw 2 (by omega) (by kernel_rfl)
   have e9 : v 2 = .bool false := r9
   rw [e9] at s9
   obtain ⟨s0, r0, _⟩ := hw 3 (by omega) (by kernel_rfl)
   have e0 : v 3 = .slice (some ⟨g, 0, none⟩) 2 c := r0
   rw [e0] at s0
   exact gw_lenU rfl (wanted_on rfl rfl rfl s9 rfl) 14 _ _ _ rfl s0 ⟨_, rfl, Below.refl _ _, rfl⟩
  | 5, _ =>
   obtain ⟨s9, r9, _⟩ := hw 2 (by omega) (by kernel_rfl)
   have e9 : v 2 = .bool false := r9
   rw [e9] at s9
   obtain ⟨s0, r0, _⟩ := hw 4 (by omega) (by kernel_rfl)
   have e0 : v 4 = .int .i64 2 := r0
   rw [e0] at s0
   exact gw_neqU rfl (wanted_on rfl rfl rfl s9 rfl) 15 _ rfl s0 ⟨_, rfl, Below.refl _ _, rfl⟩
  | 6, _ =>
   obtain ⟨s0, r0, _⟩ := hw 2 (by omega) (by kernel_rfl)
   have e0 : v 2 = .bool false := r0
   rw [e0] at s0
   obtain ⟨s1, r1, _⟩ := hw 5 (by omega) (by kernel_rfl)
   have e1 : v 5 = .bool false := r1
   rw [e1] at s1
   exact gw_pickU rfl (wanted_plain rfl) 13 16 _ _ rfl s0 s1 ⟨_, rfl, Below.refl _ _, rfl⟩
  | 7, _ =>
   obtain ⟨s0, r0, _⟩ := hw 6 (by omega) (by kernel_rfl)
   have e0 : v 6 = .bool false := r0
   rw [e0] at s0
   exact gw_move rfl (wanted_plain rfl) 17 _ rfl s0 ⟨_, rfl, Below.refl _ _, rfl⟩
  | 8, _ =>
   obtain ⟨s9, r9, _⟩ := hw 7 (by omega) (by kernel_rfl)
   have e9 : v 7 = .bool false := r9
   rw [e9] at s9
   exact gw_move rfl (wanted_on rfl rfl rfl s9 rfl) 4 _ rfl sl4 ⟨_, rfl, Below.refl _ _, rfl⟩
  | 9, _ =>
   obtain ⟨s9, r9, _⟩ := hw 7 (by omega) (by kernel_rfl)
   have e9 : v 7 = .bool false := r9
   rw [e9] at s9
   obtain ⟨s0, r0, _⟩ := hw 8 (by omega) (by kernel_rfl)
   have e0 : v 8 = .slice (some ⟨g, 0, none⟩) 2 c := r0
   rw [e0] at s0
   exact gw_idxU rfl (wanted_on rfl rfl rfl s9 rfl) 19 _ _ _ rfl s0 ⟨_, rfl, Below.refl _ _, rfl⟩
  | 10, _ =>
   obtain ⟨s9, r9, _⟩ := hw 7 (by omega) (by kernel_rfl)
   have e9 : v 7 = .bool false := r9
   rw [e9] at s9
   obtain ⟨s0, r0, _⟩ := hw 9 (by omega) (by kernel_rfl)
   have e0 : v 9 = .pointer (some ⟨g, 0, none⟩) := r0
   rw [e0] at s0
   exact gw_ldU rfl (wanted_on rfl rfl rfl s9 rfl) 20 rfl s0 (HI.out.below hb) ⟨_, rfl, Below.refl _ _, rfl⟩
  | 11, _ =>
   obtain ⟨s9, r9, _⟩ := hw 7 (by omega) (by kernel_rfl)
   have e9 : v 7 = .bool false := r9
   rw [e9] at s9
   refine gw_c rfl (wanted_on rfl rfl rfl s9 rfl) 28  _ _ rfl (fun v w => by go_simp)  ?_
   with_reducible refine (lispO _ w9).mono ?_
   rintro e w3 ⟨rfl, hb3⟩
   exact ⟨_, rfl, _, rfl, hb3, rfl⟩
  | 12, _ =>
   obtain ⟨s9, r9, _⟩ := hw 7 (by omega) (by kernel_rfl)
   have e9 : v 7 = .bool false := r9
   rw [e9] at s9
   obtain ⟨s0, r0, _⟩ := hw 11 (by omega) (by kernel_rfl)
   have e0 : v 11 = .agg #[.string (BA lispB), .string ⟨#[113, 117, 111, 116, 101]⟩] := r0
   rw [e0] at s0
   refine gw_t rfl (wanted_on rfl rfl rfl s9 rfl) 26 22 _ _ rfl (fun v w => by go_simp) s0 ?_
   with_reducible refine (quoteRH w9).mono ?_
   rintro e w3 ⟨p, rfl, hp, hb3⟩
   exact ⟨_, rfl, _, rfl, hb3, p, rfl, hp⟩
  | 13, _ =>
   obtain ⟨s9, r9, _⟩ := hw 7 (by omega) (by kernel_rfl)
   have e9 : v 7 = .bool false := r9
   rw [e9] at s9
   obtain ⟨s0, r0, _⟩ := hw 10 (by omega) (by kernel_rfl)
   have e0 : v 10 = vO (oi) pi := r0
   rw [e0] at s0
   obtain ⟨s1, r1, _⟩ := hw 12 (by omega) (by kernel_rfl)
   obtain ⟨qq1, e1, kk1⟩ : LH (quoteO) (v 12) (lo 12) (hi' 12) w9 := r1
   rw [e1] at s1
   refine gw_tt rfl (wanted_on rfl rfl rfl s9 rfl) 23 21 23 _ _ _ rfl (fun v u w => by go_simp) s0 s1 ?_
   with_reducible refine (CE.out w9 pi qq1 (KI.out.below hb) kk1).mono ?_
   rintro e w3 ⟨rfl, hb3⟩
   exact ⟨_, rfl, _, rfl, hb3, rfl⟩
  | 14, _ =>
   obtain ⟨s9, r9, _⟩ := hw 7 (by omega) (by kernel_rfl)
   have e9 : v 7 = .bool false := r9
   rw [e9] at s9
   obtain ⟨s0, r0, _⟩ := hw 13 (by omega) (by kernel_rfl)
   have e0 : v 13 = .bool false := r0
   rw [e0] at s0
   exact gw_not rfl (wanted_on rfl rfl rfl s9 rfl) 24 _ _ rfl s0 ⟨_, rfl, Below.refl _ _, rfl⟩
  | k + 15, h => exact absurd h (by omega)
 case done =>
  intro a w9 v lo hi' hdef hsz hoth hb hj hap
  obtain ⟨_, hv7, _, _⟩ := hj 7 (by omega)
  obtain ⟨_, hv14, _, _⟩ := hj 14 (by omega)
  have ha := eq_puts hdef hsz hoth (fun i hi => (hj i hi).1)
  subst ha
  clear hj hoth hdef hsz hap
  change v 7 = _ at hv7
  change v 14 = _ at hv14
  simp only [puts, List.getD_cons_zero, List.getD_cons_succ, hv7, hv14]
  generalize v 0 = v0
  generalize v 1 = v1
  generalize v 2 = v2
  generalize v 3 = v3
  generalize v 4 = v4
  generalize v 5 = v5
  generalize v 6 = v6
  generalize v 8 = v8
  generalize v 9 = v9
  generalize v 10 = v10
  generalize v 11 = v11
  generalize v 12 = v12
  generalize v 13 = v13
  clear hv7 hv14
  simp only [Act.put, List.setIfInBounds_toArray, List.set_cons_zero, List.set_cons_succ]
  show wpList _ _ _ [_] _ _
  replace B0 := qh9 (B0.out.keep hb)
  replace K0 := qh9 (K0.out.below hb)
  replace R0 := qh9 (R0.out.keep hb)
  replace HW := qc9 HW hb
  replace KI := qh9 (KI.out.below hb)
  replace HI := qh9 (HI.out.below hb)
  replace HX := qh9 (HX.out.below hb)
  clear hb
  go_wp2_with ((with_reducible refine storeZU (g := w.heap.size + 1) (.tmp 2) (.tmp 27) ?_ ?_ ?_ ?_ R0.out ?_); rfl; rfl; rfl; rfl)
  exact retQNs rfl rfl rfl R0.out (by omega) HW.out
theorem quotedRT (o : Ob) (p : Value) (W0 w : World) (hz : Below W0.heap.size W0 w) (hp : Hd w o p) (oi ox : Ob) (ci : ∀ X, Below W0.heap.size W0 X → Hd X o p → Calls Tryz.prog 90 #[vO o p] X (RetJo X (Has W0) (some [oi, ox])))
 (ce : ∀ X p q, Hd X oi p → Hd X quoteO q → Calls Tryz.prog 23 #[vO oi p, vO quoteO q] X (RetB X true)) :
 Calls Tryz.prog 86 #[vO o p] w (RetQU W0 w (some ox)) := by
 have CI := qh9 ci
 have HZ := qh9 hz
 clear ci hz
 obtain ⟨a0, a1, a2, a3, a4, a5, ea⟩ := cells7 (o) p
 have T := Bx2.new w #[a0, a1, a2, a3, a4, a5, p] #[.int .i64 0, .string ⟨#[]⟩, .string ⟨#[]⟩, .string ⟨#[]⟩, .string ⟨#[]⟩, .string ⟨#[]⟩, .slice none 0 0]
 rw [vO_cells ea]
 go_enter Tryz.func86, Tryz.ntmps86
 go_upto_region 1 with fail
 generalize (w.alloc (.cells #[a0, a1, a2, a3, a4, a5, p] 39)).alloc (.cells #[.int .i64 0, .string ⟨#[]⟩, .string ⟨#[]⟩, .string ⟨#[]⟩, .string ⟨#[]⟩, .string ⟨#[]⟩, .slice none 0 0] 39) = W at T ⊢
 have B0 : Hid (Bx W (w.heap.size) (cellsO (o) p).toArray) := by rw [ea]; exact T.b0
 have K0 := qh9 (hp.below T.bel)
 have R0 := qh9 T.b1
 have HW := qh9 T.bel
 try rw [← vO_cells ea]
 clear T ea hp
 go_wp2_with (first | ((with_reducible refine loadB (.tmp 1) ?_ ?_ ?_ B0.out ?_); rfl; rfl; rfl) | ((with_reducible refine loadG (.tmp 1) ?_ ?_ ?_ B0.out ?_); rfl; rfl; rfl))
 with_reducible refine (CI.out _ (HZ.out.trans (HW.out.mono HZ.out.size)) K0.out).mono ?_
 rintro e w2 ⟨hb, A, c, rfl, hc2, hA⟩
 obtain ⟨g, rfl, hat, hg1, hg2⟩ := hA (by simp)
 have hZ2 := (HZ.out.trans (HW.out.mono HZ.out.size)).trans (hb.mono (Nat.le_trans HZ.out.size HW.out.size))
 unfold ObsAt at hat
 obtain ⟨⟨pi, hpi, hci⟩, hat⟩ := hat
 unfold ObsAt at hat
 obtain ⟨⟨px, hpx, hcx⟩, _⟩ := hat
 have KI := qh9 (hpi.hd (fun b h => Nat.lt_of_lt_of_le h hZ2.size))
 have KX : Hid (Hd W0 ox px) := hpx.keep (fun b h => h) (fun b h => (hZ2.block b h).symm)
 replace B0 := qh9 (B0.out.keep hb)
 replace K0 := qh9 (K0.out.below hb)
 replace R0 := qh9 (R0.out.keep hb)
 replace HW := qc9 HW hb
 have HI : Hid (CAt w2 oi g 0 pi) := ⟨hg2, hci⟩
 have HX : Hid (CAt w2 ox g (0 + 7) px) := ⟨hg2, hcx⟩
 have CE := qh9 ce
 clear hb CI hg1 hZ2 hpi hpx hci hcx hg2 ce hA
 have e2 : [oi, ox].length = 2 := rfl
 rw [e2] at hc2 ⊢
 clear e2
 go_upto_region 2 with fail
 go_wp2_with fail
 refine wp_region_grow (l := _) 15 (by kernel_rfl) (by kernel_rfl) (fun i => [11, 12, 13, 14, 15, 16, 17, 18, 19, 20, 21, 22, 23, 24, 25].getD i 0) (LR [LV (.bool true), LV (.bool false), LV (.bool false), LV (.slice (some ⟨g, 0, none⟩) 2 c), LV (.int .i64 2), LV (.bool false), LV (.bool false), LV (.bool false), LV (.slice (some ⟨g, 0, none⟩) 2 c), LV (.pointer (some ⟨g, 0, none⟩)), LV (vO (oi) pi), LV (.agg #[.string (BA lispB), .string ⟨#[113, 117, 111, 116, 101]⟩]), LH (quoteO), LV (.bool true), LV (.bool false)]) (LR_mono (l := [LV (.bool true), LV (.bool false), LV (.bool false), LV (.slice (some ⟨g, 0, none⟩) 2 c), LV (.int .i64 2), LV (.bool false), LV (.bool false), LV (.bool false), LV (.slice (some ⟨g, 0, none⟩) 2 c), LV (.pointer (some ⟨g, 0, none⟩)), LV (vO (oi) pi), LV (.agg #[.string (BA lispB), .string ⟨#[113, 117, 111, 116, 101]⟩]), LH (quoteO), LV (.bool true), LV (.bool false)]) ⟨mLV _, mLV _, mLV _, mLV _, mLV _, mLV _, mLV _, mLV _, mLV _, mLV _, mLV _, mLV _, mLH _, mLV _, mLV _, trivial⟩) (by
  intro i j hi hj h
  exact inj_getD [11, 12, 13, 14, 15, 16, 17, 18, 19, 20, 21, 22, 23, 24, 25] (by decide) i j hi hj h) (by
  intro i hi
  exact lt_getD 31 [11, 12, 13, 14, 15, 16, 17, 18, 19, 20, 21, 22, 23, 24, 25] (by decide) i hi) ?step ?done
 case step =>
  intro i hi a w9 v lo hi' hoth hb hw
  have sl5 : a.tmps[5]? = some (.bool true) := (hoth 5 (fun j hj => by
   have := ne_getD 5 [11, 12, 13, 14, 15, 16, 17, 18, 19, 20, 21, 22, 23, 24, 25] (by decide) j hj
   exact this)).trans rfl
  have sl4 : a.tmps[4]? = some (.slice (some ⟨g, 0, none⟩) 2 c) := (hoth 4 (fun j hj => by
   have := ne_getD 4 [11, 12, 13, 14, 15, 16, 17, 18, 19, 20, 21, 22, 23, 24, 25] (by decide) j hj
   exact this)).trans rfl
  match i, hi with
  | 0, _ =>
   exact gw_move rfl (wanted_plain rfl) 5 _ rfl sl5 ⟨_, rfl, Below.refl _ _, rfl⟩
  | 1, _ =>
   obtain ⟨s0, r0, _⟩ := hw 0 (by omega) (by kernel_rfl)
   have e0 : v 0 = .bool true := r0
   rw [e0] at s0
   exact gw_not rfl (wanted_plain rfl) 11 _ _ rfl s0 ⟨_, rfl, Below.refl _ _, rfl⟩
  | 2, _ =>
   obtain ⟨s0, r0, _⟩ := hw 1 (by omega) (by kernel_rfl)
   have e0 : v 1 = .bool false := r0
   rw [e0] at s0
   exact gw_move rfl (wanted_plain rfl) 12 _ rfl s0 ⟨_, rfl, Below.refl _ _, rfl⟩
  | 3, _ =>
   obtain ⟨s9, r9, _⟩ := hw 2 (by omega) (by kernel_rfl)
   have e9 : v 2 = .bool false := r9
   rw [e9] at s9
   exact gw_move rfl (wanted_on rfl rfl rfl s9 rfl) 4 _ rfl sl4 ⟨_, rfl, Below.refl _ _, rfl⟩
  | 4, _ =>
   obtain ⟨s9, r9, _⟩ := hw 2 (by omega) (by kernel_rfl)
   have e9 : v 2 = .bool false := r9
   rw [e9] at s9
   obtain ⟨s0, r0, _⟩ := hw 3 (by omega) (by kernel_rfl)
   have e0 : v 3 = .slice (some ⟨g, 0, none⟩) 2 c := r0
   rw [e0] at s0
   exact gw_lenU rfl (wanted_on rfl rfl rfl s9 rfl) 14 _ _ _ rfl s0 ⟨_, rfl, Below.refl _ _, rfl⟩
  | 5, _ =>
   obtain ⟨s9, r9, _⟩ := hw 2 (by omega) (by kernel_rfl)
   have e9 : v 2 = .bool false := r9
   rw [e9] at s9
   obtain ⟨s0, r0, _⟩ := hw 4 (by omega) (by kernel_rfl)
   have e0 : v 4 = .int .i64 2 := r0
   rw [e0] at s0
   exact gw_neqU rfl (wanted_on rfl rfl rfl s9 rfl) 15 _ rfl s0 ⟨_, rfl, Below.refl _ _, rfl⟩
  | 6, _ =>
   obtain ⟨s0, r0, _⟩ := hw 2 (by omega) (by kernel_rfl)
   have e0 : v 2 = .bool false := r0
   rw [e0] at s0
   obtain ⟨s1, r1, _⟩ := hw 5 (by omega) (by kernel_rfl)
   have e1 : v 5 = .bool false := r1
   rw [e1] at s1
   exact gw_pickU rfl (wanted_plain rfl) 13 16 _ _ rfl s0 s1 ⟨_, rfl, Below.refl _ _, rfl⟩
  | 7, _ =>
   obtain ⟨s0, r0, _⟩ := hw 6 (by omega) (by kernel_rfl)
   have e0 : v 6 = .bool false := r0
   rw [e0] at s0
   exact gw_move rfl (wanted_plain rfl) 17 _ rfl s0 ⟨_, rfl, Below.refl _ _, rfl⟩
  | 8, _ =>
   obtain ⟨s9, r9, _⟩ := hw 7 (by omega) (by kernel_rfl)
   have e9 : v 7 = .bool false := r9
   rw [e9] at s9
   exact gw_move rfl (wanted_on rfl rfl rfl s9 rfl) 4 _ rfl sl4 ⟨_, rfl, Below.refl _ _, rfl⟩
  | 9, _ =>
   obtain ⟨s9, r9, _⟩ := hw 7 (by omega) (by kernel_rfl)
   have e9 : v 7 = .bool false := r9
   rw [e9] at s9
   obtain ⟨s0, r0, _⟩ := hw 8 (by omega) (by kernel_rfl)
   have e0 : v 8 = .slice (some ⟨g, 0, none⟩) 2 c := r0
   rw [e0] at s0
   exact gw_idxU rfl (wanted_on rfl rfl rfl s9 rfl) 19 _ _ _ rfl s0 ⟨_, rfl, Below.refl _ _, rfl⟩
  | 10, _ =>
   obtain ⟨s9, r9, _⟩ := hw 7 (by omega) (by kernel_rfl)
   have e9 : v 7 = .bool false := r9
   rw [e9] at s9
   obtain ⟨s0, r0, _⟩ := hw 9 (by omega) (by kernel_rfl)
   have e0 : v 9 = .pointer (some ⟨g, 0, none⟩) := r0
   rw [e0] at s0
   exact gw_ldU rfl (wanted_on rfl rfl rfl s9 rfl) 20 rfl s0 (HI.out.below hb) ⟨_, rfl, Below.refl _ _, rfl⟩
  | 11, _ =>
   obtain ⟨s9, r9, _⟩ := hw 7 (by omega) (by kernel_rfl)
   have e9 : v 7 = .bool false := r9
   rw [e9] at s9
   refine gw_c rfl (wanted_on rfl rfl rfl s9 rfl) 28  _ _ rfl (fun v w => by go_simp)  ?_
   with_reducible refine (lispO _ w9).mono ?_
   rintro e w3 ⟨rfl, hb3⟩
   exact ⟨_, rfl, _, rfl, hb3, rfl⟩
  | 12, _ =>
   obtain ⟨s9, r9, _⟩ := hw 7 (by omega) (by kernel_rfl)
   have e9 : v 7 = .bool false := r9
   rw [e9] at s9
   obtain ⟨s0, r0, _⟩ := hw 11 (by omega) (by kernel_rfl)
   have e0 : v 11 = .agg #[.string (BA lispB), .string ⟨#[113, 117, 111, 116, 101]⟩] := r0
   rw [e0] at s0
   refine gw_t rfl (wanted_on rfl rfl rfl s9 rfl) 26 22 _ _ rfl (fun v w => by go_simp) s0 ?_
   with_reducible refine (quoteRH w9).mono ?_
   rintro e w3 ⟨p, rfl, hp, hb3⟩
   exact ⟨_, rfl, _, rfl, hb3, p, rfl, hp⟩
  | 13, _ =>
   obtain ⟨s9, r9, _⟩ := hw 7 (by omega) (by kernel_rfl)
   have e9 : v 7 = .bool false := r9
   rw [e9] at s9
   obtain ⟨s0, r0, _⟩ := hw 10 (by omega) (by kernel_rfl)
   have e0 : v 10 = vO (oi) pi := r0
   rw [e0] at s0
   obtain ⟨s1, r1, _⟩ := hw 12 (by omega) (by kernel_rfl)
   obtain ⟨qq1, e1, kk1⟩ : LH (quoteO) (v 12) (lo 12) (hi' 12) w9 := r1
   rw [e1] at s1
   refine gw_tt rfl (wanted_on rfl rfl rfl s9 rfl) 23 21 23 _ _ _ rfl (fun v u w => by go_simp) s0 s1 ?_
   with_reducible refine (CE.out w9 pi qq1 (KI.out.below hb) kk1).mono ?_
   rintro e w3 ⟨rfl, hb3⟩
   exact ⟨_, rfl, _, rfl, hb3, rfl⟩
  | 14, _ =>
   obtain ⟨s9, r9, _⟩ := hw 7 (by omega) (by kernel_rfl)
   have e9 : v 7 = .bool false := r9
   rw [e9] at s9
   obtain ⟨s0, r0, _⟩ := hw 13 (by omega) (by kernel_rfl)
   have e0 : v 13 = .bool true := r0
   rw [e0] at s0
   exact gw_not rfl (wanted_on rfl rfl rfl s9 rfl) 24 _ _ rfl s0 ⟨_, rfl, Below.refl _ _, rfl⟩
  | k + 15, h => exact absurd h (by omega)
 case done =>
  intro a w9 v lo hi' hdef hsz hoth hb hj hap
  obtain ⟨_, hv7, _, _⟩ := hj 7 (by omega)
  obtain ⟨_, hv14, _, _⟩ := hj 14 (by omega)
  have ha := eq_puts hdef hsz hoth (fun i hi => (hj i hi).1)
  subst ha
  clear hj hoth hdef hsz hap
  change v 7 = _ at hv7
  change v 14 = _ at hv14
  simp only [puts, List.getD_cons_zero, List.getD_cons_succ, hv7, hv14]
  generalize v 0 = v0
  generalize v 1 = v1
  generalize v 2 = v2
  generalize v 3 = v3
  generalize v 4 = v4
  generalize v 5 = v5
  generalize v 6 = v6
  generalize v 8 = v8
  generalize v 9 = v9
  generalize v 10 = v10
  generalize v 11 = v11
  generalize v 12 = v12
  generalize v 13 = v13
  clear hv7 hv14
  simp only [Act.put, List.setIfInBounds_toArray, List.set_cons_zero, List.set_cons_succ]
  show wpList _ _ _ [_] _ _
  replace B0 := qh9 (B0.out.keep hb)
  replace K0 := qh9 (K0.out.below hb)
  replace R0 := qh9 (R0.out.keep hb)
  replace HW := qc9 HW hb
  replace KI := qh9 (KI.out.below hb)
  replace HI := qh9 (HI.out.below hb)
  replace HX := qh9 (HX.out.below hb)
  clear hb
  have KX1 := qh9 (KX.out.below (HZ.out.trans (HW.out.mono HZ.out.size)))
  go_wp2_with (first | ((with_reducible refine loadCU ?_ ?_ HX.out ?_); exact ⟨_, rfl, rfl⟩; rfl) | ((with_reducible refine storeB (w1 := w9) (g := w.heap.size + 1) (b := ox) (p := px) (.tmp 2) (.tmp 30) ?_ ?_ ?_ ?_ KX1.out R0.out ?_); rfl; rfl; rfl; rfl))
  exact retQSs rfl rfl rfl R0.out rfl KX.out (by omega) HW.out
theorem quotedRo (o : Ob) (p : Value) (W0 w : World) (hz : Below W0.heap.size W0 w) (hp0 : Hd W0 o p) (hn : o.nodes ≤ 3000) : Calls Tryz.prog 86 #[vO o p] w (RetQU W0 w (qO o)) := by
 have ci : ∀ X, Below W0.heap.size W0 X → Hd X o p → Calls Tryz.prog 90 #[vO o p] X (RetJo X (Has W0) o.items) := fun X h _ => itemsRo o p X (Has W0) (fun b hb => Nat.lt_of_lt_of_le hb h.size) (hp0.keep (fun b h => h) (fun b hb => h.block b hb)) (by omega)
 have hp : Hd w o p := hp0.below hz
 clear hp0
 unfold qO
 cases hi : o.items with
 | none => rw [hi] at ci; exact quotedRN o p W0 w hz hp ci
 | some l =>
  rw [hi] at ci
  match l, ci with
  | [], ci => exact quotedRL o p W0 w hz hp [] (by simp) ci
  | [a], ci => exact quotedRL o p W0 w hz hp [a] (by simp) ci
  | a :: b :: c :: l, ci => exact quotedRL o p W0 w hz hp (a :: b :: c :: l) (by simp) ci
  | [i, x], ci =>
   by_cases e : i = quoteO
   · show Calls _ _ _ _ (RetQU W0 w (if i = quoteO then some x else none))
     rw [if_pos e]
     exact quotedRT o p W0 w hz hp i x ci (fun X p q h h' => by
      have := equalO i quoteO p q X (Has X) (In.has X) h h'
      rwa [decide_eq_true e] at this)
   · show Calls _ _ _ _ (RetQU W0 w (if i = quoteO then some x else none))
     rw [if_neg e]
     exact quotedRF o p W0 w hz hp i x ci (fun X p q h h' => by
      have := equalO i quoteO p q X (Has X) (In.has X) h h'
      rwa [decide_eq_false e] at this)
theorem homesSym (l : List Sy.Pg) (v : Value) (x y : List UInt8) (p : Value) (w : World) (hv : Sy.PgV w l v) (hl : l.length ≤ 1000000) (hi : ∀ q ∈ l, q.2.length ≤ 1000000) :
 Calls Tryz.prog 53 #[v, vO (.sym x y) p] w (RetB w (Sy.homeM l (BA x, BA y))) := by
 have C : Hid (∀ X, Below w.heap.size w X → Calls Tryz.prog 40 #[v, .agg #[.string (BA x), .string (BA y)]] X (RetB X (Sy.homeM l (BA x, BA y)))) := fun X h => Sy.homeRY l v (BA x) (BA y) X (hv.keep h) hl hi
 generalize Sy.homeM l (BA x, BA y) = r at C ⊢
 have ea : cellsO (.sym x y) p = [.int .i64 2, .string ⟨#[]⟩, .string ⟨#[]⟩, .string (BA x), .string (BA y), .string ⟨#[]⟩, p] := rfl
 have T := Bx1.new w #[.int .i64 2, .string ⟨#[]⟩, .string ⟨#[]⟩, .string (BA x), .string (BA y), .string ⟨#[]⟩, p]
 rw [vO_cells ea]
 clear hv hl hi
 go_enter Tryz.func53, Tryz.ntmps53
 go_upto_region 1 with fail
 generalize w.alloc (.cells #[.int .i64 2, .string ⟨#[]⟩, .string ⟨#[]⟩, .string (BA x), .string (BA y), .string ⟨#[]⟩, p] 39) = W at T ⊢
 have HW := qh9 T.bel
 obtain ⟨m0, m1, m2, m3, m4, m5, m6⟩ := Bx.c T.b0
 clear T ea
 go_wp2_with fail
 with_reducible refine (C.out _ HW.out).mono ?_
 rintro e w1 ⟨rfl, hb⟩
 go_wp2
 go_ret
 exact ⟨rfl, chain2 HW.out hb (Nat.le_refl _)⟩
theorem homesFlat (v : Value) (k : Int) (hk2 : (k == 2) = false) (a1 a2 a3 a4 a5 : Value) (w : World) :
 Calls Tryz.prog 53 #[v, .agg #[.int .i64 k, a1, a2, a3, a4, a5, .slice none 0 0]] w (RetB w true) := by
 have T := Bx1.new w #[.int .i64 k, a1, a2, a3, a4, a5, .slice none 0 0]
 go_enter Tryz.func53, Tryz.ntmps53
 go_upto_region 1 with fail
 generalize w.alloc (.cells #[.int .i64 k, a1, a2, a3, a4, a5, .slice none 0 0] 39) = W at T ⊢
 have HW := qh9 T.bel
 have HT := qh9 T.b0
 obtain ⟨m0, m1, m2, m3, m4, m5, m6⟩ := Bx.c T.b0
 clear T
 go_wp2_with fail
 go_loopw [5] (fun v wr => v = .int .i64 0 ∧ wr = W) (fun _ _ => 0)
 case atStart => exact ⟨rfl, rfl⟩
 case round =>
  obtain ⟨rfl, rfl⟩ := hrel
  go_wp2
  go_ret
  exact ⟨rfl, HW.out⟩
/-- Between rounds of homes. -/
structure HmW (w wr : World) (p : Value) (i : Nat) (x y : Bool) : Prop where
 bel : Below w.heap.size w wr
 box : Bx wr w.heap.size #[.int .i64 4, .string ⟨#[]⟩, .string ⟨#[]⟩, .string ⟨#[]⟩, .string ⟨#[]⟩, .string ⟨#[]⟩, p]
 h1 : 1 ≤ i → x = true
 h2 : 2 ≤ i → y = true
theorem homesCons (l : List Sy.Pg) (v : Value) (a d : Ob) (x y : Bool) (p : Value) (w : World) (hv : Sy.PgV w l v) (hp : Hd w (.cons a d) p)
 (ca : ∀ X q, Sy.PgV X l v → Hd X a q → Calls Tryz.prog 53 #[v, vO a q] X (RetB X x)) (cd : ∀ X q, Sy.PgV X l v → Hd X d q → Calls Tryz.prog 53 #[v, vO d q] X (RetB X y)) :
 Calls Tryz.prog 53 #[v, vO (.cons a d) p] w (RetB w (x && y)) := by
 obtain ⟨b1, o1, n1, pa, pd, rfl, hn1, hA, hD⟩ := hp.consU
 have CA := qh9 ca
 have CD := qh9 cd
 have HV := qh9 hv
 have HA := qh9 hA
 have HD := qh9 hD
 clear ca cd hv hA hD
 obtain ⟨z, hz⟩ : ∃ z, (x && y) = z := ⟨_, rfl⟩
 rw [hz]
 have HZ := qh9 hz
 clear hz
 have ea : cellsO (.cons a d) (.slice (some ⟨b1, o1, none⟩) 2 n1) = [.int .i64 4, .string ⟨#[]⟩, .string ⟨#[]⟩, .string ⟨#[]⟩, .string ⟨#[]⟩, .string ⟨#[]⟩, (.slice (some ⟨b1, o1, none⟩) 2 n1)] := rfl
 have T := Bx1.new w #[.int .i64 4, .string ⟨#[]⟩, .string ⟨#[]⟩, .string ⟨#[]⟩, .string ⟨#[]⟩, .string ⟨#[]⟩, (.slice (some ⟨b1, o1, none⟩) 2 n1)]
 rw [vO_cells ea]
 go_enter Tryz.func53, Tryz.ntmps53
 go_upto_region 1 with fail
 generalize w.alloc (.cells #[.int .i64 4, .string ⟨#[]⟩, .string ⟨#[]⟩, .string ⟨#[]⟩, .string ⟨#[]⟩, .string ⟨#[]⟩, (.slice (some ⟨b1, o1, none⟩) 2 n1)] 39) = W at T ⊢
 have h0 : Hid (HmW w W (.slice (some ⟨b1, o1, none⟩) 2 n1) 0 x y) := ⟨T.bel, T.b0, fun h => absurd h (by omega), fun h => absurd h (by omega)⟩
 obtain ⟨m0, m1, m2, m3, m4, m5, m6⟩ := Bx.c T.b0
 clear T ea hp
 go_wp2_with fail
 clear m0 m1 m2 m3 m4 m5 m6
 go_loopw [5] (fun v wr => ∃ i : Nat, i ≤ 2 ∧ v = .int .i64 (i : Int) ∧ Hid (HmW w wr (.slice (some ⟨b1, o1, none⟩) 2 n1) i x y)) (fun v _ => 2 - (intOf v).toNat)
 case atStart => exact ⟨0, by omega, rfl, h0⟩
 case round =>
  clear h0
  obtain ⟨i, hi2, rfl, hE⟩ := hrel
  obtain ⟨wo, rfl⟩ : ∃ wo : World, wo = wr := ⟨_, rfl⟩
  obtain ⟨m0, m1, m2, m3, m4, m5, m6⟩ := Bx.c hE.out.box
  have HA1 := qh9 (HA.out.below hE.out.bel)
  have HD1 := qh9 (HD.out.below hE.out.bel)
  have HV1 := qh9 (HV.out.keep hE.out.bel)
  match i, hi2 with
  | 0, _ =>
   go_wp2_with ((with_reducible refine loadAU ?_ ?_ HA1.out ?_); exact ⟨_, rfl, rfl⟩; rfl)
   with_reducible refine (CA.out _ _ HV1.out HA1.out.hd).mono ?_
   rintro e w1 ⟨rfl, hb⟩
   have HB := qh9 (chain2 hE.out.bel hb (Nat.le_refl _))
   cases x with
   | false =>
    have hz : false = z := by rw [← HZ.out]; rfl
    subst hz
    go_wp2
    go_ret
    exact ⟨rfl, HB.out⟩
   | true =>
    have h1 : Hid (HmW w w1 (.slice (some ⟨b1, o1, none⟩) 2 n1) 1 true y) := ⟨HB.out, hE.out.box.keep hb, fun _ => rfl, fun h => absurd h (by omega)⟩
    clear m0 m1 m2 m3 m4 m5 m6 hb
    go_wp2_with fail
    go_roundw
    case rel => exact ⟨1, by omega, by go_num, h1⟩
    case measure => simp [intOf]
  | 1, _ =>
   have hx : x = true := hE.out.h1 (by omega)
   go_wp2_with ((with_reducible refine loadAU ?_ ?_ HD1.out ?_); exact ⟨_, rfl, rfl⟩; rfl)
   with_reducible refine (CD.out _ _ HV1.out HD1.out.hd).mono ?_
   rintro e w1 ⟨rfl, hb⟩
   have HB := qh9 (chain2 hE.out.bel hb (Nat.le_refl _))
   cases y with
   | false =>
    have hz : false = z := by rw [← HZ.out, hx]; rfl
    subst hz
    go_wp2
    go_ret
    exact ⟨rfl, HB.out⟩
   | true =>
    have h1 : Hid (HmW w w1 (.slice (some ⟨b1, o1, none⟩) 2 n1) 2 x true) := ⟨HB.out, hE.out.box.keep hb, fun _ => hx, fun _ => rfl⟩
    clear m0 m1 m2 m3 m4 m5 m6 hb hx
    go_wp2_with fail
    go_roundw
    case rel => exact ⟨2, by omega, by go_num, h1⟩
    case measure => simp [intOf]
  | 2, _ =>
   have hz : true = z := by rw [← HZ.out, hE.out.h1 (by omega), hE.out.h2 (by omega)]; rfl
   subst hz
   have HB := qh9 hE.out.bel
   go_wp2
   go_ret
   exact ⟨rfl, HB.out⟩
theorem homesR (l : List Sy.Pg) (v : Value) (hl : l.length ≤ 1000000) (hi : ∀ q ∈ l, q.2.length ≤ 1000000) : ∀ (o : Ob) (p : Value) (w : World), Sy.PgV w l v → Hd w o p → Calls Tryz.prog 53 #[v, vO o p] w (RetB w (homeO l o))
 | .num q, p, w, hv, h => by
  have e : p = .slice none 0 0 := h
  subst e
  exact homesFlat v 1 rfl _ _ _ _ _ w
 | .str s, p, w, hv, h => by
  have e : p = .slice none 0 0 := h
  subst e
  exact homesFlat v 3 rfl _ _ _ _ _ w
 | .sym x y, p, w, hv, h => homesSym l v x y p w hv hl hi
 | .cons a d, p, w, hv, h => homesCons l v a d _ _ p w hv h (fun X q hx hq => homesR l v hl hi a q X hx hq) (fun X q hx hq => homesR l v hl hi d q X hx hq)
theorem den1 (q : Rat) : ((dt q).toList == [49]) = decide (q.den = 1) := by
 obtain ⟨k, s1, s2, s3, s4, s5, e, _, e2⟩ := cells_flat (.num q) (.slice none 0 0)
 have e' : cellsO (.num q) (.slice none 0 0) = [.int .i64 1, .string (nt q), .string (dt q), .string ⟨#[]⟩, .string ⟨#[]⟩, .string ⟨#[]⟩, .slice none 0 0] := rfl
 rw [e'] at e
 simp only [List.cons.injEq, Value.int.injEq, Value.string.injEq, true_and, and_true] at e
 obtain ⟨rfl, _, rfl, _⟩ := e
 have e3 : ((1 : Int) == 1 && ((dt q).toList == [49])) = decide (q.den = 1) := e2
 rw [← e3]
 rfl
theorem textNumR (v : Value) (cur : ByteArray) (q : Rat) (p : Value) (w : World) (hb : Bd 900 q) :
 Calls Tryz.prog 54 #[v, .string cur, vO (.num q) p] w (RetTU w (BA (numS q))) := by
 have z1 := bd_nt hb
 have z2 := bd_dt hb
 have hd := den1 q
 rw [numS_bytes]
 by_cases hq : q.den = 1
 all_goals
  first | rw [if_pos hq] | rw [if_neg hq]
  first | rw [decide_eq_true hq] at hd | rw [decide_eq_false hq] at hd
  clear hq hb
  have ea : cellsO (.num q) p = [.int .i64 1, .string (nt q), .string (dt q), .string ⟨#[]⟩, .string ⟨#[]⟩, .string ⟨#[]⟩, p] := rfl
  have T := Bx1.new w #[.int .i64 1, .string (nt q), .string (dt q), .string ⟨#[]⟩, .string ⟨#[]⟩, .string ⟨#[]⟩, p]
  rw [vO_cells ea]
  go_enter Tryz.func54, Tryz.ntmps54
  go_upto_region 1 with fail
  generalize w.alloc (.cells #[.int .i64 1, .string (nt q), .string (dt q), .string ⟨#[]⟩, .string ⟨#[]⟩, .string ⟨#[]⟩, p] 39) = W at T ⊢
  have HW := qh9 T.bel
  have B0 := qh9 T.b0
  clear T ea
  obtain ⟨m0, m1, m2, m3, m4, m5, m6⟩ := Bx.c B0.out
  generalize nt q = x at *
  generalize dt q = y at *
  go_wp2
  go_ret
  exact ⟨rfl, HW.out⟩
theorem textStrR (v : Value) (cur : ByteArray) (s : List UInt8) (p : Value) (w : World) (hs : s.length ≤ 1000000) :
 Calls Tryz.prog 54 #[v, .string cur, vO (.str s) p] w (RetTU w (BA (escL 34 s))) := by
 have C : Hid (∀ X, Calls Tryz.prog 77 #[.string (BA s), .int .u8 34] X (RetTU X (BA (escL 34 s)))) := fun X => by
  have := escapedR (BA s) 34 X (by rw [BA_size]; omega)
  rwa [LA_BA] at this
 clear hs
 have ea : cellsO (.str s) p = [.int .i64 3, .string ⟨#[]⟩, .string ⟨#[]⟩, .string ⟨#[]⟩, .string ⟨#[]⟩, .string (BA s), p] := rfl
 have T := Bx1.new w #[.int .i64 3, .string ⟨#[]⟩, .string ⟨#[]⟩, .string ⟨#[]⟩, .string ⟨#[]⟩, .string (BA s), p]
 rw [vO_cells ea]
 go_enter Tryz.func54, Tryz.ntmps54
 go_upto_region 1 with fail
 generalize w.alloc (.cells #[.int .i64 3, .string ⟨#[]⟩, .string ⟨#[]⟩, .string ⟨#[]⟩, .string ⟨#[]⟩, .string (BA s), p] 39) = W at T ⊢
 have HW := qh9 T.bel
 have B0 := qh9 T.b0
 clear T ea
 obtain ⟨m0, m1, m2, m3, m4, m5, m6⟩ := Bx.c B0.out
 go_wp2_with fail
 with_reducible refine (C.out _).mono ?_
 rintro e w1 ⟨rfl, hb⟩
 go_wp2
 go_ret
 exact ⟨rfl, chain2 HW.out hb (Nat.le_refl _)⟩
theorem textSymR (l : List Sy.Pg) (v : Value) (cur : ByteArray) (x y : List UInt8) (p : Value) (w : World) (hv : Sy.PgV w l v) (hl : l.length ≤ 1000000) (hi : ∀ q ∈ l, q.2.length ≤ 1000000) (hok : SyOk x y) (hf : (Sy.findM l cur).isSome = true) (hh : Sy.homeM l (BA x, BA y) = true) :
 Calls Tryz.prog 54 #[v, .string cur, vO (.sym x y) p] w (RetTU w (BA (nmU l cur x y))) := by
 have C : Hid (∀ X, Below w.heap.size w X → Calls Tryz.prog 15 #[v, .string cur, .agg #[.string (BA x), .string (BA y)]] X (RetTE X (BA (nmU l cur x y)) 0)) := fun X h => by
  have := nameR6 l v cur (BA x) (BA y) X (hv.keep h) hl hi
  unfold nameV at this
  rw [if_pos (symOk_of hok), hf, hh, if_pos (show (true && true) = true from rfl), LA_BA, LA_BA] at this
  exact this
 generalize BA (nmU l cur x y) = r at C ⊢
 clear hv hl hi hok hf hh
 have ea : cellsO (.sym x y) p = [.int .i64 2, .string ⟨#[]⟩, .string ⟨#[]⟩, .string (BA x), .string (BA y), .string ⟨#[]⟩, p] := rfl
 have T := Bx1.new w #[.int .i64 2, .string ⟨#[]⟩, .string ⟨#[]⟩, .string (BA x), .string (BA y), .string ⟨#[]⟩, p]
 rw [vO_cells ea]
 go_enter Tryz.func54, Tryz.ntmps54
 go_upto_region 1 with fail
 generalize w.alloc (.cells #[.int .i64 2, .string ⟨#[]⟩, .string ⟨#[]⟩, .string (BA x), .string (BA y), .string ⟨#[]⟩, p] 39) = W at T ⊢
 have HW := qh9 T.bel
 have B0 := qh9 T.b0
 clear T ea
 obtain ⟨m0, m1, m2, m3, m4, m5, m6⟩ := Bx.c B0.out
 go_wp2_with fail
 with_reducible refine (C.out _ HW.out).mono ?_
 rintro e w1 ⟨rfl, hb⟩
 go_wp2
 go_ret
 exact ⟨rfl, chain2 HW.out hb (Nat.le_refl _)⟩
/-- The reference's text of this object, wherever it stands. -/
def TxC (l : List Sy.Pg) (lv : Value) (cur : ByteArray) (a : Ob) : Prop := ∀ (X : World) (q : Value), Sy.PgV X l lv → Hd X a q → Calls Tryz.prog 54 #[lv, .string cur, vO a q] X (RetTU X (BA (prO (nmU l cur) a)))
theorem TxC.go {l : List Sy.Pg} {lv : Value} {cur : ByteArray} {a : Ob} (h : TxC l lv cur a) (X : World) (q : Value) (h1 : Sy.PgV X l lv) (h2 : Hd X a q) : Calls Tryz.prog 54 #[lv, .string cur, vO a q] X (RetTU X (BA (prO (nmU l cur) a))) := h X q h1 h2
theorem BA_cons1 (c : UInt8) (l : List UInt8) : BA (c :: l) = ⟨#[c]⟩ ++ BA l := by
 have : c :: l = [c] ++ l := rfl
 rw [this, BA_app3]
 rfl
theorem textQuoR (l : List Sy.Pg) (v : Value) (cur : ByteArray) (a d x : Ob) (p : Value) (w : World) (hv : Sy.PgV w l v) (hz : (prO (nmU l cur) x).length ≤ 100000000)
 (cq : ∀ X, Below w.heap.size w X → Calls Tryz.prog 86 #[vO (.cons a d) p] X (RetQU w X (some x))) (cx : TxC l v cur x) :
 Calls Tryz.prog 54 #[v, .string cur, vO (.cons a d) p] w (RetTU w (BA (39 :: prO (nmU l cur) x))) := by
 have CQ := qh9 cq
 have CX := qh9 cx
 have HV := qh9 hv
 have hsz : (BA (prO (nmU l cur) x)).size ≤ 100000000 := by rw [BA_size]; exact hz
 rw [BA_cons1]
 have CT : Hid (∀ X q, Sy.PgV X l v → Hd X x q → Calls Tryz.prog 54 #[v, .string cur, vO x q] X (RetTU X (BA (prO (nmU l cur) x)))) := fun X q h1 h2 => CX.out.go X q h1 h2
 generalize BA (prO (nmU l cur) x) = r at CT hsz ⊢
 clear cq cx hv hz CX
 have ea : cellsO (.cons a d) p = [.int .i64 4, .string ⟨#[]⟩, .string ⟨#[]⟩, .string ⟨#[]⟩, .string ⟨#[]⟩, .string ⟨#[]⟩, p] := rfl
 have T := Bx1.new w #[.int .i64 4, .string ⟨#[]⟩, .string ⟨#[]⟩, .string ⟨#[]⟩, .string ⟨#[]⟩, .string ⟨#[]⟩, p]
 rw [vO_cells ea]
 go_enter Tryz.func54, Tryz.ntmps54
 go_upto_region 1 with fail
 generalize w.alloc (.cells #[.int .i64 4, .string ⟨#[]⟩, .string ⟨#[]⟩, .string ⟨#[]⟩, .string ⟨#[]⟩, .string ⟨#[]⟩, p] 39) = W at T ⊢
 have HW := qh9 T.bel
 have B0 := qh9 T.b0
 clear T ea
 obtain ⟨m0, m1, m2, m3, m4, m5, m6⟩ := Bx.c B0.out
 have BC : Hid (Bx W w.heap.size (cellsO (.cons a d) p).toArray) := B0.out
 go_wp2_with (first | ((with_reducible refine loadB (.tmp 5) ?_ ?_ ?_ BC.out ?_); rfl; rfl; rfl))
 with_reducible refine (CQ.out _ HW.out).mono ?_
 rintro e w1 ⟨q, rfl, hq, hb⟩
 replace HW := qc9 HW hb
 have HQ := qh9 hq
 have HQ1 := qh9 (hq.below HW.out)
 clear hb hq BC B0 CQ m0 m1 m2 m3 m4 m5 m6
 have T1 := qh9 (aO_new w1 #[.int .i64 0, .string ⟨#[]⟩, .string ⟨#[]⟩, .string ⟨#[]⟩, .string ⟨#[]⟩, .string ⟨#[]⟩, .slice none 0 0])
 unfold aO at T1
 go_wp2_with (first
  | ((with_reducible refine storeB (w1 := w1) (g := w1.heap.size) (b := x) (p := q) (.tmp 9) (.tmp 47) ?_ ?_ ?_ ?_ HQ1.out T1.out ?_); rfl; rfl; rfl; rfl; have P := Pt1U.new (w := w1) (o := x) (p := q) (z := #[.int .i64 0, .string ⟨#[]⟩, .string ⟨#[]⟩, .string ⟨#[]⟩, .string ⟨#[]⟩, .string ⟨#[]⟩, .slice none 0 0]); generalize World.setRow (w1.alloc (.cells #[.int .i64 0, .string ⟨#[]⟩, .string ⟨#[]⟩, .string ⟨#[]⟩, .string ⟨#[]⟩, .string ⟨#[]⟩, .slice none 0 0] 39)) w1.heap.size (cellsO x q).toArray = X1 at P ⊢; replace HW := qh9 (chain2 HW.out P.bel (Nat.le_refl _)); have D0 := qh9 P.b0; clear P T1 HQ1)
  | ((with_reducible refine loadB (.tmp 9) ?_ ?_ ?_ D0.out ?_); rfl; rfl; rfl))
 with_reducible refine (CT.out _ q (HV.out.keep HW.out) (HQ.out.below HW.out)).mono ?_
 rintro e w2 ⟨rfl, hb⟩
 replace HW := qc9 HW hb
 clear hb
 go_wp2
 go_ret
 exact ⟨rfl, HW.out⟩
/-- The rest of the text of a list, where i elements are written. -/
def restX (nm : List UInt8 → List UInt8 → List UInt8) (i : Nat) : Ob → List UInt8
 | .cons a d => if i = 0 then prO nm a ++ prT nm d else 32 :: (prO nm a ++ prT nm d)
 | o => prT nm o
theorem restX_succ (nm : List UInt8 → List UInt8 → List UInt8) (i : Nat) (t : Ob) : restX nm (i + 1) t = prT nm t := by
 cases t with
 | cons a d =>
  show (if i + 1 = 0 then prO nm a ++ prT nm d else 32 :: (prO nm a ++ prT nm d)) = _
  rw [if_neg (by omega)]
  rfl
 | _ => rfl
/-- Between rounds. -/
structure TxW (w : World) (l : List Sy.Pg) (cur : ByteArray) (full : List UInt8) (N k : Nat) (wr : World) (s : ByteArray) (i : Nat) (t : Ob) (q : Value) : Prop where
 bel : Below w.heap.size w wr
 box : Bx wr w.heap.size (cellsO t q).toArray
 hd : Hd w t q
 txt : LA s ++ restX (nmU l cur) i t = full
 nod : t.nodes ≤ N
 bd : t.bd k
 hom : homeO l t = true
 cnt : i + t.nodes ≤ N
theorem TxW.len {w : World} {l : List Sy.Pg} {cur : ByteArray} {full : List UInt8} {N k : Nat} {wr : World} {s : ByteArray} {i : Nat} {t : Ob} {q : Value} (h : TxW w l cur full N k wr s i t q) (hz : full.length ≤ 100000000) : s.size ≤ 100000000 := by
 rw [← h.txt, List.length_append] at hz
 have : (LA s).length = s.size := by
  have := BA_size (LA s)
  rw [BA_LA] at this
  omega
 omega
theorem TxW.step {w : World} {l : List Sy.Pg} {cur : ByteArray} {full : List UInt8} {N k : Nat} {wr w5 : World} {s s' : ByteArray} {i : Nat} {a d : Ob} {q pd : Value} (h : TxW w l cur full N k wr s i (.cons a d) q)
 (hd : Hd w d pd) (hb : Below w.heap.size w w5) (hx : Bx w5 w.heap.size (cellsO d pd).toArray) (hs : LA s' = LA s ++ (if i = 0 then prO (nmU l cur) a else 32 :: prO (nmU l cur) a)) : TxW w l cur full N k w5 s' (i + 1) d pd := by
 have hn : (Ob.cons a d).nodes = 1 + a.nodes + d.nodes := rfl
 have h1 := h.nod
 have h2 := h.cnt
 have h3 := h.hom
 unfold homeO at h3
 rw [Bool.and_eq_true] at h3
 refine ⟨hb, hx, hd, ?_, by omega, h.bd.2, h3.2, by omega⟩
 rw [restX_succ, hs, ← h.txt]
 have e : restX (nmU l cur) i (.cons a d) = if i = 0 then prO (nmU l cur) a ++ prT (nmU l cur) d else 32 :: (prO (nmU l cur) a ++ prT (nmU l cur) d) := rfl
 rw [e]
 split <;> simp
theorem textListR (l : List Sy.Pg) (v : Value) (cur : ByteArray) (a d : Ob) (p : Value) (w : World) (k : Nat) (hv : Sy.PgV w l v) (hp : Hd w (.cons a d) p) (hb : (Ob.cons a d).bd k) (hh : homeO l (.cons a d) = true) (hn : (Ob.cons a d).nodes ≤ 3000)
 (hz : (40 :: (prO (nmU l cur) a ++ prT (nmU l cur) d)).length ≤ 100000000)
 (cq : ∀ X, Below w.heap.size w X → Calls Tryz.prog 86 #[vO (.cons a d) p] X (RetQU w X none)) (ct : ∀ x, x.nodes < (Ob.cons a d).nodes → x.bd k → homeO l x = true → TxC l v cur x) :
 Calls Tryz.prog 54 #[v, .string cur, vO (.cons a d) p] w (RetTU w (BA (40 :: (prO (nmU l cur) a ++ prT (nmU l cur) d)))) := by
 have CQ := qh9 cq
 have HV := qh9 hv
 obtain ⟨N, hN⟩ : ∃ N, (Ob.cons a d).nodes = N := ⟨_, rfl⟩
 rw [hN] at ct hn
 have CT := qh9 ct
 obtain ⟨full, hf⟩ : ∃ full, 40 :: (prO (nmU l cur) a ++ prT (nmU l cur) d) = full := ⟨_, rfl⟩
 rw [hf] at hz ⊢
 have HZ := qh9 hz
 have HN := qh9 hn
 have HN2 : Hid (2 ≤ N) := by
  show 2 ≤ N
  have e : (Ob.cons a d).nodes = 1 + a.nodes + d.nodes := rfl
  have := a.nodes_pos
  omega
 have h00 : Hid (∀ W, Below w.heap.size w W → Bx W w.heap.size #[.int .i64 4, .string ⟨#[]⟩, .string ⟨#[]⟩, .string ⟨#[]⟩, .string ⟨#[]⟩, .string ⟨#[]⟩, p] → TxW w l cur full N k W ⟨#[40]⟩ 0 (.cons a d) p) := fun W h hx => ⟨h, hx, hp, hf, by omega, hb, hh, by omega⟩
 clear cq hv ct hz hn hf hb hh hp
 have ea : cellsO (.cons a d) p = [.int .i64 4, .string ⟨#[]⟩, .string ⟨#[]⟩, .string ⟨#[]⟩, .string ⟨#[]⟩, .string ⟨#[]⟩, p] := rfl
 have T := Bx1.new w #[.int .i64 4, .string ⟨#[]⟩, .string ⟨#[]⟩, .string ⟨#[]⟩, .string ⟨#[]⟩, .string ⟨#[]⟩, p]
 rw [vO_cells ea]
 go_enter Tryz.func54, Tryz.ntmps54
 go_upto_region 1 with fail
 generalize w.alloc (.cells #[.int .i64 4, .string ⟨#[]⟩, .string ⟨#[]⟩, .string ⟨#[]⟩, .string ⟨#[]⟩, .string ⟨#[]⟩, p] 39) = W at T ⊢
 have HW := qh9 T.bel
 have B0 := qh9 T.b0
 clear T ea
 obtain ⟨m0, m1, m2, m3, m4, m5, m6⟩ := Bx.c B0.out
 have BC : Hid (Bx W w.heap.size (cellsO (.cons a d) p).toArray) := B0.out
 go_wp2_with (first | ((with_reducible refine loadB (.tmp 5) ?_ ?_ ?_ BC.out ?_); rfl; rfl; rfl))
 with_reducible refine (CQ.out _ HW.out).mono ?_
 rintro e w1 ⟨rfl, hb⟩
 replace HW := qc9 HW hb
 replace B0 := qh9 (B0.out.keep hb)
 clear hb BC CQ m0 m1 m2 m3 m4 m5 m6
 have T1 := qh9 (aO_new w1 #[.int .i64 0, .string ⟨#[]⟩, .string ⟨#[]⟩, .string ⟨#[]⟩, .string ⟨#[]⟩, .string ⟨#[]⟩, .slice none 0 0])
 unfold aO at T1
 have hb2 : Below w1.heap.size w1 (World.setRow (w1.alloc (.cells #[.int .i64 0, .string ⟨#[]⟩, .string ⟨#[]⟩, .string ⟨#[]⟩, .string ⟨#[]⟩, .string ⟨#[]⟩, .slice none 0 0] 39)) w1.heap.size zeroC) := below_setRowO (aO_below w1 _) (Nat.le_refl _) _
 have h0 := qh9 (h00.out _ (chain2 HW.out hb2 (Nat.le_refl _)) (B0.out.keep hb2))
 clear hb2 h00 B0 HW
 go_wp2_with ((with_reducible refine storeZU (g := w1.heap.size) (.tmp 9) (.tmp 47) ?_ ?_ ?_ ?_ T1.out ?_); rfl; rfl; rfl; rfl; generalize World.setRow (w1.alloc (.cells #[.int .i64 0, .string ⟨#[]⟩, .string ⟨#[]⟩, .string ⟨#[]⟩, .string ⟨#[]⟩, .string ⟨#[]⟩, .slice none 0 0] 39)) w1.heap.size zeroC = X1 at h0 ⊢; clear T1)
 go_loopg [11, 12] N (fun gh u y wr => ∃ (t : Ob) (q : Value) (s : ByteArray) (i : Nat), u = .string s ∧ y = .int .i64 (i : Int) ∧ t.nodes ≤ gh ∧ Hid (TxW w l cur full N k wr s i t q))
 case atStart => exact ⟨_, p, _, 0, rfl, rfl, h0.out.nod, h0⟩
 case round =>
  clear h0
  obtain ⟨t, q, s, i, rfl, rfl, hgh, hE⟩ := hrel
  obtain ⟨wo, rfl⟩ : ∃ wo : World, wo = wr := ⟨_, rfl⟩
  have hsz := hE.out.len HZ.out
  have BB := qh9 hE.out.box
  have CC : Hid (Calls Tryz.prog 87 #[vO t q] wo (RetB wo t.isCons)) := isConsR t q wo (Has wo) (hE.out.hd.below hE.out.bel)
  cases ht : t.isCons with
  | true =>
   rw [ht] at CC
   cases t with
   | num _ => simp [Ob.isCons] at ht
   | str _ => simp [Ob.isCons] at ht
   | sym _ _ => simp [Ob.isCons] at ht
   | cons a' d' =>
    clear ht
    obtain ⟨b, o, cc, pa, pd, rfl, hcc, hA, hD⟩ := hE.out.hd.consU
    have hnn : (Ob.cons a' d').nodes = 1 + a'.nodes + d'.nodes := rfl
    have hna := a'.nodes_pos
    have hnd := d'.nodes_pos
    have hlt : d'.nodes < gk := by omega
    have hNt := hE.out.nod
    have hcn := hE.out.cnt
    have hN3 := HN.out
    have hi3 : i ≤ 3000 := by omega
    have hh3 := hE.out.hom
    unfold homeO at hh3
    rw [Bool.and_eq_true] at hh3
    have CA := qh9 (CT.out a' (by omega) hE.out.bd.1 hh3.1)
    have HA := qh9 hA
    have HD := qh9 hD
    have hzA : (prO (nmU l cur) a').length ≤ 100000000 := by
     have h1 := hE.out.txt
     have h2 := HZ.out
     rw [← h1] at h2
     have e : restX (nmU l cur) i (.cons a' d') = if i = 0 then prO (nmU l cur) a' ++ prT (nmU l cur) d' else 32 :: (prO (nmU l cur) a' ++ prT (nmU l cur) d') := rfl
     rw [e, List.length_append] at h2
     split at h2
     · rw [List.length_append] at h2; omega
     · simp only [List.length_cons, List.length_append] at h2; omega
    have HST := qh9 (fun (w5 : World) (s' : ByteArray) => hE.out.step (w5 := w5) (s' := s') (pd := pd) HD.out.hd)
    have hta : (BA (prO (nmU l cur) a')).size ≤ 100000000 := by rw [BA_size]; exact hzA
    obtain ⟨ta, hta'⟩ : ∃ ta, BA (prO (nmU l cur) a') = ta := ⟨_, rfl⟩
    have CA2 : Hid (∀ X q, Sy.PgV X l v → Hd X a' q → Calls Tryz.prog 54 #[v, .string cur, vO a' q] X (RetTU X ta)) := fun X q h1 h2 => by
     have := CA.out.go X q h1 h2
     rwa [hta'] at this
    have HTA : Hid (LA ta = prO (nmU l cur) a') := by
     show LA ta = _
     rw [← hta', LA_BA]
    rw [hta'] at hta
    have HBL := qh9 hE.out.bel
    clear hA hD hzA hnn hna hnd hNt hgh hh3 hcn hN3 CA hta'
    go_wp2_with (first | ((with_reducible refine loadB (.tmp 5) ?_ ?_ ?_ BB.out ?_); rfl; rfl; rfl))
    with_reducible refine CC.out.mono ?_
    rintro e w1' ⟨rfl, hb⟩
    have B0 : Hid (Bx w1' w.heap.size #[.int .i64 4, .string ⟨#[]⟩, .string ⟨#[]⟩, .string ⟨#[]⟩, .string ⟨#[]⟩, .string ⟨#[]⟩, .slice (some ⟨b, o, none⟩) 2 cc]) := BB.out.keep hb
    replace HBL := qc9 HBL hb
    clear hb CC BB
    have HA1 := qh9 (HA.out.below HBL.out)
    obtain ⟨m0, m1, m2, m3, m4, m5, m6⟩ := Bx.c B0.out
    obtain ⟨s2, hs2, hl2, hz2⟩ : ∃ s2, (if i = 0 then s else s ++ ⟨#[32]⟩) = s2 ∧ LA s2 ++ prO (nmU l cur) a' = LA s ++ (if i = 0 then prO (nmU l cur) a' else 32 :: prO (nmU l cur) a') ∧ s2.size ≤ 100000001 := by
     refine ⟨_, rfl, ?_, ?_⟩
     · split
       · rfl
       · rw [LA_app]
         show LA s ++ [32] ++ _ = _
         simp
     · split
       · omega
       · rw [ByteArray.size_append]
         have : (⟨#[32]⟩ : ByteArray).size = 1 := rfl
         omega
    have HL2 := qh9 hl2
    have HI3 := qh9 hi3
    clear hl2
    by_cases hi0 : i = 0
    · subst hi0
      rw [if_pos rfl] at hs2
      subst hs2
      go_wp2_with ((with_reducible refine loadAU ?_ ?_ HA1.out ?_); exact ⟨_, rfl, rfl⟩; rfl)
      with_reducible refine (CA2.out _ pa (HV.out.keep HBL.out) HA1.out.hd).mono ?_
      rintro e w2 ⟨rfl, hb⟩
      replace HBL := qc9 HBL hb
      replace B0 := qh9 (B0.out.keep hb)
      clear hb m0 m1 m2 m3 m4 m5 m6 HA1 CA2
      obtain ⟨m0, m1, m2, m3, m4, m5, m6⟩ := Bx.c B0.out
      have HD1 := qh9 (HD.out.below HBL.out)
      have HDH := qh9 HD1.out.hd
      have HN5 : Hid (TxW w l cur full N k (w2.setRow w.heap.size (cellsO d' pd).toArray) (s ++ ta) (0 + 1) d' pd) := HST.out _ _ (below_setRowO HBL.out (Nat.le_refl _) _) (setRow_heap _ _ _ _ _ _ B0.out) (by rw [LA_app, HTA.out]; exact HL2.out)
      clear HST HL2
      go_wp2_with (first | ((with_reducible refine loadAU ?_ ?_ HD1.out ?_); exact ⟨_, rfl, rfl⟩; rfl) | ((with_reducible refine storeB (w1 := w2) (g := w.heap.size) (b := d') (p := pd) (.tmp 5) (.tmp 75) ?_ ?_ ?_ ?_ HDH.out B0.out ?_); rfl; rfl; rfl; rfl))
      go_roundg d'.nodes
      all_goals first | exact hlt | exact ⟨d', pd, _, 1, rfl, by go_num, Nat.le_refl _, HN5⟩
    · rw [if_neg hi0] at hs2
      subst hs2
      have hip : (0 : Int) < (i : Int) := by omega
      go_wp2_with ((with_reducible refine loadAU ?_ ?_ HA1.out ?_); exact ⟨_, rfl, rfl⟩; rfl)
      with_reducible refine (CA2.out _ pa (HV.out.keep HBL.out) HA1.out.hd).mono ?_
      rintro e w2 ⟨rfl, hb⟩
      replace HBL := qc9 HBL hb
      replace B0 := qh9 (B0.out.keep hb)
      clear hb m0 m1 m2 m3 m4 m5 m6 HA1 CA2
      obtain ⟨m0, m1, m2, m3, m4, m5, m6⟩ := Bx.c B0.out
      have HD1 := qh9 (HD.out.below HBL.out)
      have HDH := qh9 HD1.out.hd
      have HN5 : Hid (TxW w l cur full N k (w2.setRow w.heap.size (cellsO d' pd).toArray) ((s ++ ⟨#[32]⟩) ++ ta) (i + 1) d' pd) := HST.out _ _ (below_setRowO HBL.out (Nat.le_refl _) _) (setRow_heap _ _ _ _ _ _ B0.out) (by rw [LA_app, HTA.out]; exact HL2.out)
      clear HST HL2
      go_wp2_with (first | ((with_reducible refine loadAU ?_ ?_ HD1.out ?_); exact ⟨_, rfl, rfl⟩; rfl) | ((with_reducible refine storeB (w1 := w2) (g := w.heap.size) (b := d') (p := pd) (.tmp 5) (.tmp 75) ?_ ?_ ?_ ?_ HDH.out B0.out ?_); rfl; rfl; rfl; rfl))
      go_roundg d'.nodes
      all_goals first | exact hlt | exact ⟨d', pd, _, i + 1, rfl, by go_num, Nat.le_refl _, HN5⟩
  | false =>
   rw [ht] at CC
   obtain ⟨kk, x1, x2, x3, x4, x5, ek, hk4⟩ := kind_flat ht q
   have HH := qh9 (hE.out.hd)
   have CN : Hid (∀ X, Hd X t q → Calls Tryz.prog 88 #[vO t q] X (RetB X (decide (t = .nil)))) := fun X h => isNilR t q X (Has X) (In.has X) h
   have htx := hE.out.txt
   have hre : restX (nmU l cur) i t = prT (nmU l cur) t := by
    cases t with
    | cons _ _ => simp [Ob.isCons] at ht
    | _ => rfl
   rw [hre, prT_atom _ ht] at htx
   have hnt : t.nodes < N := by
    have h1 := HN2.out
    have h2 : t.nodes = 1 := by
     cases t with
     | cons _ _ => simp [Ob.isCons] at ht
     | _ => rfl
    omega
   have CX := qh9 (CT.out t hnt hE.out.bd hE.out.hom)
   have HBL := qh9 hE.out.bel
   clear hgh hre ek ht hnt hk4
   by_cases hnil : t = .nil
   · rw [decide_eq_true hnil] at CN
     rw [if_pos hnil] at htx
     have hfin : s ++ ⟨#[41]⟩ = BA full := by
      rw [← htx, BA_app3, BA_LA]
      rfl
     have HFIN := qh9 hfin
     clear hE htx hnil CX hfin
     go_wp2_with (first | ((with_reducible refine loadB (.tmp 5) ?_ ?_ ?_ BB.out ?_); rfl; rfl; rfl))
     with_reducible refine CC.out.mono ?_
     rintro e w1' ⟨rfl, hb⟩
     replace HBL := qc9 HBL hb
     replace BB := qh9 (BB.out.keep hb)
     clear hb CC
     go_wp2_with (first | ((with_reducible refine loadB (.tmp 5) ?_ ?_ ?_ BB.out ?_); rfl; rfl; rfl))
     with_reducible refine (CN.out _ (HH.out.below HBL.out)).mono ?_
     rintro e w2 ⟨rfl, hb⟩
     replace HBL := qc9 HBL hb
     clear hb CN
     go_wp2
     go_ret
     rw [← HFIN.out]
     exact ⟨rfl, HBL.out⟩
   · rw [decide_eq_false hnil] at CN
     rw [if_neg hnil] at htx
     have hzt : (prO (nmU l cur) t).length ≤ 100000000 := by
      have h2 := HZ.out
      rw [← htx] at h2
      simp only [List.length_append, List.length_cons] at h2
      omega
     have hta : (BA (prO (nmU l cur) t)).size ≤ 100000000 := by rw [BA_size]; exact hzt
     obtain ⟨ta, hta'⟩ : ∃ ta, BA (prO (nmU l cur) t) = ta := ⟨_, rfl⟩
     have CA2 : Hid (∀ X q, Sy.PgV X l v → Hd X t q → Calls Tryz.prog 54 #[v, .string cur, vO t q] X (RetTU X ta)) := fun X q h1 h2 => by
      have := CX.out.go X q h1 h2
      rwa [hta'] at this
     have hfin : s ++ (⟨#[32, 46, 32]⟩ ++ ta) ++ ⟨#[41]⟩ = BA full := by
      rw [← htx, ← hta']
      have e : LA s ++ 32 :: 46 :: 32 :: (prO (nmU l cur) t ++ [41]) = (LA s ++ ([32, 46, 32] ++ prO (nmU l cur) t)) ++ [41] := by simp
      rw [e, BA_app3, BA_app3, BA_app3, BA_LA]
      rfl
     have HFIN := qh9 hfin
     rw [hta'] at hta
     clear hE htx hnil CX hfin hzt hta'
     go_wp2_with (first | ((with_reducible refine loadB (.tmp 5) ?_ ?_ ?_ BB.out ?_); rfl; rfl; rfl))
     with_reducible refine CC.out.mono ?_
     rintro e w1' ⟨rfl, hb⟩
     replace HBL := qc9 HBL hb
     replace BB := qh9 (BB.out.keep hb)
     clear hb CC
     go_wp2_with (first | ((with_reducible refine loadB (.tmp 5) ?_ ?_ ?_ BB.out ?_); rfl; rfl; rfl))
     with_reducible refine (CN.out _ (HH.out.below HBL.out)).mono ?_
     rintro e w2 ⟨rfl, hb⟩
     replace HBL := qc9 HBL hb
     replace BB := qh9 (BB.out.keep hb)
     clear hb CN
     go_wp2_with (first | ((with_reducible refine loadB (.tmp 5) ?_ ?_ ?_ BB.out ?_); rfl; rfl; rfl))
     with_reducible refine (CA2.out _ q (HV.out.keep HBL.out) (HH.out.below HBL.out)).mono ?_
     rintro e w3 ⟨rfl, hb⟩
     replace HBL := qc9 HBL hb
     clear hb CA2
     go_wp2
     go_ret
     rw [← HFIN.out]
     exact ⟨rfl, HBL.out⟩
theorem textR6 (l : List Sy.Pg) (v : Value) (cur : ByteArray) (hl : l.length ≤ 1000000) (hi : ∀ q ∈ l, q.2.length ≤ 1000000) (hf : (Sy.findM l cur).isSome = true) (k : Nat) (hk : k ≤ 900) :
 ∀ (m : Nat) (a : Ob), a.nodes ≤ m → a.nodes ≤ 3000 → a.bd k → homeO l a = true → TxC l v cur a := by
 intro m
 induction m with
 | zero => intro a h; have := a.nodes_pos; omega
 | succ m ih =>
  intro a ha hn hb hh X q hv hp
  cases a with
  | num x => exact textNumR v cur x q X ((show Bd k x from hb).more hk)
  | str s => exact textStrR v cur s q X (by have hs : s.length ≤ 2 * k + 20 := hb; omega)
  | sym x y => exact textSymR l v cur x y q X hv hl hi hb hf hh
  | cons a d =>
   have hnn : (Ob.cons a d).nodes = 1 + a.nodes + d.nodes := rfl
   have hz := (prO_len (k := k) (c := 4 * k + 100) (nm := nmU l cur) (Nat.le_refl _) (nmU_len88 l cur) 3000 (.cons a d) hn hb).1
   have hz2 : (prO (nmU l cur) (.cons a d)).length ≤ 100000000 := by
    have h1 : (4 * k + 100) * (Ob.cons a d).nodes ≤ 4000 * 3000 := Nat.mul_le_mul (by omega) hn
    omega
   have cq : ∀ Y, Below X.heap.size X Y → Calls Tryz.prog 86 #[vO (.cons a d) q] Y (RetQU X Y (qO (.cons a d))) := fun Y h => quotedRo _ q X Y h hp hn
   rw [qO_cons] at cq
   cases hq : isQU a d with
   | false =>
    rw [hq] at cq
    have e1 : prO (nmU l cur) (.cons a d) = 40 :: (prO (nmU l cur) a ++ prT (nmU l cur) d) := by rw [prO_cons, hq]; rfl
    rw [e1] at hz2 ⊢
    exact textListR l v cur a d q X k hv hp hb hh hn hz2 cq (fun x hx hxb hxh => ih x (by omega) (by omega) hxb hxh)
   | true =>
    rw [hq, if_pos rfl] at cq
    cases d with
    | num _ => cases hq
    | str _ => cases hq
    | sym _ _ => cases hq
    | cons x e =>
     have e1 : prO (nmU l cur) (.cons a (.cons x e)) = 39 :: prO (nmU l cur) x := by rw [prO_cons, hq, if_pos rfl]
     have hd : (Ob.cons x e).nodes = 1 + x.nodes + e.nodes := rfl
     rw [e1] at hz2 ⊢
     unfold homeO at hh
     rw [Bool.and_eq_true] at hh
     have hh2 := hh.2
     unfold homeO at hh2
     rw [Bool.and_eq_true] at hh2
     exact textQuoR l v cur a (.cons x e) x q X hv (by simp only [List.length_cons] at hz2; omega) cq (ih x (by omega) (by omega) hb.2.1 hh2.1)
/-- What Print answers; b: whether the object is valid. -/
def prV (l : List Sy.Pg) (cur : ByteArray) (o : Ob) (b : Bool) : ByteArray × Int := if chkV l cur o b = 0 then (BA (prO (nmU l cur) o), 0) else (⟨#[]⟩, chkV l cur o b)
theorem printR6 (l : List Sy.Pg) (v : Value) (cur : ByteArray) (o : Ob) (p : Value) (b : Bool) (w : World) (hv : Sy.PgV w l v) (hl : l.length ≤ 1000000) (hi : ∀ q ∈ l, q.2.length ≤ 1000000) (h : Hd w o p) (k : Nat) (hk : k ≤ 900) (hbd : o.bd k) (hn : o.nodes ≤ 3000)
 (hV : ∀ X, Below w.heap.size w X → Calls Tryz.prog 52 #[vO o p] X (RetB X b)) :
 Calls Tryz.prog 19 #[v, .string cur, vO o p] w (RetTE w (prV l cur o b).1 (prV l cur o b).2) := by
 have CV := qh9 hV
 have CF : Hid (∀ X, Below w.heap.size w X → Calls Tryz.prog 39 #[v, .string cur] X (Sy.RetF X (Sy.findM l cur))) := fun X hb => Sy.findRY l v cur X (hv.keep hb) hl
 have CH : Hid (∀ X, Below w.heap.size w X → Calls Tryz.prog 53 #[v, vO o p] X (RetB X (homeO l o))) := fun X hb => homesR l v hl hi o p X (hv.keep hb) (h.below hb)
 have CT : Hid ((Sy.findM l cur).isSome = true → homeO l o = true → ∀ X, Below w.heap.size w X → Calls Tryz.prog 54 #[v, .string cur, vO o p] X (RetTU X (BA (prO (nmU l cur) o)))) := fun h1 h2 X hb => (textR6 l v cur hl hi h1 k hk 3000 o hn hn hbd h2).go X p (hv.keep hb) (h.below hb)
 unfold prV chkV
 generalize BA (prO (nmU l cur) o) = r at CT ⊢
 generalize homeO l o = b3 at CH CT ⊢
 generalize Sy.findM l cur = F at CF CT ⊢
 obtain ⟨V, hV2⟩ : ∃ V : ByteArray × Int, (if (if b = true then if (F.isSome && b3) = true then (0 : Int) else 13 else 1) = 0 then (r, (0 : Int)) else (⟨#[]⟩, if b = true then if (F.isSome && b3) = true then 0 else 13 else 1)) = V := ⟨_, rfl⟩
 rw [hV2]
 have HV := qh9 hV2
 obtain ⟨Vs, Vn⟩ := V
 clear hV2 hV hv hl hi h hbd
 obtain ⟨a0, a1, a2, a3, a4, a5, ea⟩ := cells7 o p
 have T := Bx1.new w #[a0, a1, a2, a3, a4, a5, p]
 rw [vO_cells ea]
 go_enter Tryz.func19, Tryz.ntmps19
 go_upto_region 1 with fail
 generalize w.alloc (.cells #[a0, a1, a2, a3, a4, a5, p] 39) = W at T ⊢
 have B0 : Hid (Bx W (w.heap.size) (cellsO o p).toArray) := by rw [ea]; exact T.b0
 have HW := qh9 T.bel
 clear T ea
 go_wp2_with (first | ((with_reducible refine loadB (.tmp 5) ?_ ?_ ?_ B0.out ?_); rfl; rfl; rfl) | ((with_reducible refine loadG (.tmp 5) ?_ ?_ ?_ B0.out ?_); rfl; rfl; rfl))
 with_reducible refine (CV.out _ HW.out).mono ?_
 rintro e w1 ⟨rfl, hb⟩
 replace B0 := qh9 (B0.out.keep hb)
 replace HW := qc9 HW hb
 clear hb CV
 cases b with
 | false =>
  have hx := Prod.mk.inj HV.out
  obtain ⟨hx1, hx2⟩ := hx
  subst hx1 hx2
  clear HV
  go_wp2
  first | exact bodyPost_ret (results_tmp2 rfl _ _) rfl ⟨rfl, HW.out⟩ | (go_ret2; exact ⟨rfl, HW.out⟩)
 | true =>
  cases F with
  | none =>
   have hx := Prod.mk.inj HV.out
   obtain ⟨hx1, hx2⟩ := hx
   subst hx1 hx2
   clear HV
   go_wp2_with fail
   with_reducible refine (CF.out _ HW.out).mono ?_
   rintro e w2 ⟨rfl, hb⟩
   replace HW := qh9 (chain2 HW.out (chain2 hb (below_al _ (.cells #[.string ⟨#[]⟩, .slice none 0 0] 69)) (Nat.le_refl _)) (Nat.le_refl _))
   clear hb CF
   go_wp2
   first | exact bodyPost_ret (results_tmp2 rfl _ _) rfl ⟨rfl, HW.out⟩ | (go_ret2; exact ⟨rfl, HW.out⟩)
  | some f =>
   go_wp2_with fail
   with_reducible refine (CF.out _ HW.out).mono ?_
   rintro e w2 ⟨u, rfl, hu, hb⟩
   obtain ⟨A1, cc1, rfl, _, _, _⟩ := hu
   have hb2 := chain2 hb (below_al _ (.cells #[.string f.1, .slice A1 f.2.length cc1] 69)) (Nat.le_refl _)
   replace HW := qc9 HW hb2
   replace B0 := qh9 (B0.out.keep hb2)
   clear hb hb2 CF
   go_upto_region 4 with fail
   generalize World.alloc w2 _ = W2 at HW B0 ⊢
   go_wp2_with (first | ((with_reducible refine loadB (.tmp 5) ?_ ?_ ?_ B0.out ?_); rfl; rfl; rfl) | ((with_reducible refine loadG (.tmp 5) ?_ ?_ ?_ B0.out ?_); rfl; rfl; rfl))
   with_reducible refine (CH.out _ HW.out).mono ?_
   rintro e w3 ⟨rfl, hb⟩
   replace HW := qc9 HW hb
   replace B0 := qh9 (B0.out.keep hb)
   clear hb CH
   cases b3 with
   | false =>
    have hx := Prod.mk.inj HV.out
    obtain ⟨hx1, hx2⟩ := hx
    subst hx1 hx2
    clear HV
    go_wp2
    first | exact bodyPost_ret (results_tmp2 rfl _ _) rfl ⟨rfl, HW.out⟩ | (go_ret2; exact ⟨rfl, HW.out⟩)
   | true =>
    have hx := Prod.mk.inj HV.out
    obtain ⟨hx1, hx2⟩ := hx
    subst hx1 hx2
    clear HV
    have C2 := qh9 (CT.out rfl rfl)
    clear CT
    go_wp2_with (first | ((with_reducible refine loadB (.tmp 5) ?_ ?_ ?_ B0.out ?_); rfl; rfl; rfl) | ((with_reducible refine loadG (.tmp 5) ?_ ?_ ?_ B0.out ?_); rfl; rfl; rfl))
    with_reducible refine (C2.out _ HW.out).mono ?_
    rintro e w4 ⟨rfl, hb⟩
    replace HW := qc9 HW hb
    clear hb C2
    go_wp2
    first | exact bodyPost_ret (results_tmp2 rfl _ _) rfl ⟨rfl, HW.out⟩ | (go_ret2; exact ⟨rfl, HW.out⟩)
theorem chk_cases (l : List Sy.Pg) (cur : ByteArray) (o : Ob) (b : Bool) : chkV l cur o b = 0 ∨ chkV l cur o b = 1 ∨ chkV l cur o b = 13 := by
 unfold chkV
 split
 · split
   · exact .inl rfl
   · exact .inr (.inr rfl)
 · exact .inr (.inl rfl)
theorem printP (l : List Sy.Pg) (v : Value) (cur : ByteArray) (o : Ob) (p : Value) (b : Bool) (w : World) (hv : Sy.PgV w l v) (hl : l.length ≤ 1000000) (hi : ∀ q ∈ l, q.2.length ≤ 1000000) (hT : EscT w) (h : Hd w o p) (k : Nat) (hk : k ≤ 900) (hbd : o.bd k) (hn : o.nodes ≤ 3000)
 (hV : ∀ X, Below w.heap.size w X → Calls Tryz.prog 66 #[vO o p] X (RetB X b)) :
 Calls Tryz.prog 18 #[v, .string cur, vO o p] w (RetTE w (prV l cur o b).1 (prV l cur o b).2) := by
 have CC : Hid (∀ X, Below w.heap.size w X → Calls Tryz.prog 49 #[v, .string cur, vO o p] X (RetI X (chkV l cur o b))) := fun X hb => checkObjectP l v cur o p b X (hv.keep hb) hl hi (h.below hb) (fun Y hY => hV Y (hb.trans (hY.mono hb.size)))
 have hz := (prO_len (k := k) (c := 4 * k + 100) (nm := nmU l cur) (Nat.le_refl _) (nmU_len88 l cur) 3000 o hn hbd).1
 have hz2 : (prO (nmU l cur) o).length ≤ 100000000 := by
  have h1 : (4 * k + 100) * o.nodes ≤ 4000 * 3000 := Nat.mul_le_mul (by omega) hn
  omega
 have HZ := qh9 hz2
 have HNE := qh9 (prO_ne (nmU_ne l cur) hbd)
 have CO : Hid (∀ W0 g, Below w.heap.size w W0 → PrC W0 g l v cur o) := fun W0 g hb => objG W0 g l v cur (hv.keep hb) hl hi (hT.keep hb) k hk 3000 o hn hn hbd
 have HD := qh9 h
 have hcc := chk_cases l cur o b
 unfold prV
 generalize chkV l cur o b = c at CC hcc ⊢
 obtain ⟨V, hV2⟩ : ∃ V : ByteArray × Int, (if c = 0 then (BA (prO (nmU l cur) o), (0 : Int)) else (⟨#[]⟩, c)) = V := ⟨_, rfl⟩
 rw [hV2]
 have HV := qh9 hV2
 obtain ⟨Vs, Vn⟩ := V
 clear hV2
 obtain ⟨A, cc, rfl, hx⟩ := hv
 clear hz hz2 hV hT hbd h hx hl hi
 generalize l.length = ln at *
 obtain ⟨a0, a1, a2, a3, a4, a5, ea⟩ := cells7 o p
 have T := Bx1.new w #[a0, a1, a2, a3, a4, a5, p]
 rw [vO_cells ea]
 go_enter Tryz.func18, Tryz.ntmps18
 go_upto_region 1 with fail
 generalize w.alloc (.cells #[a0, a1, a2, a3, a4, a5, p] 39) = W at T ⊢
 have B0 : Hid (Bx W (w.heap.size) (cellsO o p).toArray) := by rw [ea]; exact T.b0
 have HW := qh9 T.bel
 clear T ea
 go_wp2_with (first | ((with_reducible refine loadB (.tmp 5) ?_ ?_ ?_ B0.out ?_); rfl; rfl; rfl))
 with_reducible refine (CC.out _ HW.out).mono ?_
 rintro e w1 ⟨rfl, hb⟩
 replace B0 := qh9 (B0.out.keep hb)
 replace HW := qc9 HW hb
 clear hb CC
 rcases hcc with rfl | rfl | rfl
 · have hx := Prod.mk.inj HV.out
   obtain ⟨hx1, hx2⟩ := hx
   subst hx1 hx2
   clear HV
   have hP1 : Hid (PrW (w1.alloc (.cells #[.slice A ln cc, .string cur, .pointer none, .slice none 0 0] 86)) w1.heap.size w1.heap.size (.slice A ln cc) cur (.pointer none) (.slice none 0 0) []) :=
    ⟨Nat.le_refl _, heap_alloc_new _ _, .inl rfl, ⟨rfl, .inl ⟨rfl, rfl⟩⟩⟩
   have hal := below_al w1 (.cells #[.slice A ln cc, .string cur, .pointer none, .slice none 0 0] 86)
   replace B0 := qh9 (B0.out.keep hal)
   have CT := qh9 (CO.out w1 w1.heap.size HW.out)
   have HD1 := qh9 (HD.out.below HW.out)
   have HAL := qh9 hal
   clear hal CO HD
   go_upto_region 5 with fail
   generalize w1.alloc (.cells #[.slice A ln cc, .string cur, .pointer none, .slice none 0 0] 86) = W1 at hP1 B0 HAL ⊢
   go_wp2_with (first | ((with_reducible refine loadB (.tmp 5) ?_ ?_ ?_ B0.out ?_); rfl; rfl; rfl))
   with_reducible refine (CT.out.go W1 _ _ p [] HAL.out hP1.out HD1.out (by have := HZ.out; simpa using this)).mono ?_
   rintro e w2 ⟨⟨v2, rfl, _⟩, ⟨bp2, bv2, hp2⟩, hk2⟩
   have HP2 : Hid (PrW w2 w1.heap.size w1.heap.size (.slice A ln cc) cur bp2 bv2 (prO (nmU l cur) o)) := by
    rw [List.nil_append] at hp2
    exact hp2
   replace HAL := qh9 (HAL.out.trans hk2.bel)
   clear hp2 hk2 B0 hP1 CT HD1
   go_wp2_with fail
   with_reducible refine (stringG w2 _ _ _ cur _ _ _ HP2.out HNE.out).mono ?_
   rintro e w3 ⟨rfl, hb3⟩
   have HF := qh9 (chain2 HW.out (HAL.out.trans hb3) (Nat.le_refl _))
   clear hb3
   go_wp2
   go_ret2
   exact ⟨rfl, HF.out⟩
 · have hx := Prod.mk.inj HV.out
   obtain ⟨hx1, hx2⟩ := hx
   subst hx1 hx2
   clear HV
   go_wp2
   go_ret2
   exact ⟨rfl, HW.out⟩
 · have hx := Prod.mk.inj HV.out
   obtain ⟨hx1, hx2⟩ := hx
   subst hx1 hx2
   clear HV
   go_wp2
   go_ret2
   exact ⟨rfl, HW.out⟩


end Go.Proofs.YtlmnjelideegnaaGreatDoor
