/- The walk of OrdinalLess. -/
import Derived.Test.YtobjdkblpjmbjaaGreatDoorG19
import Derived.Test.YtobjdkblpjmbjaaGreatDoorG37
import Derived.Test.YtobjdkblpjmbjaaGreatDoorG38
namespace Go.Proofs.YtobjdkblpjmbjaaGreatDoor
open Go Go.RowKit
set_option linter.unusedVariables false

set_option maxHeartbeats 16000000 in
set_option maxRecDepth 100000 in
theorem ordinalLess_walk (s : Sd) (sc sd : Value) (t : Sd) (tc td : Value) (r : Rw) (ra rb rc rd : Value) (w : World) (As : SdAt w (Has w) s [sc, sd]) (Ns : s.cnt ≤ 1048576) (At : SdAt w (Has w) t [tc, td]) (Nt : t.cnt ≤ 1048576) (hr : RawAt w (Has w) r [ra, rb, rc, rd]) (ht : Tab w) :
 Calls Tryz.prog 6 #[.agg #[sc, sd], .agg #[tc, td], .agg #[ra, rb, rc, rd]] w (RetB w true) := by
 have HT := hI ht
 have FW : Hid (∀ X, Below w.heap.size w X → Calls Tryz.prog 13 #[.slice (some ⟨X.heap.size, 0, none⟩) 2 2] (X.alloc (.cells #[sc, sd, tc, td] 24)) (fun e w' => e = .returned (.bool (fewSd [s, t])) ∧ Below X.heap.size X w')) := fun X h => few2 s sc sd t tc td w X As Ns At Nt h
 have Ks : Hid (fewSd [s, t] = true → ∃ a : On, a.sm 45 3 84 ∧ ∀ X, Below w.heap.size w X → Calls Tryz.prog 15 #[.agg #[sc, sd]] X (RetH X a.ob)) := fun hf => madeK hf (by simp) As ht
 have Kt : Hid (fewSd [s, t] = true → ∃ a : On, a.sm 45 3 84 ∧ ∀ X, Below w.heap.size w X → Calls Tryz.prog 15 #[.agg #[tc, td]] X (RetH X a.ob)) := fun hf => madeK hf (by simp) At ht
 generalize fewSd [s, t] = fs at FW Ks Kt
 have Rr := hI hr
 clear hr
 have CFr : Hid (∀ W', Below w.heap.size w W' → Calls Tryz.prog 14 #[.agg #[ra, rb, rc, rd], .int .i64 20] W' (fun e w' => e = .returned (.bool (few r 20)) ∧ Below W'.heap.size W' w')) := fun W' h => fewO r [ra, rb, rc, rd] 20 W' (Has w) (In.has w |>.later h.size) (Rr.out.below (In.has w) h) (by decide) (by decide)
 have KOr : Hid (few r 20 = true → ∀ W', Below w.heap.size w W' → Calls Tryz.prog 16 #[.agg #[ra, rb, rc, rd]] W' (RetX W' 200)) := fun hf W' h => by
  obtain ⟨hok, hcn⟩ := few_ok hf
  exact (objectO r [ra, rb, rc, rd] W' (Has w) (In.has w |>.later h.size) (Rr.out.below (In.has w) h) hok (HT.out.below h)).mono fun _ _ hr => hr.le (by omega)
 generalize few r 20 = fr at CFr KOr
 clear ht As Ns At Nt
 go_enter Tryz.func6, Tryz.ntmps6
 go_wp2_with fail
 have T := blk3 w (.cells #[sc, sd] 24) (.cells #[tc, td] 24) (.cells #[ra, rb, rc, rd] 27)
 generalize (((w.alloc (.cells #[sc, sd] 24)).alloc (.cells #[tc, td] 24)).alloc (.cells #[ra, rb, rc, rd] 27)) = W at T ⊢
 obtain ⟨TB, T0, T1, T2⟩ := T
 have HW := hI TB
 have Bs : Hid (Sb W (w.heap.size) sc sd) := T0
 have Bt : Hid (Sb W (w.heap.size + 1) tc td) := T1
 have Br : Hid (Rb W (w.heap.size + 1 + 1) ra rb rc rd) := T2
 replace HT := hI (HT.out.below TB)
 clear TB T0 T1 T2
 with_reducible refine (firstO _ HT.out).mono ?_
 rintro e w1 ⟨rfl, hb⟩
 replace HW := kW HW hb
 replace Bs := hI (Bs.out.keep hb)
 replace Bt := hI (Bt.out.keep hb)
 replace Br := hI (Br.out.keep hb)
 replace HT := kT HT hb
 clear hb
 have cs0 := Bs.out.c0
 have cs1 := Bs.out.c1
 have ct0 := Bt.out.c0
 have ct1 := Bt.out.c1
 go_wp2_with fail
 clear cs0 cs1 ct0 ct1
 with_reducible refine (FW.out _ HW.out).mono ?_
 rintro e w2 ⟨rfl, hb⟩
 replace HW := kW HW hb
 replace Bs := hI (Bs.out.keep hb)
 replace Bt := hI (Bt.out.keep hb)
 replace Br := hI (Br.out.keep hb)
 replace HT := kT HT hb
 clear hb
 cases fs with
 | false =>
  go_wp2
  all_goals go_ret
  all_goals exact ⟨rfl, HW.out⟩
 | true =>
  obtain ⟨m0, m1, m2, m3⟩ := Br.out.c
  go_wp2_with fail
  clear m0 m1 m2 m3
  with_reducible refine (CFr.out _ HW.out).mono ?_
  rintro e w3 ⟨rfl, hb⟩
  replace HW := kW HW hb
  replace Bs := hI (Bs.out.keep hb)
  replace Bt := hI (Bt.out.keep hb)
  replace Br := hI (Br.out.keep hb)
  replace HT := kT HT hb
  clear hb
  cases fr with
  | false =>
   go_wp2
   all_goals go_ret
   all_goals exact ⟨rfl, HW.out⟩
  | true =>
   replace KOr := KOr.out (by simp)
   replace KOr := hI KOr
   obtain ⟨oa, sma, Ma⟩ := Ks.out (by simp)
   replace sma := hI sma
   replace Ma := hI Ma
   obtain ⟨ob, smb, Mb⟩ := Kt.out (by simp)
   replace smb := hI smb
   replace Mb := hI Mb
   clear Ks Kt
   go_wp2_with fail
   refine wp_region_grow (l := _) 9 (by kernel_rfl) (by kernel_rfl) (fun i => [22, 23, 24, 25, 26, 27, 7, 8, 9].getD i 0) (LR [LV (.agg #[sc, sd]), LH (oa.ob), LV (.agg #[tc, td]), LH (ob.ob), LV (.agg #[ra, rb, rc, rd]), LX 200, LBx, LBx, LBx]) (LR_mono ⟨mLV _, mLH _, mLV _, mLH _, mLV _, mLX _, mLBx, mLBx, mLBx, trivial⟩) (by
    intro i j hi hj h
    exact inj_getD [22, 23, 24, 25, 26, 27, 7, 8, 9] (by decide) i j hi hj h) (by
    intro i hi
    exact lt_getD 53 [22, 23, 24, 25, 26, 27, 7, 8, 9] (by decide) i hi) ?step ?done
   case step =>
    intro i hi a w9 v lo hi' hoth hb hw
    have sl3 : a.tmps[3]? = some (.pointer (some ⟨w.heap.size, 0, none⟩)) := (hoth 3 (fun j hj => ne_getD 3 _ (by decide) j hj)).trans rfl
    have sl4 : a.tmps[4]? = some (.pointer (some ⟨w.heap.size + 1, 0, none⟩)) := (hoth 4 (fun j hj => ne_getD 4 _ (by decide) j hj)).trans rfl
    have sl5 : a.tmps[5]? = some (.pointer (some ⟨w.heap.size + 1 + 1, 0, none⟩)) := (hoth 5 (fun j hj => ne_getD 5 _ (by decide) j hj)).trans rfl
    match i, hi with
    | 0, _ =>
     exact gr_seed rfl rfl (.tmp 3) rfl (eval_of sl3) (Bs.out.keep hb) ⟨_, rfl, Below.refl _ _, rfl⟩
    | 1, _ =>
     obtain ⟨s0, r0, _⟩ := hw 0 (by omega) (by kernel_rfl)
     have e0 : v 0 = .agg #[sc, sd] := r0
     rw [e0] at s0
     refine gr_t rfl rfl 15 22 _ _ rfl (fun v w => by go_simp) s0 ?_
     with_reducible refine (Ma.out w9 (chain2 HW.out hb (Nat.le_refl _))).mono ?_
     rintro e w3 ⟨p, rfl, hp, hb3⟩
     exact ⟨_, rfl, _, rfl, hb3, p, rfl, hp⟩
    | 2, _ =>
     exact gr_seed rfl rfl (.tmp 4) rfl (eval_of sl4) (Bt.out.keep hb) ⟨_, rfl, Below.refl _ _, rfl⟩
    | 3, _ =>
     obtain ⟨s0, r0, _⟩ := hw 2 (by omega) (by kernel_rfl)
     have e0 : v 2 = .agg #[tc, td] := r0
     rw [e0] at s0
     refine gr_t rfl rfl 15 24 _ _ rfl (fun v w => by go_simp) s0 ?_
     with_reducible refine (Mb.out w9 (chain2 HW.out hb (Nat.le_refl _))).mono ?_
     rintro e w3 ⟨p, rfl, hp, hb3⟩
     exact ⟨_, rfl, _, rfl, hb3, p, rfl, hp⟩
    | 4, _ =>
     exact gr_raw rfl rfl (.tmp 5) rfl (eval_of sl5) (Br.out.keep hb) ⟨_, rfl, Below.refl _ _, rfl⟩
    | 5, _ =>
     obtain ⟨s0, r0, _⟩ := hw 4 (by omega) (by kernel_rfl)
     have e0 : v 4 = .agg #[ra, rb, rc, rd] := r0
     rw [e0] at s0
     refine gr_t rfl rfl 16 26 _ _ rfl (fun v w => by go_simp) s0 ?_
     with_reducible refine (KOr.out w9 (chain2 HW.out hb (Nat.le_refl _))).mono ?_
     intro e w3 hx
     obtain ⟨ox, px, rfl, hp, hb3, hok⟩ := hx.h
     exact ⟨_, rfl, _, rfl, hb3, ox, px, rfl, hp, hok⟩
    | 6, _ =>
     exact grow_allocO rfl rfl rfl ⟨_, rfl, Below.alloc (Below.refl _ _) (Nat.le_refl _) _, rfl, heap_alloc_new _ _, by simp⟩
    | 7, _ =>
     exact grow_allocO rfl rfl rfl ⟨_, rfl, Below.alloc (Below.refl _ _) (Nat.le_refl _) _, rfl, heap_alloc_new _ _, by simp⟩
    | 8, _ =>
     exact grow_allocO rfl rfl rfl ⟨_, rfl, Below.alloc (Below.refl _ _) (Nat.le_refl _) _, rfl, heap_alloc_new _ _, by simp⟩
   case done =>
    intro a w9 v lo hi' hdef hsz hoth hb hj hap
    obtain ⟨_, ⟨pa, hv1, ka⟩, hlo1, hhi1⟩ := hj 1 (by omega)
    obtain ⟨_, ⟨pb, hv3, kb⟩, hlo3, hhi3⟩ := hj 3 (by omega)
    obtain ⟨_, ⟨ox, px, hv5, kx, okox⟩, hlo5, hhi5⟩ := hj 5 (by omega)
    obtain ⟨_, ⟨hv6, Z6, hlt6⟩, hlo6, hhi6⟩ := hj 6 (by omega)
    obtain ⟨_, ⟨hv7, Z7, hlt7⟩, hlo7, hhi7⟩ := hj 7 (by omega)
    obtain ⟨_, ⟨hv8, Z8, hlt8⟩, hlo8, hhi8⟩ := hj 8 (by omega)
    have ha := eq_puts hdef hsz hoth (fun i hi => (hj i hi).1)
    subst ha
    clear hj hoth hdef hsz
    simp only [puts, List.getD_cons_zero, List.getD_cons_succ, hv1, hv3, hv5, hv6, hv7, hv8]
    generalize v 0 = v0
    generalize v 2 = v2
    generalize v 4 = v4
    clear hv1 hv3 hv5 hv6 hv7 hv8
    simp only [Act.put, List.setIfInBounds_toArray, List.set_cons_zero, List.set_cons_succ]
    show wpList _ _ _ [_, _, _] _ _
    have n01 := hap 6 7 (by omega) (by omega) (by decide)
    have n02 := hap 6 8 (by omega) (by omega) (by decide)
    have n12 := hap 7 8 (by omega) (by omega) (by decide)
    clear hap
    generalize lo 6 = g6 at *
    generalize hi' 6 = e6 at *
    generalize lo 7 = g7 at *
    generalize hi' 7 = e7 at *
    generalize lo 8 = g8 at *
    generalize hi' 8 = e8 at *
    refine storeB (w1 := w9) (g := g6) (b := oa.ob) (p := pa) (.tmp 7) (.tmp 23) rfl rfl rfl rfl ka Z6 ?_
    refine storeB (w1 := w9) (g := g7) (b := ob.ob) (p := pb) (.tmp 8) (.tmp 25) rfl rfl rfl rfl kb (Z7.other (by omega)) ?_
    refine storeB (w1 := w9) (g := g8) (b := ox) (p := px) (.tmp 9) (.tmp 27) rfl rfl rfl rfl kx ((Z8.other (by omega)).other (by omega)) ?_
    have P := Fill3.new hb Z6 ka hlo6 Z7 kb hlo7 Z8 kx hlo8 (by omega) (by omega) (by omega)
    generalize (World.setRow (World.setRow (World.setRow w9 g6 (cellsO (oa.ob) pa).toArray) g7 (cellsO (ob.ob) pb).toArray) g8 (cellsO (ox) px).toArray) = XM at P ⊢
    clear hb ka Z6 kb Z7 kx Z8
    have hb := P.bel
    replace HW := kW HW hb
    replace Bs := hI (Bs.out.keep hb)
    replace Bt := hI (Bt.out.keep hb)
    replace Br := hI (Br.out.keep hb)
    replace HT := kT HT hb
    have GA := hI P.b0
    have ka := hI P.k0
    have GB := hI P.b1
    have kb := hI P.k1
    have GX := hI P.b2
    have kx := hI P.k2
    clear hb P
    have bA := hI (On.ob_bd sma.out.bd (by omega))
    have bB := hI (On.ob_bd smb.out.bd (by omega))
    have nA := hI (On.ob_nodes sma.out.nd (by omega))
    have nB := hI (On.ob_nodes smb.out.nd (by omega))
    have bX := hI (Ob.bd_more (show 20 ≤ 90 by omega) okox.1)
    have nX := hI (Nat.le_trans okox.2 (show 200 ≤ 3000 by omega))
    clear okox sma smb
    go_wp2_with (first | (with_reducible refine lG (.tmp 7) GA.out ?_) | (with_reducible refine lG (.tmp 8) GB.out ?_) | (with_reducible refine lG (.tmp 9) GX.out ?_))
    refine wp_region_grow (l := _) 25 (by kernel_rfl) (by kernel_rfl) (fun i => [28, 29, 30, 31, 32, 33, 34, 35, 36, 37, 38, 39, 40, 41, 42, 43, 44, 45, 46, 47, 48, 49, 50, 51, 52].getD i 0) (LR [LV (vO (oa.ob) pa), LV (vO (ob.ob) pb), LV (.bool (lessO oa.ob ob.ob)), LV (vO (oa.ob) pa), LV (vO (ob.ob) pb), LV (.bool (lessO oa.ob ob.ob)), LV (.bool true), LV (.bool true), LV (vO (oa.ob) pa), LV (vO (ox) px), LV (.bool (lessO oa.ob ox)), LV (vO (oa.ob) pa), LV (vO (ox) px), LV (.bool (lessO oa.ob ox)), LV (.bool true), LV (.bool true), LV (.bool true), LV (vO (ox) px), LV (vO (oa.ob) pa), LV (.bool (lessO ox oa.ob)), LV (vO (ox) px), LV (vO (oa.ob) pa), LV (.bool (lessO ox oa.ob)), LV (.bool true), LV (.bool true)]) (LR_mono ⟨mLV _, mLV _, mLV _, mLV _, mLV _, mLV _, mLV _, mLV _, mLV _, mLV _, mLV _, mLV _, mLV _, mLV _, mLV _, mLV _, mLV _, mLV _, mLV _, mLV _, mLV _, mLV _, mLV _, mLV _, mLV _, trivial⟩) (by
     intro i j hi hj h
     exact inj_getD [28, 29, 30, 31, 32, 33, 34, 35, 36, 37, 38, 39, 40, 41, 42, 43, 44, 45, 46, 47, 48, 49, 50, 51, 52] (by decide) i j hi hj h) (by
     intro i hi
     exact lt_getD 53 [28, 29, 30, 31, 32, 33, 34, 35, 36, 37, 38, 39, 40, 41, 42, 43, 44, 45, 46, 47, 48, 49, 50, 51, 52] (by decide) i hi) ?step ?done
    case step =>
     intro i hi a w9 v lo hi' hoth hb hw
     have sl7 : a.tmps[7]? = some (.pointer (some ⟨g6, 0, none⟩)) := (hoth 7 (fun j hj => ne_getD 7 _ (by decide) j hj)).trans rfl
     have sl8 : a.tmps[8]? = some (.pointer (some ⟨g7, 0, none⟩)) := (hoth 8 (fun j hj => ne_getD 8 _ (by decide) j hj)).trans rfl
     have sl9 : a.tmps[9]? = some (.pointer (some ⟨g8, 0, none⟩)) := (hoth 9 (fun j hj => ne_getD 9 _ (by decide) j hj)).trans rfl
     match i, hi with
     | 0, _ =>
      exact gw_box rfl (wanted_plain rfl) (.tmp 7) rfl (eval_of sl7) (GA.out.keep hb) ⟨_, rfl, Below.refl _ _, rfl⟩
     | 1, _ =>
      exact gw_box rfl (wanted_plain rfl) (.tmp 8) rfl (eval_of sl8) (GB.out.keep hb) ⟨_, rfl, Below.refl _ _, rfl⟩
     | 2, _ =>
      obtain ⟨s0, r0, _⟩ := hw 0 (by omega) (by kernel_rfl)
      have e0 : v 0 = vO (oa.ob) pa := r0
      rw [e0] at s0
      obtain ⟨s1, r1, _⟩ := hw 1 (by omega) (by kernel_rfl)
      have e1 : v 1 = vO (ob.ob) pb := r1
      rw [e1] at s1
      refine gw_tt rfl (wanted_plain rfl) 33 28 29 _ _ _ rfl (fun v u w => by go_simp) s0 s1 ?_
      with_reducible refine (lessH oa.ob ob.ob pa pb w9 bA.out bB.out nA.out nB.out (ka.out.below hb) (kb.out.below hb) (HT.out.below hb)).mono ?_
      rintro e w3 ⟨rfl, hb3⟩
      exact ⟨_, rfl, _, rfl, hb3, rfl⟩
     | 3, _ =>
      exact gw_box rfl (wanted_plain rfl) (.tmp 7) rfl (eval_of sl7) (GA.out.keep hb) ⟨_, rfl, Below.refl _ _, rfl⟩
     | 4, _ =>
      exact gw_box rfl (wanted_plain rfl) (.tmp 8) rfl (eval_of sl8) (GB.out.keep hb) ⟨_, rfl, Below.refl _ _, rfl⟩
     | 5, _ =>
      obtain ⟨s0, r0, _⟩ := hw 3 (by omega) (by kernel_rfl)
      have e0 : v 3 = vO (oa.ob) pa := r0
      rw [e0] at s0
      obtain ⟨s1, r1, _⟩ := hw 4 (by omega) (by kernel_rfl)
      have e1 : v 4 = vO (ob.ob) pb := r1
      rw [e1] at s1
      refine gw_tt rfl (wanted_plain rfl) 34 31 32 _ _ _ rfl (fun v u w => by go_simp) s0 s1 ?_
      with_reducible refine (lessRT oa.ob ob.ob pa pb w9 bA.out bB.out nA.out nB.out (ka.out.below hb) (kb.out.below hb) (HT.out.below hb)).mono ?_
      rintro e w3 ⟨rfl, hb3⟩
      exact ⟨_, rfl, _, rfl, hb3, rfl⟩
     | 6, _ =>
      obtain ⟨s0, r0, _⟩ := hw 2 (by omega) (by kernel_rfl)
      have e0 : v 2 = .bool (lessO oa.ob ob.ob) := r0
      rw [e0] at s0
      obtain ⟨s1, r1, _⟩ := hw 5 (by omega) (by kernel_rfl)
      have e1 : v 5 = .bool (lessO oa.ob ob.ob) := r1
      rw [e1] at s1
      exact gw_eqlB rfl (wanted_plain rfl) 30 33 _ rfl s0 s1 ⟨_, rfl, Below.refl _ _, rfl⟩
     | 7, _ =>
      obtain ⟨s0, r0, _⟩ := hw 6 (by omega) (by kernel_rfl)
      have e0 : v 6 = .bool true := r0
      rw [e0] at s0
      exact gw_move rfl (wanted_plain rfl) 34 _ rfl s0 ⟨_, rfl, Below.refl _ _, rfl⟩
     | 8, _ =>
      obtain ⟨s9, r9, _⟩ := hw 7 (by omega) (by kernel_rfl)
      have e9 : v 7 = .bool true := r9
      rw [e9] at s9
      exact gw_box rfl (wanted_on rfl rfl rfl s9 rfl) (.tmp 7) rfl (eval_of sl7) (GA.out.keep hb) ⟨_, rfl, Below.refl _ _, rfl⟩
     | 9, _ =>
      obtain ⟨s9, r9, _⟩ := hw 7 (by omega) (by kernel_rfl)
      have e9 : v 7 = .bool true := r9
      rw [e9] at s9
      exact gw_box rfl (wanted_on rfl rfl rfl s9 rfl) (.tmp 9) rfl (eval_of sl9) (GX.out.keep hb) ⟨_, rfl, Below.refl _ _, rfl⟩
     | 10, _ =>
      obtain ⟨s9, r9, _⟩ := hw 7 (by omega) (by kernel_rfl)
      have e9 : v 7 = .bool true := r9
      rw [e9] at s9
      obtain ⟨s0, r0, _⟩ := hw 8 (by omega) (by kernel_rfl)
      have e0 : v 8 = vO (oa.ob) pa := r0
      rw [e0] at s0
      obtain ⟨s1, r1, _⟩ := hw 9 (by omega) (by kernel_rfl)
      have e1 : v 9 = vO (ox) px := r1
      rw [e1] at s1
      refine gw_tt rfl (wanted_on rfl rfl rfl s9 rfl) 33 36 37 _ _ _ rfl (fun v u w => by go_simp) s0 s1 ?_
      with_reducible refine (lessH oa.ob ox pa px w9 bA.out bX.out nA.out nX.out (ka.out.below hb) (kx.out.below hb) (HT.out.below hb)).mono ?_
      rintro e w3 ⟨rfl, hb3⟩
      exact ⟨_, rfl, _, rfl, hb3, rfl⟩
     | 11, _ =>
      obtain ⟨s9, r9, _⟩ := hw 7 (by omega) (by kernel_rfl)
      have e9 : v 7 = .bool true := r9
      rw [e9] at s9
      exact gw_box rfl (wanted_on rfl rfl rfl s9 rfl) (.tmp 7) rfl (eval_of sl7) (GA.out.keep hb) ⟨_, rfl, Below.refl _ _, rfl⟩
     | 12, _ =>
      obtain ⟨s9, r9, _⟩ := hw 7 (by omega) (by kernel_rfl)
      have e9 : v 7 = .bool true := r9
      rw [e9] at s9
      exact gw_box rfl (wanted_on rfl rfl rfl s9 rfl) (.tmp 9) rfl (eval_of sl9) (GX.out.keep hb) ⟨_, rfl, Below.refl _ _, rfl⟩
     | 13, _ =>
      obtain ⟨s9, r9, _⟩ := hw 7 (by omega) (by kernel_rfl)
      have e9 : v 7 = .bool true := r9
      rw [e9] at s9
      obtain ⟨s0, r0, _⟩ := hw 11 (by omega) (by kernel_rfl)
      have e0 : v 11 = vO (oa.ob) pa := r0
      rw [e0] at s0
      obtain ⟨s1, r1, _⟩ := hw 12 (by omega) (by kernel_rfl)
      have e1 : v 12 = vO (ox) px := r1
      rw [e1] at s1
      refine gw_tt rfl (wanted_on rfl rfl rfl s9 rfl) 34 39 40 _ _ _ rfl (fun v u w => by go_simp) s0 s1 ?_
      with_reducible refine (lessRT oa.ob ox pa px w9 bA.out bX.out nA.out nX.out (ka.out.below hb) (kx.out.below hb) (HT.out.below hb)).mono ?_
      rintro e w3 ⟨rfl, hb3⟩
      exact ⟨_, rfl, _, rfl, hb3, rfl⟩
     | 14, _ =>
      obtain ⟨s9, r9, _⟩ := hw 7 (by omega) (by kernel_rfl)
      have e9 : v 7 = .bool true := r9
      rw [e9] at s9
      obtain ⟨s0, r0, _⟩ := hw 10 (by omega) (by kernel_rfl)
      have e0 : v 10 = .bool (lessO oa.ob ox) := r0
      rw [e0] at s0
      obtain ⟨s1, r1, _⟩ := hw 13 (by omega) (by kernel_rfl)
      have e1 : v 13 = .bool (lessO oa.ob ox) := r1
      rw [e1] at s1
      exact gw_eqlB rfl (wanted_on rfl rfl rfl s9 rfl) 38 41 _ rfl s0 s1 ⟨_, rfl, Below.refl _ _, rfl⟩
     | 15, _ =>
      obtain ⟨s0, r0, _⟩ := hw 7 (by omega) (by kernel_rfl)
      have e0 : v 7 = .bool true := r0
      rw [e0] at s0
      obtain ⟨s1, r1, _⟩ := hw 14 (by omega) (by kernel_rfl)
      have e1 : v 14 = .bool true := r1
      rw [e1] at s1
      exact gw_pickT rfl (wanted_plain rfl) 35 42 _ _ rfl s0 s1 ⟨_, rfl, Below.refl _ _, rfl⟩
     | 16, _ =>
      obtain ⟨s0, r0, _⟩ := hw 15 (by omega) (by kernel_rfl)
      have e0 : v 15 = .bool true := r0
      rw [e0] at s0
      exact gw_move rfl (wanted_plain rfl) 43 _ rfl s0 ⟨_, rfl, Below.refl _ _, rfl⟩
     | 17, _ =>
      obtain ⟨s9, r9, _⟩ := hw 16 (by omega) (by kernel_rfl)
      have e9 : v 16 = .bool true := r9
      rw [e9] at s9
      exact gw_box rfl (wanted_on rfl rfl rfl s9 rfl) (.tmp 9) rfl (eval_of sl9) (GX.out.keep hb) ⟨_, rfl, Below.refl _ _, rfl⟩
     | 18, _ =>
      obtain ⟨s9, r9, _⟩ := hw 16 (by omega) (by kernel_rfl)
      have e9 : v 16 = .bool true := r9
      rw [e9] at s9
      exact gw_box rfl (wanted_on rfl rfl rfl s9 rfl) (.tmp 7) rfl (eval_of sl7) (GA.out.keep hb) ⟨_, rfl, Below.refl _ _, rfl⟩
     | 19, _ =>
      obtain ⟨s9, r9, _⟩ := hw 16 (by omega) (by kernel_rfl)
      have e9 : v 16 = .bool true := r9
      rw [e9] at s9
      obtain ⟨s0, r0, _⟩ := hw 17 (by omega) (by kernel_rfl)
      have e0 : v 17 = vO (ox) px := r0
      rw [e0] at s0
      obtain ⟨s1, r1, _⟩ := hw 18 (by omega) (by kernel_rfl)
      have e1 : v 18 = vO (oa.ob) pa := r1
      rw [e1] at s1
      refine gw_tt rfl (wanted_on rfl rfl rfl s9 rfl) 33 45 46 _ _ _ rfl (fun v u w => by go_simp) s0 s1 ?_
      with_reducible refine (lessH ox oa.ob px pa w9 bX.out bA.out nX.out nA.out (kx.out.below hb) (ka.out.below hb) (HT.out.below hb)).mono ?_
      rintro e w3 ⟨rfl, hb3⟩
      exact ⟨_, rfl, _, rfl, hb3, rfl⟩
     | 20, _ =>
      obtain ⟨s9, r9, _⟩ := hw 16 (by omega) (by kernel_rfl)
      have e9 : v 16 = .bool true := r9
      rw [e9] at s9
      exact gw_box rfl (wanted_on rfl rfl rfl s9 rfl) (.tmp 9) rfl (eval_of sl9) (GX.out.keep hb) ⟨_, rfl, Below.refl _ _, rfl⟩
     | 21, _ =>
      obtain ⟨s9, r9, _⟩ := hw 16 (by omega) (by kernel_rfl)
      have e9 : v 16 = .bool true := r9
      rw [e9] at s9
      exact gw_box rfl (wanted_on rfl rfl rfl s9 rfl) (.tmp 7) rfl (eval_of sl7) (GA.out.keep hb) ⟨_, rfl, Below.refl _ _, rfl⟩
     | 22, _ =>
      obtain ⟨s9, r9, _⟩ := hw 16 (by omega) (by kernel_rfl)
      have e9 : v 16 = .bool true := r9
      rw [e9] at s9
      obtain ⟨s0, r0, _⟩ := hw 20 (by omega) (by kernel_rfl)
      have e0 : v 20 = vO (ox) px := r0
      rw [e0] at s0
      obtain ⟨s1, r1, _⟩ := hw 21 (by omega) (by kernel_rfl)
      have e1 : v 21 = vO (oa.ob) pa := r1
      rw [e1] at s1
      refine gw_tt rfl (wanted_on rfl rfl rfl s9 rfl) 34 48 49 _ _ _ rfl (fun v u w => by go_simp) s0 s1 ?_
      with_reducible refine (lessRT ox oa.ob px pa w9 bX.out bA.out nX.out nA.out (kx.out.below hb) (ka.out.below hb) (HT.out.below hb)).mono ?_
      rintro e w3 ⟨rfl, hb3⟩
      exact ⟨_, rfl, _, rfl, hb3, rfl⟩
     | 23, _ =>
      obtain ⟨s9, r9, _⟩ := hw 16 (by omega) (by kernel_rfl)
      have e9 : v 16 = .bool true := r9
      rw [e9] at s9
      obtain ⟨s0, r0, _⟩ := hw 19 (by omega) (by kernel_rfl)
      have e0 : v 19 = .bool (lessO ox oa.ob) := r0
      rw [e0] at s0
      obtain ⟨s1, r1, _⟩ := hw 22 (by omega) (by kernel_rfl)
      have e1 : v 22 = .bool (lessO ox oa.ob) := r1
      rw [e1] at s1
      exact gw_eqlB rfl (wanted_on rfl rfl rfl s9 rfl) 47 50 _ rfl s0 s1 ⟨_, rfl, Below.refl _ _, rfl⟩
     | 24, _ =>
      obtain ⟨s0, r0, _⟩ := hw 16 (by omega) (by kernel_rfl)
      have e0 : v 16 = .bool true := r0
      rw [e0] at s0
      obtain ⟨s1, r1, _⟩ := hw 23 (by omega) (by kernel_rfl)
      have e1 : v 23 = .bool true := r1
      rw [e1] at s1
      exact gw_pickT rfl (wanted_plain rfl) 44 51 _ _ rfl s0 s1 ⟨_, rfl, Below.refl _ _, rfl⟩
     | k + 25, h => exact absurd h (by omega)
    case done =>
     intro a w9 v lo hi' hdef hsz hoth hb hj hap
     obtain ⟨_, hv24, _, _⟩ := hj 24 (by omega)
     have ha := eq_puts hdef hsz hoth (fun i hi => (hj i hi).1)
     subst ha
     clear hj hoth hdef hsz hap
     change v 24 = _ at hv24
     simp only [puts, List.getD_cons_zero, List.getD_cons_succ, hv24]
     generalize v 0 = v0
     generalize v 1 = v1
     generalize v 2 = v2
     generalize v 3 = v3
     generalize v 4 = v4
     generalize v 5 = v5
     generalize v 6 = v6
     generalize v 7 = v7
     generalize v 8 = v8
     generalize v 9 = v9
     generalize v 10 = v10
     generalize v 11 = v11
     generalize v 12 = v12
     generalize v 13 = v13
     generalize v 14 = v14
     generalize v 15 = v15
     generalize v 16 = v16
     generalize v 17 = v17
     generalize v 18 = v18
     generalize v 19 = v19
     generalize v 20 = v20
     generalize v 21 = v21
     generalize v 22 = v22
     generalize v 23 = v23
     clear hv24
     simp only [Act.put, List.setIfInBounds_toArray, List.set_cons_zero, List.set_cons_succ]
     show wpList _ _ _ [_] _ _
     replace HW := kW HW hb
     replace Bs := hI (Bs.out.keep hb)
     replace Bt := hI (Bt.out.keep hb)
     replace Br := hI (Br.out.keep hb)
     replace HT := kT HT hb
     replace GA := kB GA hb
     replace ka := kH ka hb
     replace GB := kB GB hb
     replace kb := kH kb hb
     replace GX := kB GX hb
     replace kx := kH kx hb
     clear hb
     go_wp2_with (first | (with_reducible refine lG (.tmp 7) GA.out ?_) | (with_reducible refine lG (.tmp 8) GB.out ?_) | (with_reducible refine lG (.tmp 9) GX.out ?_))
     go_ret
     exact ⟨rfl, HW.out⟩
end Go.Proofs.YtobjdkblpjmbjaaGreatDoor
