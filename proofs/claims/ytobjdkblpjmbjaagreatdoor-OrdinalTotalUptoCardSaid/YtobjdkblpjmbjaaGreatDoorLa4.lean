/- The walk of OrdinalTotal. -/
import Derived.Test.YtobjdkblpjmbjaaGreatDoorG19
import Derived.Test.YtobjdkblpjmbjaaGreatDoorG34
namespace Go.Proofs.YtobjdkblpjmbjaaGreatDoor
open Go Go.RowKit
set_option linter.unusedVariables false

set_option maxHeartbeats 16000000 in
set_option maxRecDepth 100000 in
theorem ordinalTotal_walk (s : Sd) (sc sd : Value) (t : Sd) (tc td : Value) (u : Sd) (uc ud : Value) (w : World) (As : SdAt w (Has w) s [sc, sd]) (Ns : s.cnt ≤ 1048576) (At : SdAt w (Has w) t [tc, td]) (Nt : t.cnt ≤ 1048576) (Au : SdAt w (Has w) u [uc, ud]) (Nu : u.cnt ≤ 1048576) (ht : Tab w) :
 Calls Tryz.prog 7 #[.agg #[sc, sd], .agg #[tc, td], .agg #[uc, ud]] w (RetB w true) := by
 have HT := hI ht
 have FW : Hid (∀ X, Below w.heap.size w X → Calls Tryz.prog 13 #[.slice (some ⟨X.heap.size, 0, none⟩) 3 3] (X.alloc (.cells #[sc, sd, tc, td, uc, ud] 24)) (fun e w' => e = .returned (.bool (fewSd [s, t, u])) ∧ Below X.heap.size X w')) := fun X h => few3 s sc sd t tc td u uc ud w X As Ns At Nt Au Nu h
 have Ks : Hid (fewSd [s, t, u] = true → ∃ a : On, a.sm 45 3 84 ∧ ∀ X, Below w.heap.size w X → Calls Tryz.prog 15 #[.agg #[sc, sd]] X (RetH X a.ob)) := fun hf => madeK hf (by simp) As ht
 have Kt : Hid (fewSd [s, t, u] = true → ∃ a : On, a.sm 45 3 84 ∧ ∀ X, Below w.heap.size w X → Calls Tryz.prog 15 #[.agg #[tc, td]] X (RetH X a.ob)) := fun hf => madeK hf (by simp) At ht
 have Ku : Hid (fewSd [s, t, u] = true → ∃ a : On, a.sm 45 3 84 ∧ ∀ X, Below w.heap.size w X → Calls Tryz.prog 15 #[.agg #[uc, ud]] X (RetH X a.ob)) := fun hf => madeK hf (by simp) Au ht
 generalize fewSd [s, t, u] = fs at FW Ks Kt Ku
 clear ht As Ns At Nt Au Nu
 go_enter Tryz.func7, Tryz.ntmps7
 go_wp2_with fail
 have T := blk3 w (.cells #[sc, sd] 24) (.cells #[tc, td] 24) (.cells #[uc, ud] 24)
 generalize (((w.alloc (.cells #[sc, sd] 24)).alloc (.cells #[tc, td] 24)).alloc (.cells #[uc, ud] 24)) = W at T ⊢
 obtain ⟨TB, T0, T1, T2⟩ := T
 have HW := hI TB
 have Bs : Hid (Sb W (w.heap.size) sc sd) := T0
 have Bt : Hid (Sb W (w.heap.size + 1) tc td) := T1
 have Bu : Hid (Sb W (w.heap.size + 1 + 1) uc ud) := T2
 replace HT := hI (HT.out.below TB)
 clear TB T0 T1 T2
 with_reducible refine (firstO _ HT.out).mono ?_
 rintro e w1 ⟨rfl, hb⟩
 replace HW := kW HW hb
 replace Bs := hI (Bs.out.keep hb)
 replace Bt := hI (Bt.out.keep hb)
 replace Bu := hI (Bu.out.keep hb)
 replace HT := kT HT hb
 clear hb
 have cs0 := Bs.out.c0
 have cs1 := Bs.out.c1
 have ct0 := Bt.out.c0
 have ct1 := Bt.out.c1
 have cu0 := Bu.out.c0
 have cu1 := Bu.out.c1
 go_wp2_with fail
 clear cs0 cs1 ct0 ct1 cu0 cu1
 with_reducible refine (FW.out _ HW.out).mono ?_
 rintro e w2 ⟨rfl, hb⟩
 replace HW := kW HW hb
 replace Bs := hI (Bs.out.keep hb)
 replace Bt := hI (Bt.out.keep hb)
 replace Bu := hI (Bu.out.keep hb)
 replace HT := kT HT hb
 clear hb
 cases fs with
 | false =>
  go_wp2
  all_goals go_ret
  all_goals exact ⟨rfl, HW.out⟩
 | true =>
  obtain ⟨oa, sma, Ma⟩ := Ks.out (by simp)
  replace sma := hI sma
  replace Ma := hI Ma
  obtain ⟨ob, smb, Mb⟩ := Kt.out (by simp)
  replace smb := hI smb
  replace Mb := hI Mb
  obtain ⟨oc, smc, Mc⟩ := Ku.out (by simp)
  replace smc := hI smc
  replace Mc := hI Mc
  clear Ks Kt Ku
  go_wp2_with fail
  refine wp_region_grow (l := _) 9 (by kernel_rfl) (by kernel_rfl) (fun i => [20, 21, 22, 23, 24, 25, 7, 8, 9].getD i 0) (LR [LV (.agg #[sc, sd]), LH (oa.ob), LV (.agg #[tc, td]), LH (ob.ob), LV (.agg #[uc, ud]), LH (oc.ob), LBx, LBx, LBx]) (LR_mono ⟨mLV _, mLH _, mLV _, mLH _, mLV _, mLH _, mLBx, mLBx, mLBx, trivial⟩) (by
   intro i j hi hj h
   exact inj_getD [20, 21, 22, 23, 24, 25, 7, 8, 9] (by decide) i j hi hj h) (by
   intro i hi
   exact lt_getD 61 [20, 21, 22, 23, 24, 25, 7, 8, 9] (by decide) i hi) ?step ?done
  case step =>
   intro i hi a w9 v lo hi' hoth hb hw
   have sl3 : a.tmps[3]? = some (.pointer (some ⟨w.heap.size, 0, none⟩)) := (hoth 3 (fun j hj => ne_getD 3 _ (by decide) j hj)).trans rfl
   have sl4 : a.tmps[4]? = some (.pointer (some ⟨w.heap.size + 1, 0, none⟩)) := (hoth 4 (fun j hj => ne_getD 4 _ (by decide) j hj)).trans rfl
   have sl5 : a.tmps[5]? = some (.pointer (some ⟨w.heap.size + 1 + 1, 0, none⟩)) := (hoth 5 (fun j hj => ne_getD 5 _ (by decide) j hj)).trans rfl
   match i, hi with
   | 0, _ =>
    exact gr_seed rfl rfl (.tmp 3) rfl (eval_of sl3) (Bs.out.keep hb) ⟨_, rfl, Below.refl _ _, rfl⟩
   | 1, _ =>
    obtain ⟨s0, r0, _⟩ := hw 0 (by omega) (by kernel_rfl)
    have e0 : v 0 = .agg #[sc, sd] := r0
    rw [e0] at s0
    refine gr_t rfl rfl 15 20 _ _ rfl (fun v w => by go_simp) s0 ?_
    with_reducible refine (Ma.out w9 (chain2 HW.out hb (Nat.le_refl _))).mono ?_
    rintro e w3 ⟨p, rfl, hp, hb3⟩
    exact ⟨_, rfl, _, rfl, hb3, p, rfl, hp⟩
   | 2, _ =>
    exact gr_seed rfl rfl (.tmp 4) rfl (eval_of sl4) (Bt.out.keep hb) ⟨_, rfl, Below.refl _ _, rfl⟩
   | 3, _ =>
    obtain ⟨s0, r0, _⟩ := hw 2 (by omega) (by kernel_rfl)
    have e0 : v 2 = .agg #[tc, td] := r0
    rw [e0] at s0
    refine gr_t rfl rfl 15 22 _ _ rfl (fun v w => by go_simp) s0 ?_
    with_reducible refine (Mb.out w9 (chain2 HW.out hb (Nat.le_refl _))).mono ?_
    rintro e w3 ⟨p, rfl, hp, hb3⟩
    exact ⟨_, rfl, _, rfl, hb3, p, rfl, hp⟩
   | 4, _ =>
    exact gr_seed rfl rfl (.tmp 5) rfl (eval_of sl5) (Bu.out.keep hb) ⟨_, rfl, Below.refl _ _, rfl⟩
   | 5, _ =>
    obtain ⟨s0, r0, _⟩ := hw 4 (by omega) (by kernel_rfl)
    have e0 : v 4 = .agg #[uc, ud] := r0
    rw [e0] at s0
    refine gr_t rfl rfl 15 24 _ _ rfl (fun v w => by go_simp) s0 ?_
    with_reducible refine (Mc.out w9 (chain2 HW.out hb (Nat.le_refl _))).mono ?_
    rintro e w3 ⟨p, rfl, hp, hb3⟩
    exact ⟨_, rfl, _, rfl, hb3, p, rfl, hp⟩
   | 6, _ =>
    exact grow_allocO rfl rfl rfl ⟨_, rfl, Below.alloc (Below.refl _ _) (Nat.le_refl _) _, rfl, heap_alloc_new _ _, by simp⟩
   | 7, _ =>
    exact grow_allocO rfl rfl rfl ⟨_, rfl, Below.alloc (Below.refl _ _) (Nat.le_refl _) _, rfl, heap_alloc_new _ _, by simp⟩
   | 8, _ =>
    exact grow_allocO rfl rfl rfl ⟨_, rfl, Below.alloc (Below.refl _ _) (Nat.le_refl _) _, rfl, heap_alloc_new _ _, by simp⟩
  case done =>
   intro a w9 v lo hi' hdef hsz hoth hb hj hap
   obtain ⟨_, ⟨pa, hv1, ka⟩, hlo1, hhi1⟩ := hj 1 (by omega)
   obtain ⟨_, ⟨pb, hv3, kb⟩, hlo3, hhi3⟩ := hj 3 (by omega)
   obtain ⟨_, ⟨pc, hv5, kc⟩, hlo5, hhi5⟩ := hj 5 (by omega)
   obtain ⟨_, ⟨hv6, Z6, hlt6⟩, hlo6, hhi6⟩ := hj 6 (by omega)
   obtain ⟨_, ⟨hv7, Z7, hlt7⟩, hlo7, hhi7⟩ := hj 7 (by omega)
   obtain ⟨_, ⟨hv8, Z8, hlt8⟩, hlo8, hhi8⟩ := hj 8 (by omega)
   have ha := eq_puts hdef hsz hoth (fun i hi => (hj i hi).1)
   subst ha
   clear hj hoth hdef hsz
   simp only [puts, List.getD_cons_zero, List.getD_cons_succ, hv1, hv3, hv5, hv6, hv7, hv8]
   generalize v 0 = v0
   generalize v 2 = v2
   generalize v 4 = v4
   clear hv1 hv3 hv5 hv6 hv7 hv8
   simp only [Act.put, List.setIfInBounds_toArray, List.set_cons_zero, List.set_cons_succ]
   show wpList _ _ _ [_, _, _] _ _
   have n01 := hap 6 7 (by omega) (by omega) (by decide)
   have n02 := hap 6 8 (by omega) (by omega) (by decide)
   have n12 := hap 7 8 (by omega) (by omega) (by decide)
   clear hap
   generalize lo 6 = g6 at *
   generalize hi' 6 = e6 at *
   generalize lo 7 = g7 at *
   generalize hi' 7 = e7 at *
   generalize lo 8 = g8 at *
   generalize hi' 8 = e8 at *
   refine storeB (w1 := w9) (g := g6) (b := oa.ob) (p := pa) (.tmp 7) (.tmp 21) rfl rfl rfl rfl ka Z6 ?_
   refine storeB (w1 := w9) (g := g7) (b := ob.ob) (p := pb) (.tmp 8) (.tmp 23) rfl rfl rfl rfl kb (Z7.other (by omega)) ?_
   refine storeB (w1 := w9) (g := g8) (b := oc.ob) (p := pc) (.tmp 9) (.tmp 25) rfl rfl rfl rfl kc ((Z8.other (by omega)).other (by omega)) ?_
   have P := Fill3.new hb Z6 ka hlo6 Z7 kb hlo7 Z8 kc hlo8 (by omega) (by omega) (by omega)
   generalize (World.setRow (World.setRow (World.setRow w9 g6 (cellsO (oa.ob) pa).toArray) g7 (cellsO (ob.ob) pb).toArray) g8 (cellsO (oc.ob) pc).toArray) = XM at P ⊢
   clear hb ka Z6 kb Z7 kc Z8
   have hb := P.bel
   replace HW := kW HW hb
   replace Bs := hI (Bs.out.keep hb)
   replace Bt := hI (Bt.out.keep hb)
   replace Bu := hI (Bu.out.keep hb)
   replace HT := kT HT hb
   have GA := hI P.b0
   have ka := hI P.k0
   have GB := hI P.b1
   have kb := hI P.k1
   have GC := hI P.b2
   have kc := hI P.k2
   clear hb P
   go_wp2_with (first | (with_reducible refine lG (.tmp 7) GA.out ?_) | (with_reducible refine lG (.tmp 8) GB.out ?_) | (with_reducible refine lG (.tmp 9) GC.out ?_))
   rcases cmpE_ways oa ob with hw | hw | hw
   · have hx : decide (cmpE oa ob < 0) = true := decide_eq_true hw
     have hy : decide (cmpE ob oa < 0) = false := decide_eq_false (by have := cmpE_anti oa ob; omega)
     have he := eqOn (neOn hw)
     replace hx := hI hx
     replace hy := hI hy
     replace he := hI he
     refine wp_region_grow (l := _) 6 (by kernel_rfl) (by kernel_rfl) (fun i => [26, 27, 28, 29, 30, 31].getD i 0) (LR [LV (vO (oa.ob) pa), LV (vO (ob.ob) pb), LV (.bool true), LV (vO (ob.ob) pb), LV (vO (oa.ob) pa), LV (.bool false)]) (LR_mono ⟨mLV _, mLV _, mLV _, mLV _, mLV _, mLV _, trivial⟩) (by
      intro i j hi hj h
      exact inj_getD [26, 27, 28, 29, 30, 31] (by decide) i j hi hj h) (by
      intro i hi
      exact lt_getD 61 [26, 27, 28, 29, 30, 31] (by decide) i hi) ?step ?done
     case step =>
      intro i hi a w9 v lo hi' hoth hb hw
      have sl7 : a.tmps[7]? = some (.pointer (some ⟨g6, 0, none⟩)) := (hoth 7 (fun j hj => ne_getD 7 _ (by decide) j hj)).trans rfl
      have sl8 : a.tmps[8]? = some (.pointer (some ⟨g7, 0, none⟩)) := (hoth 8 (fun j hj => ne_getD 8 _ (by decide) j hj)).trans rfl
      match i, hi with
      | 0, _ =>
       exact gr_box rfl rfl (.tmp 7) rfl (eval_of sl7) (GA.out.keep hb) ⟨_, rfl, Below.refl _ _, rfl⟩
      | 1, _ =>
       exact gr_box rfl rfl (.tmp 8) rfl (eval_of sl8) (GB.out.keep hb) ⟨_, rfl, Below.refl _ _, rfl⟩
      | 2, _ =>
       obtain ⟨s0, r0, _⟩ := hw 0 (by omega) (by kernel_rfl)
       have e0 : v 0 = vO (oa.ob) pa := r0
       rw [e0] at s0
       obtain ⟨s1, r1, _⟩ := hw 1 (by omega) (by kernel_rfl)
       have e1 : v 1 = vO (ob.ob) pb := r1
       rw [e1] at s1
       refine gr_tt rfl rfl 33 26 27 _ _ _ rfl (fun v u w => by go_simp) s0 s1 ?_
       with_reducible refine (lessPB true hx.out sma.out smb.out (by omega) (by omega) (by omega) (by omega) pa pb w9 (ka.out.below hb) (kb.out.below hb) (HT.out.below hb)).mono ?_
       rintro e w3 ⟨rfl, hb3⟩
       exact ⟨_, rfl, _, rfl, hb3, rfl⟩
      | 3, _ =>
       exact gr_box rfl rfl (.tmp 8) rfl (eval_of sl8) (GB.out.keep hb) ⟨_, rfl, Below.refl _ _, rfl⟩
      | 4, _ =>
       exact gr_box rfl rfl (.tmp 7) rfl (eval_of sl7) (GA.out.keep hb) ⟨_, rfl, Below.refl _ _, rfl⟩
      | 5, _ =>
       obtain ⟨s0, r0, _⟩ := hw 3 (by omega) (by kernel_rfl)
       have e0 : v 3 = vO (ob.ob) pb := r0
       rw [e0] at s0
       obtain ⟨s1, r1, _⟩ := hw 4 (by omega) (by kernel_rfl)
       have e1 : v 4 = vO (oa.ob) pa := r1
       rw [e1] at s1
       refine gr_tt rfl rfl 33 29 30 _ _ _ rfl (fun v u w => by go_simp) s0 s1 ?_
       with_reducible refine (lessPB false hy.out smb.out sma.out (by omega) (by omega) (by omega) (by omega) pb pa w9 (kb.out.below hb) (ka.out.below hb) (HT.out.below hb)).mono ?_
       rintro e w3 ⟨rfl, hb3⟩
       exact ⟨_, rfl, _, rfl, hb3, rfl⟩
     case done =>
      intro a w9 v lo hi' hdef hsz hoth hb hj hap
      obtain ⟨_, hv2, _, _⟩ := hj 2 (by omega)
      obtain ⟨_, hv5, _, _⟩ := hj 5 (by omega)
      have ha := eq_puts hdef hsz hoth (fun i hi => (hj i hi).1)
      subst ha
      clear hj hoth hdef hsz hap
      change v 2 = _ at hv2
      change v 5 = _ at hv5
      simp only [puts, List.getD_cons_zero, List.getD_cons_succ, hv2, hv5]
      generalize v 0 = v0
      generalize v 1 = v1
      generalize v 3 = v3
      generalize v 4 = v4
      clear hv2 hv5
      simp only [Act.put, List.setIfInBounds_toArray, List.set_cons_zero, List.set_cons_succ]
      show wpList _ _ _ [_, _] _ _
      replace HW := kW HW hb
      replace Bs := hI (Bs.out.keep hb)
      replace Bt := hI (Bt.out.keep hb)
      replace Bu := hI (Bu.out.keep hb)
      replace HT := kT HT hb
      replace GA := kB GA hb
      replace ka := kH ka hb
      replace GB := kB GB hb
      replace kb := kH kb hb
      replace GC := kB GC hb
      replace kc := kH kc hb
      clear hb
      go_wp2_with (first | (with_reducible refine lG (.tmp 7) GA.out ?_) | (with_reducible refine lG (.tmp 8) GB.out ?_) | (with_reducible refine lG (.tmp 9) GC.out ?_))
      with_reducible refine (equalH _ _ _ _ _ false he.out ka.out kb.out).mono ?_
      rintro e w3 ⟨rfl, hb⟩
      replace HW := kW HW hb
      replace Bs := hI (Bs.out.keep hb)
      replace Bt := hI (Bt.out.keep hb)
      replace Bu := hI (Bu.out.keep hb)
      replace HT := kT HT hb
      replace GA := kB GA hb
      replace ka := kH ka hb
      replace GB := kB GB hb
      replace kb := kH kb hb
      replace GC := kB GC hb
      replace kc := kH kc hb
      clear hb
      cases hz : decide (cmpE ob oc < 0) with
      | false =>
       replace hz := hI hz
       go_wp2_with (first | (with_reducible refine lG (.tmp 7) GA.out ?_) | (with_reducible refine lG (.tmp 8) GB.out ?_) | (with_reducible refine lG (.tmp 9) GC.out ?_))
       with_reducible refine (lessPB false hz.out smb.out smc.out (by omega) (by omega) (by omega) (by omega) _ _ _ kb.out kc.out HT.out).mono ?_
       rintro e w4 ⟨rfl, hb⟩
       replace HW := kW HW hb
       replace Bs := hI (Bs.out.keep hb)
       replace Bt := hI (Bt.out.keep hb)
       replace Bu := hI (Bu.out.keep hb)
       replace HT := kT HT hb
       replace GA := kB GA hb
       replace ka := kH ka hb
       replace GB := kB GB hb
       replace kb := kH kb hb
       replace GC := kB GC hb
       replace kc := kH kc hb
       clear hb
       go_wp2_with (first | (with_reducible refine lG (.tmp 7) GA.out ?_) | (with_reducible refine lG (.tmp 8) GB.out ?_) | (with_reducible refine lG (.tmp 9) GC.out ?_))
       go_ret
       exact ⟨rfl, HW.out⟩
      | true =>
       have hac : decide (cmpE oa oc < 0) = true := decide_eq_true (cmpE_lt_trans hw (of_decide_eq_true hz))
       replace hz := hI hz
       replace hac := hI hac
       go_wp2_with (first | (with_reducible refine lG (.tmp 7) GA.out ?_) | (with_reducible refine lG (.tmp 8) GB.out ?_) | (with_reducible refine lG (.tmp 9) GC.out ?_))
       with_reducible refine (lessPB true hz.out smb.out smc.out (by omega) (by omega) (by omega) (by omega) _ _ _ kb.out kc.out HT.out).mono ?_
       rintro e w4 ⟨rfl, hb⟩
       replace HW := kW HW hb
       replace Bs := hI (Bs.out.keep hb)
       replace Bt := hI (Bt.out.keep hb)
       replace Bu := hI (Bu.out.keep hb)
       replace HT := kT HT hb
       replace GA := kB GA hb
       replace ka := kH ka hb
       replace GB := kB GB hb
       replace kb := kH kb hb
       replace GC := kB GC hb
       replace kc := kH kc hb
       clear hb
       go_wp2_with (first | (with_reducible refine lG (.tmp 7) GA.out ?_) | (with_reducible refine lG (.tmp 8) GB.out ?_) | (with_reducible refine lG (.tmp 9) GC.out ?_))
       with_reducible refine (lessPB true hac.out sma.out smc.out (by omega) (by omega) (by omega) (by omega) _ _ _ ka.out kc.out HT.out).mono ?_
       rintro e w5 ⟨rfl, hb⟩
       replace HW := kW HW hb
       replace Bs := hI (Bs.out.keep hb)
       replace Bt := hI (Bt.out.keep hb)
       replace Bu := hI (Bu.out.keep hb)
       replace HT := kT HT hb
       replace GA := kB GA hb
       replace ka := kH ka hb
       replace GB := kB GB hb
       replace kb := kH kb hb
       replace GC := kB GC hb
       replace kc := kH kc hb
       clear hb
       go_wp2_with (first | (with_reducible refine lG (.tmp 7) GA.out ?_) | (with_reducible refine lG (.tmp 8) GB.out ?_) | (with_reducible refine lG (.tmp 9) GC.out ?_))
       go_ret
       exact ⟨rfl, HW.out⟩
   · subst hw
     have hx : decide (cmpE oa oa < 0) = false := decide_eq_false (by rw [cmpE_self]; omega)
     have hy := hx
     replace hx := hI hx
     replace hy := hI hy
     refine wp_region_grow (l := _) 6 (by kernel_rfl) (by kernel_rfl) (fun i => [26, 27, 28, 29, 30, 31].getD i 0) (LR [LV (vO (oa.ob) pa), LV (vO (oa.ob) pb), LV (.bool false), LV (vO (oa.ob) pb), LV (vO (oa.ob) pa), LV (.bool false)]) (LR_mono ⟨mLV _, mLV _, mLV _, mLV _, mLV _, mLV _, trivial⟩) (by
      intro i j hi hj h
      exact inj_getD [26, 27, 28, 29, 30, 31] (by decide) i j hi hj h) (by
      intro i hi
      exact lt_getD 61 [26, 27, 28, 29, 30, 31] (by decide) i hi) ?step ?done
     case step =>
      intro i hi a w9 v lo hi' hoth hb hw
      have sl7 : a.tmps[7]? = some (.pointer (some ⟨g6, 0, none⟩)) := (hoth 7 (fun j hj => ne_getD 7 _ (by decide) j hj)).trans rfl
      have sl8 : a.tmps[8]? = some (.pointer (some ⟨g7, 0, none⟩)) := (hoth 8 (fun j hj => ne_getD 8 _ (by decide) j hj)).trans rfl
      match i, hi with
      | 0, _ =>
       exact gr_box rfl rfl (.tmp 7) rfl (eval_of sl7) (GA.out.keep hb) ⟨_, rfl, Below.refl _ _, rfl⟩
      | 1, _ =>
       exact gr_box rfl rfl (.tmp 8) rfl (eval_of sl8) (GB.out.keep hb) ⟨_, rfl, Below.refl _ _, rfl⟩
      | 2, _ =>
       obtain ⟨s0, r0, _⟩ := hw 0 (by omega) (by kernel_rfl)
       have e0 : v 0 = vO (oa.ob) pa := r0
       rw [e0] at s0
       obtain ⟨s1, r1, _⟩ := hw 1 (by omega) (by kernel_rfl)
       have e1 : v 1 = vO (oa.ob) pb := r1
       rw [e1] at s1
       refine gr_tt rfl rfl 33 26 27 _ _ _ rfl (fun v u w => by go_simp) s0 s1 ?_
       with_reducible refine (lessPB false hx.out sma.out sma.out (by omega) (by omega) (by omega) (by omega) pa pb w9 (ka.out.below hb) (kb.out.below hb) (HT.out.below hb)).mono ?_
       rintro e w3 ⟨rfl, hb3⟩
       exact ⟨_, rfl, _, rfl, hb3, rfl⟩
      | 3, _ =>
       exact gr_box rfl rfl (.tmp 8) rfl (eval_of sl8) (GB.out.keep hb) ⟨_, rfl, Below.refl _ _, rfl⟩
      | 4, _ =>
       exact gr_box rfl rfl (.tmp 7) rfl (eval_of sl7) (GA.out.keep hb) ⟨_, rfl, Below.refl _ _, rfl⟩
      | 5, _ =>
       obtain ⟨s0, r0, _⟩ := hw 3 (by omega) (by kernel_rfl)
       have e0 : v 3 = vO (oa.ob) pb := r0
       rw [e0] at s0
       obtain ⟨s1, r1, _⟩ := hw 4 (by omega) (by kernel_rfl)
       have e1 : v 4 = vO (oa.ob) pa := r1
       rw [e1] at s1
       refine gr_tt rfl rfl 33 29 30 _ _ _ rfl (fun v u w => by go_simp) s0 s1 ?_
       with_reducible refine (lessPB false hy.out sma.out sma.out (by omega) (by omega) (by omega) (by omega) pb pa w9 (kb.out.below hb) (ka.out.below hb) (HT.out.below hb)).mono ?_
       rintro e w3 ⟨rfl, hb3⟩
       exact ⟨_, rfl, _, rfl, hb3, rfl⟩
     case done =>
      intro a w9 v lo hi' hdef hsz hoth hb hj hap
      obtain ⟨_, hv2, _, _⟩ := hj 2 (by omega)
      obtain ⟨_, hv5, _, _⟩ := hj 5 (by omega)
      have ha := eq_puts hdef hsz hoth (fun i hi => (hj i hi).1)
      subst ha
      clear hj hoth hdef hsz hap
      change v 2 = _ at hv2
      change v 5 = _ at hv5
      simp only [puts, List.getD_cons_zero, List.getD_cons_succ, hv2, hv5]
      generalize v 0 = v0
      generalize v 1 = v1
      generalize v 3 = v3
      generalize v 4 = v4
      clear hv2 hv5
      simp only [Act.put, List.setIfInBounds_toArray, List.set_cons_zero, List.set_cons_succ]
      show wpList _ _ _ [_, _] _ _
      replace HW := kW HW hb
      replace Bs := hI (Bs.out.keep hb)
      replace Bt := hI (Bt.out.keep hb)
      replace Bu := hI (Bu.out.keep hb)
      replace HT := kT HT hb
      replace GA := kB GA hb
      replace ka := kH ka hb
      replace GB := kB GB hb
      replace kb := kH kb hb
      replace GC := kB GC hb
      replace kc := kH kc hb
      clear hb
      go_wp2_with (first | (with_reducible refine lG (.tmp 7) GA.out ?_) | (with_reducible refine lG (.tmp 8) GB.out ?_) | (with_reducible refine lG (.tmp 9) GC.out ?_))
      with_reducible refine (equalH _ _ _ _ _ true (decide_eq_true rfl) ka.out kb.out).mono ?_
      rintro e w3 ⟨rfl, hb⟩
      replace HW := kW HW hb
      replace Bs := hI (Bs.out.keep hb)
      replace Bt := hI (Bt.out.keep hb)
      replace Bu := hI (Bu.out.keep hb)
      replace HT := kT HT hb
      replace GA := kB GA hb
      replace ka := kH ka hb
      replace GB := kB GB hb
      replace kb := kH kb hb
      replace GC := kB GC hb
      replace kc := kH kc hb
      clear hb
      go_wp2_with (first | (with_reducible refine lG (.tmp 7) GA.out ?_) | (with_reducible refine lG (.tmp 8) GB.out ?_) | (with_reducible refine lG (.tmp 9) GC.out ?_))
      go_ret
      exact ⟨rfl, HW.out⟩
   · have hx : decide (cmpE oa ob < 0) = false := decide_eq_false (by omega)
     have hy : decide (cmpE ob oa < 0) = true := decide_eq_true (cmpE_flip.1 hw)
     have he := eqOn (neOn' hw)
     replace hx := hI hx
     replace hy := hI hy
     replace he := hI he
     refine wp_region_grow (l := _) 6 (by kernel_rfl) (by kernel_rfl) (fun i => [26, 27, 28, 29, 30, 31].getD i 0) (LR [LV (vO (oa.ob) pa), LV (vO (ob.ob) pb), LV (.bool false), LV (vO (ob.ob) pb), LV (vO (oa.ob) pa), LV (.bool true)]) (LR_mono ⟨mLV _, mLV _, mLV _, mLV _, mLV _, mLV _, trivial⟩) (by
      intro i j hi hj h
      exact inj_getD [26, 27, 28, 29, 30, 31] (by decide) i j hi hj h) (by
      intro i hi
      exact lt_getD 61 [26, 27, 28, 29, 30, 31] (by decide) i hi) ?step ?done
     case step =>
      intro i hi a w9 v lo hi' hoth hb hw
      have sl7 : a.tmps[7]? = some (.pointer (some ⟨g6, 0, none⟩)) := (hoth 7 (fun j hj => ne_getD 7 _ (by decide) j hj)).trans rfl
      have sl8 : a.tmps[8]? = some (.pointer (some ⟨g7, 0, none⟩)) := (hoth 8 (fun j hj => ne_getD 8 _ (by decide) j hj)).trans rfl
      match i, hi with
      | 0, _ =>
       exact gr_box rfl rfl (.tmp 7) rfl (eval_of sl7) (GA.out.keep hb) ⟨_, rfl, Below.refl _ _, rfl⟩
      | 1, _ =>
       exact gr_box rfl rfl (.tmp 8) rfl (eval_of sl8) (GB.out.keep hb) ⟨_, rfl, Below.refl _ _, rfl⟩
      | 2, _ =>
       obtain ⟨s0, r0, _⟩ := hw 0 (by omega) (by kernel_rfl)
       have e0 : v 0 = vO (oa.ob) pa := r0
       rw [e0] at s0
       obtain ⟨s1, r1, _⟩ := hw 1 (by omega) (by kernel_rfl)
       have e1 : v 1 = vO (ob.ob) pb := r1
       rw [e1] at s1
       refine gr_tt rfl rfl 33 26 27 _ _ _ rfl (fun v u w => by go_simp) s0 s1 ?_
       with_reducible refine (lessPB false hx.out sma.out smb.out (by omega) (by omega) (by omega) (by omega) pa pb w9 (ka.out.below hb) (kb.out.below hb) (HT.out.below hb)).mono ?_
       rintro e w3 ⟨rfl, hb3⟩
       exact ⟨_, rfl, _, rfl, hb3, rfl⟩
      | 3, _ =>
       exact gr_box rfl rfl (.tmp 8) rfl (eval_of sl8) (GB.out.keep hb) ⟨_, rfl, Below.refl _ _, rfl⟩
      | 4, _ =>
       exact gr_box rfl rfl (.tmp 7) rfl (eval_of sl7) (GA.out.keep hb) ⟨_, rfl, Below.refl _ _, rfl⟩
      | 5, _ =>
       obtain ⟨s0, r0, _⟩ := hw 3 (by omega) (by kernel_rfl)
       have e0 : v 3 = vO (ob.ob) pb := r0
       rw [e0] at s0
       obtain ⟨s1, r1, _⟩ := hw 4 (by omega) (by kernel_rfl)
       have e1 : v 4 = vO (oa.ob) pa := r1
       rw [e1] at s1
       refine gr_tt rfl rfl 33 29 30 _ _ _ rfl (fun v u w => by go_simp) s0 s1 ?_
       with_reducible refine (lessPB true hy.out smb.out sma.out (by omega) (by omega) (by omega) (by omega) pb pa w9 (kb.out.below hb) (ka.out.below hb) (HT.out.below hb)).mono ?_
       rintro e w3 ⟨rfl, hb3⟩
       exact ⟨_, rfl, _, rfl, hb3, rfl⟩
     case done =>
      intro a w9 v lo hi' hdef hsz hoth hb hj hap
      obtain ⟨_, hv2, _, _⟩ := hj 2 (by omega)
      obtain ⟨_, hv5, _, _⟩ := hj 5 (by omega)
      have ha := eq_puts hdef hsz hoth (fun i hi => (hj i hi).1)
      subst ha
      clear hj hoth hdef hsz hap
      change v 2 = _ at hv2
      change v 5 = _ at hv5
      simp only [puts, List.getD_cons_zero, List.getD_cons_succ, hv2, hv5]
      generalize v 0 = v0
      generalize v 1 = v1
      generalize v 3 = v3
      generalize v 4 = v4
      clear hv2 hv5
      simp only [Act.put, List.setIfInBounds_toArray, List.set_cons_zero, List.set_cons_succ]
      show wpList _ _ _ [_, _] _ _
      replace HW := kW HW hb
      replace Bs := hI (Bs.out.keep hb)
      replace Bt := hI (Bt.out.keep hb)
      replace Bu := hI (Bu.out.keep hb)
      replace HT := kT HT hb
      replace GA := kB GA hb
      replace ka := kH ka hb
      replace GB := kB GB hb
      replace kb := kH kb hb
      replace GC := kB GC hb
      replace kc := kH kc hb
      clear hb
      go_wp2_with (first | (with_reducible refine lG (.tmp 7) GA.out ?_) | (with_reducible refine lG (.tmp 8) GB.out ?_) | (with_reducible refine lG (.tmp 9) GC.out ?_))
      with_reducible refine (equalH _ _ _ _ _ false he.out ka.out kb.out).mono ?_
      rintro e w3 ⟨rfl, hb⟩
      replace HW := kW HW hb
      replace Bs := hI (Bs.out.keep hb)
      replace Bt := hI (Bt.out.keep hb)
      replace Bu := hI (Bu.out.keep hb)
      replace HT := kT HT hb
      replace GA := kB GA hb
      replace ka := kH ka hb
      replace GB := kB GB hb
      replace kb := kH kb hb
      replace GC := kB GC hb
      replace kc := kH kc hb
      clear hb
      go_wp2_with (first | (with_reducible refine lG (.tmp 7) GA.out ?_) | (with_reducible refine lG (.tmp 8) GB.out ?_) | (with_reducible refine lG (.tmp 9) GC.out ?_))
      go_ret
      exact ⟨rfl, HW.out⟩
end Go.Proofs.YtobjdkblpjmbjaaGreatDoor
