/- The walk of OrdinalParts. -/
import Derived.Test.YtobjdkblpjmbjaaGreatDoorG19
import Derived.Test.YtobjdkblpjmbjaaGreatDoorG45
namespace Go.Proofs.YtobjdkblpjmbjaaGreatDoor
open Go Go.RowKit
set_option linter.unusedVariables false

set_option maxHeartbeats 16000000 in
set_option maxRecDepth 100000 in
theorem ordinalParts_walk (s : Sd) (sc sd : Value) (r : Rw) (ra rb rc rd : Value) (w : World) (As : SdAt w (Has w) s [sc, sd]) (Ns : s.cnt ≤ 1048576) (hr : RawAt w (Has w) r [ra, rb, rc, rd]) (ht : Tab w) :
 Calls Tryz.prog 4 #[.agg #[sc, sd], .agg #[ra, rb, rc, rd]] w (RetB w true) := by
 have HT := hI ht
 have FW : Hid (∀ X, Below w.heap.size w X → Calls Tryz.prog 13 #[.slice (some ⟨X.heap.size, 0, none⟩) 1 1] (X.alloc (.cells #[sc, sd] 24)) (fun e w' => e = .returned (.bool (fewSd [s])) ∧ Below X.heap.size X w')) := fun X h => few1 s sc sd w X As Ns h
 have Ks : Hid (fewSd [s] = true → ∃ a : On, a.sm 45 3 84 ∧ ∀ X, Below w.heap.size w X → Calls Tryz.prog 15 #[.agg #[sc, sd]] X (RetH X a.ob)) := fun hf => madeK hf (by simp) As ht
 generalize fewSd [s] = fs at FW Ks
 have Rr := hI hr
 clear hr
 have CFr : Hid (∀ W', Below w.heap.size w W' → Calls Tryz.prog 14 #[.agg #[ra, rb, rc, rd], .int .i64 30] W' (fun e w' => e = .returned (.bool (few r 30)) ∧ Below W'.heap.size W' w')) := fun W' h => fewO r [ra, rb, rc, rd] 30 W' (Has w) (In.has w |>.later h.size) (Rr.out.below (In.has w) h) (by decide) (by decide)
 have KOr : Hid (few r 30 = true → ∀ W', Below w.heap.size w W' → Calls Tryz.prog 16 #[.agg #[ra, rb, rc, rd]] W' (RetX W' 200)) := fun hf W' h => by
  obtain ⟨hok, hcn⟩ := few_ok hf
  exact (objectO r [ra, rb, rc, rd] W' (Has w) (In.has w |>.later h.size) (Rr.out.below (In.has w) h) hok (HT.out.below h)).mono fun _ _ hr => hr.le (by omega)
 generalize few r 30 = fr at CFr KOr
 clear ht As Ns
 go_enter Tryz.func4, Tryz.ntmps4
 go_wp2_with fail
 have T := blk2 w (.cells #[sc, sd] 24) (.cells #[ra, rb, rc, rd] 27)
 generalize ((w.alloc (.cells #[sc, sd] 24)).alloc (.cells #[ra, rb, rc, rd] 27)) = W at T ⊢
 obtain ⟨TB, T0, T1⟩ := T
 have HW := hI TB
 have Bs : Hid (Sb W (w.heap.size) sc sd) := T0
 have Br : Hid (Rb W (w.heap.size + 1) ra rb rc rd) := T1
 replace HT := hI (HT.out.below TB)
 clear TB T0 T1
 with_reducible refine (firstO _ HT.out).mono ?_
 rintro e w1 ⟨rfl, hb⟩
 replace HW := kW HW hb
 replace Bs := hI (Bs.out.keep hb)
 replace Br := hI (Br.out.keep hb)
 replace HT := kT HT hb
 clear hb
 have cs0 := Bs.out.c0
 have cs1 := Bs.out.c1
 go_wp2_with fail
 clear cs0 cs1
 with_reducible refine (FW.out _ HW.out).mono ?_
 rintro e w2 ⟨rfl, hb⟩
 replace HW := kW HW hb
 replace Bs := hI (Bs.out.keep hb)
 replace Br := hI (Br.out.keep hb)
 replace HT := kT HT hb
 clear hb
 cases fs with
 | false =>
  go_wp2
  all_goals go_ret
  all_goals exact ⟨rfl, HW.out⟩
 | true =>
  obtain ⟨m0, m1, m2, m3⟩ := Br.out.c
  go_wp2_with fail
  clear m0 m1 m2 m3
  with_reducible refine (CFr.out _ HW.out).mono ?_
  rintro e w3 ⟨rfl, hb⟩
  replace HW := kW HW hb
  replace Bs := hI (Bs.out.keep hb)
  replace Br := hI (Br.out.keep hb)
  replace HT := kT HT hb
  clear hb
  cases fr with
  | false =>
   go_wp2
   all_goals go_ret
   all_goals exact ⟨rfl, HW.out⟩
  | true =>
   replace KOr := KOr.out (by simp)
   replace KOr := hI KOr
   obtain ⟨oa, sma, Ma⟩ := Ks.out (by simp)
   replace sma := hI sma
   replace Ma := hI Ma
   clear Ks
   go_wp2_with fail
   refine wp_region_grow (l := _) 6 (by kernel_rfl) (by kernel_rfl) (fun i => [21, 22, 23, 24, 5, 6].getD i 0) (LR [LV (.agg #[sc, sd]), LH (oa.ob), LV (.agg #[ra, rb, rc, rd]), LX 200, LBx, LBx]) (LR_mono ⟨mLV _, mLH _, mLV _, mLX _, mLBx, mLBx, trivial⟩) (by
    intro i j hi hj h
    exact inj_getD [21, 22, 23, 24, 5, 6] (by decide) i j hi hj h) (by
    intro i hi
    exact lt_getD 70 [21, 22, 23, 24, 5, 6] (by decide) i hi) ?step ?done
   case step =>
    intro i hi a w9 v lo hi' hoth hb hw
    have sl2 : a.tmps[2]? = some (.pointer (some ⟨w.heap.size, 0, none⟩)) := (hoth 2 (fun j hj => ne_getD 2 _ (by decide) j hj)).trans rfl
    have sl3 : a.tmps[3]? = some (.pointer (some ⟨w.heap.size + 1, 0, none⟩)) := (hoth 3 (fun j hj => ne_getD 3 _ (by decide) j hj)).trans rfl
    match i, hi with
    | 0, _ =>
     exact gr_seed rfl rfl (.tmp 2) rfl (eval_of sl2) (Bs.out.keep hb) ⟨_, rfl, Below.refl _ _, rfl⟩
    | 1, _ =>
     obtain ⟨s0, r0, _⟩ := hw 0 (by omega) (by kernel_rfl)
     have e0 : v 0 = .agg #[sc, sd] := r0
     rw [e0] at s0
     refine gr_t rfl rfl 15 21 _ _ rfl (fun v w => by go_simp) s0 ?_
     with_reducible refine (Ma.out w9 (chain2 HW.out hb (Nat.le_refl _))).mono ?_
     rintro e w3 ⟨p, rfl, hp, hb3⟩
     exact ⟨_, rfl, _, rfl, hb3, p, rfl, hp⟩
    | 2, _ =>
     exact gr_raw rfl rfl (.tmp 3) rfl (eval_of sl3) (Br.out.keep hb) ⟨_, rfl, Below.refl _ _, rfl⟩
    | 3, _ =>
     obtain ⟨s0, r0, _⟩ := hw 2 (by omega) (by kernel_rfl)
     have e0 : v 2 = .agg #[ra, rb, rc, rd] := r0
     rw [e0] at s0
     refine gr_t rfl rfl 16 23 _ _ rfl (fun v w => by go_simp) s0 ?_
     with_reducible refine (KOr.out w9 (chain2 HW.out hb (Nat.le_refl _))).mono ?_
     intro e w3 hx
     obtain ⟨ox, px, rfl, hp, hb3, hok⟩ := hx.h
     exact ⟨_, rfl, _, rfl, hb3, ox, px, rfl, hp, hok⟩
    | 4, _ =>
     exact grow_allocO rfl rfl rfl ⟨_, rfl, Below.alloc (Below.refl _ _) (Nat.le_refl _) _, rfl, heap_alloc_new _ _, by simp⟩
    | 5, _ =>
     exact grow_allocO rfl rfl rfl ⟨_, rfl, Below.alloc (Below.refl _ _) (Nat.le_refl _) _, rfl, heap_alloc_new _ _, by simp⟩
   case done =>
    intro a w9 v lo hi' hdef hsz hoth hb hj hap
    obtain ⟨_, ⟨pa, hv1, ka⟩, hlo1, hhi1⟩ := hj 1 (by omega)
    obtain ⟨_, ⟨ox, px, hv3, kx, okox⟩, hlo3, hhi3⟩ := hj 3 (by omega)
    obtain ⟨_, ⟨hv4, Z4, hlt4⟩, hlo4, hhi4⟩ := hj 4 (by omega)
    obtain ⟨_, ⟨hv5, Z5, hlt5⟩, hlo5, hhi5⟩ := hj 5 (by omega)
    have ha := eq_puts hdef hsz hoth (fun i hi => (hj i hi).1)
    subst ha
    clear hj hoth hdef hsz
    simp only [puts, List.getD_cons_zero, List.getD_cons_succ, hv1, hv3, hv4, hv5]
    generalize v 0 = v0
    generalize v 2 = v2
    clear hv1 hv3 hv4 hv5
    simp only [Act.put, List.setIfInBounds_toArray, List.set_cons_zero, List.set_cons_succ]
    show wpList _ _ _ [_, _] _ _
    have n01 := hap 4 5 (by omega) (by omega) (by decide)
    clear hap
    generalize lo 4 = g4 at *
    generalize hi' 4 = e4 at *
    generalize lo 5 = g5 at *
    generalize hi' 5 = e5 at *
    refine storeB (w1 := w9) (g := g4) (b := oa.ob) (p := pa) (.tmp 5) (.tmp 22) rfl rfl rfl rfl ka Z4 ?_
    refine storeB (w1 := w9) (g := g5) (b := ox) (p := px) (.tmp 6) (.tmp 24) rfl rfl rfl rfl kx (Z5.other (by omega)) ?_
    have P := Fill2.new hb Z4 ka hlo4 Z5 kx hlo5 (by omega)
    generalize (World.setRow (World.setRow w9 g4 (cellsO (oa.ob) pa).toArray) g5 (cellsO (ox) px).toArray) = XM at P ⊢
    clear hb ka Z4 kx Z5
    have hb := P.bel
    replace HW := kW HW hb
    replace Bs := hI (Bs.out.keep hb)
    replace Br := hI (Br.out.keep hb)
    replace HT := kT HT hb
    have GA := hI P.b0
    have ka := hI P.k0
    have GX := hI P.b1
    have kx := hI P.k1
    clear hb P
    have bA := hI (On.ob_bd sma.out.bd (show 84 ≤ 1000000000 by omega))
    have nA : Hid (oa.ob.nodes ≤ 3000) := by
     have := sma.out.nd
     show _ ≤ _
     rw [On.nd_ob]
     omega
    have bX := hI (Ob.bd_more (show 20 ≤ 90 by omega) okox.1)
    have nX := hI (Nat.le_trans okox.2 (show 200 ≤ 3000 by omega))
    clear okox
    obtain ⟨mE, hmE⟩ : ∃ m : Option Ob, m = (ordOf ox).map (fun a => a.exp.ob) := ⟨_, rfl⟩
    have XE : Hid (∀ X, Hd X ox px → Tab X → Calls Tryz.prog 25 #[vO ox px] X (RetOZ X mE)) := fun X h1 h2 => by rw [hmE]; exact expoH ox px X bX.out nX.out h1 h2
    have YE : Hid (∀ X, Hd X ox px → Tab X → Calls Tryz.prog 26 #[vO ox px] X (RetOZ X mE)) := fun X h1 h2 => by rw [hmE]; exact expoR ox px X bX.out nX.out h1 h2
    obtain ⟨mC, hmC⟩ : ∃ m : Option Ob, m = (ordOf ox).map (fun a => .num (a.coef : Rat)) := ⟨_, rfl⟩
    have XC : Hid (∀ X, Hd X ox px → Tab X → Calls Tryz.prog 27 #[vO ox px] X (RetOZ X mC)) := fun X h1 h2 => by rw [hmC]; exact coefH ox px X bX.out nX.out h1 h2
    have YC : Hid (∀ X, Hd X ox px → Tab X → Calls Tryz.prog 28 #[vO ox px] X (RetOZ X mC)) := fun X h1 h2 => by rw [hmC]; exact coefR ox px X bX.out nX.out h1 h2
    obtain ⟨mR, hmR⟩ : ∃ m : Option Ob, m = (ordOf ox).map (fun a => a.rest.ob) := ⟨_, rfl⟩
    have XR : Hid (∀ X, Hd X ox px → Tab X → Calls Tryz.prog 29 #[vO ox px] X (RetOZ X mR)) := fun X h1 h2 => by rw [hmR]; exact restH ox px X bX.out nX.out h1 h2
    have YR : Hid (∀ X, Hd X ox px → Tab X → Calls Tryz.prog 30 #[vO ox px] X (RetOZ X mR)) := fun X h1 h2 => by rw [hmR]; exact restR ox px X bX.out nX.out h1 h2
    have AE : Hid (∀ X, Hd X oa.ob pa → Tab X → Calls Tryz.prog 25 #[vO oa.ob pa] X (RetH X oa.exp.ob)) := fun X h1 h2 => by
     have h := expoH oa.ob pa X bA.out nA.out h1 h2
     rw [ordOf_ob sma.out.nf] at h
     exact h
    have AC : Hid (∀ X, Hd X oa.ob pa → Tab X → Calls Tryz.prog 27 #[vO oa.ob pa] X (RetH X (.num (oa.coef : Rat)))) := fun X h1 h2 => by
     have h := coefH oa.ob pa X bA.out nA.out h1 h2
     rw [ordOf_ob sma.out.nf] at h
     exact h
    have AR : Hid (∀ X, Hd X oa.ob pa → Tab X → Calls Tryz.prog 29 #[vO oa.ob pa] X (RetH X oa.rest.ob)) := fun X h1 h2 => by
     have h := restH oa.ob pa X bA.out nA.out h1 h2
     rw [ordOf_ob sma.out.nf] at h
     exact h
    have bP : Hid (Ob.bd 90 (.cons (.cons oa.exp.ob (.num (oa.coef : Rat))) oa.rest.ob)) := partsBd sma.out.bd
    have nP : Hid (Ob.nodes (.cons (.cons oa.exp.ob (.num (oa.coef : Rat))) oa.rest.ob) ≤ 3000) := partsNd sma.out.nd
    clear bX nX hmE hmC hmR
    go_wp2_with (first | (with_reducible refine lG (.tmp 5) GA.out ?_) | (with_reducible refine lG (.tmp 6) GX.out ?_))
    refine wp_region_grow (l := _) 19 (by kernel_rfl) (by kernel_rfl) (fun i => [25, 26, 27, 28, 29, 30, 31, 32, 33, 34, 35, 36, 37, 38, 39, 40, 41, 42, 43].getD i 0) (LR [LV (vO (ox) px), LZ (mE), LV (vO (ox) px), LZ (mE), LV (.bool true), LV (.bool true), LV (vO (ox) px), LZ (mC), LV (vO (ox) px), LZ (mC), LV (.bool true), LV (.bool true), LV (.bool true), LV (vO (ox) px), LZ (mR), LV (vO (ox) px), LZ (mR), LV (.bool true), LV (.bool true)]) (LR_mono ⟨mLV _, mLZ _, mLV _, mLZ _, mLV _, mLV _, mLV _, mLZ _, mLV _, mLZ _, mLV _, mLV _, mLV _, mLV _, mLZ _, mLV _, mLZ _, mLV _, mLV _, trivial⟩) (by
     intro i j hi hj h
     exact inj_getD [25, 26, 27, 28, 29, 30, 31, 32, 33, 34, 35, 36, 37, 38, 39, 40, 41, 42, 43] (by decide) i j hi hj h) (by
     intro i hi
     exact lt_getD 70 [25, 26, 27, 28, 29, 30, 31, 32, 33, 34, 35, 36, 37, 38, 39, 40, 41, 42, 43] (by decide) i hi) ?step ?done
    case step =>
     intro i hi a w9 v lo hi' hoth hb hw
     have sl6 : a.tmps[6]? = some (.pointer (some ⟨g5, 0, none⟩)) := (hoth 6 (fun j hj => ne_getD 6 _ (by decide) j hj)).trans rfl
     match i, hi with
     | 0, _ =>
      exact gw_box rfl (wanted_plain rfl) (.tmp 6) rfl (eval_of sl6) (GX.out.keep hb) ⟨_, rfl, Below.refl _ _, rfl⟩
     | 1, _ =>
      obtain ⟨s0, r0, _⟩ := hw 0 (by omega) (by kernel_rfl)
      have e0 : v 0 = vO (ox) px := r0
      rw [e0] at s0
      refine gw_t rfl (wanted_plain rfl) 25 25 _ _ rfl (fun v w => by go_simp) s0 ?_
      with_reducible refine (XE.out w9 (kx.out.below hb) (HT.out.below hb)).mono ?_
      intro e w3 hz
      obtain ⟨u3, rfl, hz3, hb3⟩ := RetOZ.lz hz
      exact ⟨_, rfl, _, rfl, hb3, hz3 w9.heap.size w3.heap.size⟩
     | 2, _ =>
      exact gw_box rfl (wanted_plain rfl) (.tmp 6) rfl (eval_of sl6) (GX.out.keep hb) ⟨_, rfl, Below.refl _ _, rfl⟩
     | 3, _ =>
      obtain ⟨s0, r0, _⟩ := hw 2 (by omega) (by kernel_rfl)
      have e0 : v 2 = vO (ox) px := r0
      rw [e0] at s0
      refine gw_t rfl (wanted_plain rfl) 26 27 _ _ rfl (fun v w => by go_simp) s0 ?_
      with_reducible refine (YE.out w9 (kx.out.below hb) (HT.out.below hb)).mono ?_
      intro e w3 hz
      obtain ⟨u3, rfl, hz3, hb3⟩ := RetOZ.lz hz
      exact ⟨_, rfl, _, rfl, hb3, hz3 w9.heap.size w3.heap.size⟩
     | 4, _ =>
      obtain ⟨s0, r0, _⟩ := hw 1 (by omega) (by kernel_rfl)
      have e0 : LZ (mE) (v 1) (lo 1) (hi' 1) w9 := r0
      obtain ⟨s1, r1, _⟩ := hw 3 (by omega) (by kernel_rfl)
      have e1 : LZ (mE) (v 3) (lo 3) (hi' 3) w9 := r1
      refine gw_tt rfl (wanted_plain rfl) 24 26 28 _ _ _ rfl (fun v u w => by go_simp) s0 s1 ?_
      with_reducible refine (equalLZ (w := w9) e0 e1).mono ?_
      rintro e w3 ⟨rfl, hb3⟩
      exact ⟨_, rfl, _, rfl, hb3, rfl⟩
     | 5, _ =>
      obtain ⟨s0, r0, _⟩ := hw 4 (by omega) (by kernel_rfl)
      have e0 : v 4 = .bool true := r0
      rw [e0] at s0
      exact gw_move rfl (wanted_plain rfl) 29 _ rfl s0 ⟨_, rfl, Below.refl _ _, rfl⟩
     | 6, _ =>
      obtain ⟨s9, r9, _⟩ := hw 5 (by omega) (by kernel_rfl)
      have e9 : v 5 = .bool true := r9
      rw [e9] at s9
      exact gw_box rfl (wanted_on rfl rfl rfl s9 rfl) (.tmp 6) rfl (eval_of sl6) (GX.out.keep hb) ⟨_, rfl, Below.refl _ _, rfl⟩
     | 7, _ =>
      obtain ⟨s9, r9, _⟩ := hw 5 (by omega) (by kernel_rfl)
      have e9 : v 5 = .bool true := r9
      rw [e9] at s9
      obtain ⟨s0, r0, _⟩ := hw 6 (by omega) (by kernel_rfl)
      have e0 : v 6 = vO (ox) px := r0
      rw [e0] at s0
      refine gw_t rfl (wanted_on rfl rfl rfl s9 rfl) 27 31 _ _ rfl (fun v w => by go_simp) s0 ?_
      with_reducible refine (XC.out w9 (kx.out.below hb) (HT.out.below hb)).mono ?_
      intro e w3 hz
      obtain ⟨u3, rfl, hz3, hb3⟩ := RetOZ.lz hz
      exact ⟨_, rfl, _, rfl, hb3, hz3 w9.heap.size w3.heap.size⟩
     | 8, _ =>
      obtain ⟨s9, r9, _⟩ := hw 5 (by omega) (by kernel_rfl)
      have e9 : v 5 = .bool true := r9
      rw [e9] at s9
      exact gw_box rfl (wanted_on rfl rfl rfl s9 rfl) (.tmp 6) rfl (eval_of sl6) (GX.out.keep hb) ⟨_, rfl, Below.refl _ _, rfl⟩
     | 9, _ =>
      obtain ⟨s9, r9, _⟩ := hw 5 (by omega) (by kernel_rfl)
      have e9 : v 5 = .bool true := r9
      rw [e9] at s9
      obtain ⟨s0, r0, _⟩ := hw 8 (by omega) (by kernel_rfl)
      have e0 : v 8 = vO (ox) px := r0
      rw [e0] at s0
      refine gw_t rfl (wanted_on rfl rfl rfl s9 rfl) 28 33 _ _ rfl (fun v w => by go_simp) s0 ?_
      with_reducible refine (YC.out w9 (kx.out.below hb) (HT.out.below hb)).mono ?_
      intro e w3 hz
      obtain ⟨u3, rfl, hz3, hb3⟩ := RetOZ.lz hz
      exact ⟨_, rfl, _, rfl, hb3, hz3 w9.heap.size w3.heap.size⟩
     | 10, _ =>
      obtain ⟨s9, r9, _⟩ := hw 5 (by omega) (by kernel_rfl)
      have e9 : v 5 = .bool true := r9
      rw [e9] at s9
      obtain ⟨s0, r0, _⟩ := hw 7 (by omega) (by kernel_rfl)
      have e0 : LZ (mC) (v 7) (lo 7) (hi' 7) w9 := r0
      obtain ⟨s1, r1, _⟩ := hw 9 (by omega) (by kernel_rfl)
      have e1 : LZ (mC) (v 9) (lo 9) (hi' 9) w9 := r1
      refine gw_tt rfl (wanted_on rfl rfl rfl s9 rfl) 24 32 34 _ _ _ rfl (fun v u w => by go_simp) s0 s1 ?_
      with_reducible refine (equalLZ (w := w9) e0 e1).mono ?_
      rintro e w3 ⟨rfl, hb3⟩
      exact ⟨_, rfl, _, rfl, hb3, rfl⟩
     | 11, _ =>
      obtain ⟨s0, r0, _⟩ := hw 5 (by omega) (by kernel_rfl)
      have e0 : v 5 = .bool true := r0
      rw [e0] at s0
      obtain ⟨s1, r1, _⟩ := hw 10 (by omega) (by kernel_rfl)
      have e1 : v 10 = .bool true := r1
      rw [e1] at s1
      exact gw_pickT rfl (wanted_plain rfl) 30 35 _ _ rfl s0 s1 ⟨_, rfl, Below.refl _ _, rfl⟩
     | 12, _ =>
      obtain ⟨s0, r0, _⟩ := hw 11 (by omega) (by kernel_rfl)
      have e0 : v 11 = .bool true := r0
      rw [e0] at s0
      exact gw_move rfl (wanted_plain rfl) 36 _ rfl s0 ⟨_, rfl, Below.refl _ _, rfl⟩
     | 13, _ =>
      obtain ⟨s9, r9, _⟩ := hw 12 (by omega) (by kernel_rfl)
      have e9 : v 12 = .bool true := r9
      rw [e9] at s9
      exact gw_box rfl (wanted_on rfl rfl rfl s9 rfl) (.tmp 6) rfl (eval_of sl6) (GX.out.keep hb) ⟨_, rfl, Below.refl _ _, rfl⟩
     | 14, _ =>
      obtain ⟨s9, r9, _⟩ := hw 12 (by omega) (by kernel_rfl)
      have e9 : v 12 = .bool true := r9
      rw [e9] at s9
      obtain ⟨s0, r0, _⟩ := hw 13 (by omega) (by kernel_rfl)
      have e0 : v 13 = vO (ox) px := r0
      rw [e0] at s0
      refine gw_t rfl (wanted_on rfl rfl rfl s9 rfl) 29 38 _ _ rfl (fun v w => by go_simp) s0 ?_
      with_reducible refine (XR.out w9 (kx.out.below hb) (HT.out.below hb)).mono ?_
      intro e w3 hz
      obtain ⟨u3, rfl, hz3, hb3⟩ := RetOZ.lz hz
      exact ⟨_, rfl, _, rfl, hb3, hz3 w9.heap.size w3.heap.size⟩
     | 15, _ =>
      obtain ⟨s9, r9, _⟩ := hw 12 (by omega) (by kernel_rfl)
      have e9 : v 12 = .bool true := r9
      rw [e9] at s9
      exact gw_box rfl (wanted_on rfl rfl rfl s9 rfl) (.tmp 6) rfl (eval_of sl6) (GX.out.keep hb) ⟨_, rfl, Below.refl _ _, rfl⟩
     | 16, _ =>
      obtain ⟨s9, r9, _⟩ := hw 12 (by omega) (by kernel_rfl)
      have e9 : v 12 = .bool true := r9
      rw [e9] at s9
      obtain ⟨s0, r0, _⟩ := hw 15 (by omega) (by kernel_rfl)
      have e0 : v 15 = vO (ox) px := r0
      rw [e0] at s0
      refine gw_t rfl (wanted_on rfl rfl rfl s9 rfl) 30 40 _ _ rfl (fun v w => by go_simp) s0 ?_
      with_reducible refine (YR.out w9 (kx.out.below hb) (HT.out.below hb)).mono ?_
      intro e w3 hz
      obtain ⟨u3, rfl, hz3, hb3⟩ := RetOZ.lz hz
      exact ⟨_, rfl, _, rfl, hb3, hz3 w9.heap.size w3.heap.size⟩
     | 17, _ =>
      obtain ⟨s9, r9, _⟩ := hw 12 (by omega) (by kernel_rfl)
      have e9 : v 12 = .bool true := r9
      rw [e9] at s9
      obtain ⟨s0, r0, _⟩ := hw 14 (by omega) (by kernel_rfl)
      have e0 : LZ (mR) (v 14) (lo 14) (hi' 14) w9 := r0
      obtain ⟨s1, r1, _⟩ := hw 16 (by omega) (by kernel_rfl)
      have e1 : LZ (mR) (v 16) (lo 16) (hi' 16) w9 := r1
      refine gw_tt rfl (wanted_on rfl rfl rfl s9 rfl) 24 39 41 _ _ _ rfl (fun v u w => by go_simp) s0 s1 ?_
      with_reducible refine (equalLZ (w := w9) e0 e1).mono ?_
      rintro e w3 ⟨rfl, hb3⟩
      exact ⟨_, rfl, _, rfl, hb3, rfl⟩
     | 18, _ =>
      obtain ⟨s0, r0, _⟩ := hw 12 (by omega) (by kernel_rfl)
      have e0 : v 12 = .bool true := r0
      rw [e0] at s0
      obtain ⟨s1, r1, _⟩ := hw 17 (by omega) (by kernel_rfl)
      have e1 : v 17 = .bool true := r1
      rw [e1] at s1
      exact gw_pickT rfl (wanted_plain rfl) 37 42 _ _ rfl s0 s1 ⟨_, rfl, Below.refl _ _, rfl⟩
     | k + 19, h => exact absurd h (by omega)
    case done =>
     intro a w9 v lo hi' hdef hsz hoth hb hj hap
     obtain ⟨_, hv18, _, _⟩ := hj 18 (by omega)
     have ha := eq_puts hdef hsz hoth (fun i hi => (hj i hi).1)
     subst ha
     clear hj hoth hdef hsz hap
     change v 18 = _ at hv18
     simp only [puts, List.getD_cons_zero, List.getD_cons_succ, hv18]
     generalize v 0 = v0
     generalize v 1 = v1
     generalize v 2 = v2
     generalize v 3 = v3
     generalize v 4 = v4
     generalize v 5 = v5
     generalize v 6 = v6
     generalize v 7 = v7
     generalize v 8 = v8
     generalize v 9 = v9
     generalize v 10 = v10
     generalize v 11 = v11
     generalize v 12 = v12
     generalize v 13 = v13
     generalize v 14 = v14
     generalize v 15 = v15
     generalize v 16 = v16
     generalize v 17 = v17
     clear hv18
     simp only [Act.put, List.setIfInBounds_toArray, List.set_cons_zero, List.set_cons_succ]
     show wpList _ _ _ [_] _ _
     replace HW := kW HW hb
     replace Bs := hI (Bs.out.keep hb)
     replace Br := hI (Br.out.keep hb)
     replace HT := kT HT hb
     replace GA := kB GA hb
     replace ka := kH ka hb
     replace GX := kB GX hb
     replace kx := kH kx hb
     clear hb
     go_wp2_with (first | (with_reducible refine lG (.tmp 5) GA.out ?_) | (with_reducible refine lG (.tmp 6) GX.out ?_))
     cases hi : oa.ob.nat.isSome with
     | true =>
      have CP : Hid (∀ X pe pc pr, Hd X oa.exp.ob pe → Hd X (.num (oa.coef : Rat)) pc → Hd X oa.rest.ob pr → Tab X → Calls Tryz.prog 31 #[vO oa.exp.ob pe, vO (.num (oa.coef : Rat)) pc, vO oa.rest.ob pr] X (fun e w' => e = .returned (.tuple #[.agg zeroC, .bool false]) ∧ Below X.heap.size X w')) := fun X pe pc pr h1 h2 h3 h4 => by
       have h := powerH oa.exp.ob (.num (oa.coef : Rat)) oa.rest.ob pe pc pr X bP.out nP.out h1 h2 h3 h4
       rw [partsFinB hi] at h
       exact h
      have HF : Hid (∀ X, Hd X oa.ob pa → Tab X → Calls Tryz.prog 22 #[vO oa.ob pa] X (RetB X true)) := fun X h1 h2 => by
       have h := finiteH2 oa.ob pa X bA.out nA.out h1 h2
       rw [hi] at h
       exact h
      clear hi
      refine wp_region_growZ (l := _) 11 (by kernel_rfl) (by kernel_rfl) (fun i => [45, 46, 47, 48, 49, 50, 51, 44, 52, 53, 8].getD i 0) (LR [LV (vO (oa.ob) pa), LH (oa.exp.ob), LV (vO (oa.ob) pa), LH ((.num (oa.coef : Rat))), LV (vO (oa.ob) pa), LH (oa.rest.ob), LV (.tuple #[.agg zeroC, .bool false]), LV (.tuple #[.agg zeroC, .bool false]), LV (.agg zeroC), LV (.bool false), LBx]) (LR_mono ⟨mLV _, mLH _, mLV _, mLH _, mLV _, mLH _, mLV _, mLV _, mLV _, mLV _, mLBx, trivial⟩) (by
       intro i j hi hj h
       exact inj_getD [45, 46, 47, 48, 49, 50, 51, 44, 52, 53, 8] (by decide) i j hi hj h) (by
       intro i hi
       exact lt_getD 70 [45, 46, 47, 48, 49, 50, 51, 44, 52, 53, 8] (by decide) i hi) [9] (by kernel_rfl) 10 8 (by omega) (by omega) (by kernel_rfl) (by kernel_rfl) _ rfl rfl rfl rfl
       (fun _ _ _ _ h => h) (fun _ _ _ _ h => h) ?step ?stepL ?done
      case step =>
       intro i hi a w9 v lo hi' hoth hb hw
       have sl5 : a.tmps[5]? = some (.pointer (some ⟨g4, 0, none⟩)) := (hoth 5 (fun j hj => ne_getD 5 _ (by decide) j hj)).trans rfl
       match i, hi with
       | 0, _ =>
        exact gr_box rfl rfl (.tmp 5) rfl (eval_of sl5) (GA.out.keep hb) ⟨_, rfl, Below.refl _ _, rfl⟩
       | 1, _ =>
        obtain ⟨s0, r0, _⟩ := hw 0 (by omega) (by kernel_rfl)
        have e0 : v 0 = vO (oa.ob) pa := r0
        rw [e0] at s0
        refine gr_t rfl rfl 25 45 _ _ rfl (fun v w => by go_simp) s0 ?_
        with_reducible refine (AE.out w9 (ka.out.below hb) (HT.out.below hb)).mono ?_
        rintro e w3 ⟨p, rfl, hp, hb3⟩
        exact ⟨_, rfl, _, rfl, hb3, p, rfl, hp⟩
       | 2, _ =>
        exact gr_box rfl rfl (.tmp 5) rfl (eval_of sl5) (GA.out.keep hb) ⟨_, rfl, Below.refl _ _, rfl⟩
       | 3, _ =>
        obtain ⟨s0, r0, _⟩ := hw 2 (by omega) (by kernel_rfl)
        have e0 : v 2 = vO (oa.ob) pa := r0
        rw [e0] at s0
        refine gr_t rfl rfl 27 47 _ _ rfl (fun v w => by go_simp) s0 ?_
        with_reducible refine (AC.out w9 (ka.out.below hb) (HT.out.below hb)).mono ?_
        rintro e w3 ⟨p, rfl, hp, hb3⟩
        exact ⟨_, rfl, _, rfl, hb3, p, rfl, hp⟩
       | 4, _ =>
        exact gr_box rfl rfl (.tmp 5) rfl (eval_of sl5) (GA.out.keep hb) ⟨_, rfl, Below.refl _ _, rfl⟩
       | 5, _ =>
        obtain ⟨s0, r0, _⟩ := hw 4 (by omega) (by kernel_rfl)
        have e0 : v 4 = vO (oa.ob) pa := r0
        rw [e0] at s0
        refine gr_t rfl rfl 29 49 _ _ rfl (fun v w => by go_simp) s0 ?_
        with_reducible refine (AR.out w9 (ka.out.below hb) (HT.out.below hb)).mono ?_
        rintro e w3 ⟨p, rfl, hp, hb3⟩
        exact ⟨_, rfl, _, rfl, hb3, p, rfl, hp⟩
       | 6, _ =>
        obtain ⟨s0, r0, _⟩ := hw 1 (by omega) (by kernel_rfl)
        obtain ⟨q0, e0, k0⟩ : LH oa.exp.ob (v 1) (lo 1) (hi' 1) w9 := r0
        rw [e0] at s0
        obtain ⟨s1, r1, _⟩ := hw 3 (by omega) (by kernel_rfl)
        obtain ⟨q1, e1, k1⟩ : LH (.num (oa.coef : Rat)) (v 3) (lo 3) (hi' 3) w9 := r1
        rw [e1] at s1
        obtain ⟨s2, r2, _⟩ := hw 5 (by omega) (by kernel_rfl)
        obtain ⟨q2, e2, k2⟩ : LH oa.rest.ob (v 5) (lo 5) (hi' 5) w9 := r2
        rw [e2] at s2
        refine gr_ttt rfl rfl 31 46 48 50 _ _ _ _ rfl (fun v u x w => by go_simp) s0 s1 s2 ?_
        with_reducible refine (CP.out w9 _ _ _ k0 k1 k2 (HT.out.below hb)).mono ?_
        rintro e w3 ⟨rfl, hb3⟩
        exact ⟨_, rfl, _, rfl, hb3, rfl⟩
       | 7, _ =>
        obtain ⟨s0, r0, _⟩ := hw 6 (by omega) (by kernel_rfl)
        have e0 : v 6 = .tuple #[.agg zeroC, .bool false] := r0
        rw [e0] at s0
        exact gr_move rfl rfl 51 _ rfl s0 ⟨_, rfl, Below.refl _ _, rfl⟩
       | 8, _ =>
        obtain ⟨s0, r0, _⟩ := hw 7 (by omega) (by kernel_rfl)
        have e0 : v 7 = .tuple #[.agg zeroC, .bool false] := r0
        rw [e0] at s0
        exact gr_ext2 rfl rfl 44 _ _ rfl s0 ⟨_, rfl, Below.refl _ _, rfl⟩
       | 9, _ =>
        obtain ⟨s0, r0, _⟩ := hw 7 (by omega) (by kernel_rfl)
        have e0 : v 7 = .tuple #[.agg zeroC, .bool false] := r0
        rw [e0] at s0
        exact gr_ext2' rfl rfl 44 _ _ rfl s0 ⟨_, rfl, Below.refl _ _, rfl⟩
       | 10, _ =>
        exact grow_allocO rfl rfl rfl ⟨_, rfl, Below.alloc (Below.refl _ _) (Nat.le_refl _) _, rfl, heap_alloc_new _ _, by simp⟩
      case stepL =>
       intro i hi hl a w1 w9 v lo hi' hw
       match i, hi with
       | 0, _ => exact absurd hl (by decide)
       | 1, _ => exact absurd hl (by decide)
       | 2, _ => exact absurd hl (by decide)
       | 3, _ => exact absurd hl (by decide)
       | 4, _ => exact absurd hl (by decide)
       | 5, _ => exact absurd hl (by decide)
       | 6, _ => exact absurd hl (by decide)
       | 7, _ => exact absurd hl (by decide)
       | 8, _ => exact absurd hl (by decide)
       | 9, _ =>
        obtain ⟨s0, r0⟩ := hw 7 (by omega) (by kernel_rfl)
        have e0 : v 7 = .tuple #[.agg zeroC, .bool false] := r0
        rw [e0] at s0
        exact gr_ext2' rfl rfl 44 _ _ rfl s0 ⟨_, rfl, rfl, rfl⟩
       | 10, _ => exact absurd hl (by decide)
      case done =>
       intro a w9 v lo hi' hdef hsz hoth hb hj hap hv8 hv10 B10
       obtain ⟨_, _, hlo10, _⟩ := hj 10 (by omega)
       obtain ⟨_, hv9, _, _⟩ := hj 9 (by omega)
       change v 9 = _ at hv9
       have ha := eq_puts hdef hsz hoth (fun i hi => (hj i hi).1)
       subst ha
       clear hj hoth hdef hsz hap
       have hX := below_setRowO hb hlo10 zeroC
       have bX := Bx.set (y := zeroC) B10
       generalize World.setRow w9 (lo 10) zeroC = XZ at hX bX ⊢
       clear hb B10
       simp only [puts, List.getD_cons_zero, List.getD_cons_succ, hv8, hv10, hv9]
       generalize v 0 = v0
       generalize v 1 = v1
       generalize v 2 = v2
       generalize v 3 = v3
       generalize v 4 = v4
       generalize v 5 = v5
       generalize v 6 = v6
       generalize v 7 = v7
       clear hv8 hv10 hv9
       generalize lo 10 = g10 at *
       simp only [Act.put, List.setIfInBounds_toArray, List.set_cons_zero, List.set_cons_succ]
       show wpList _ _ _ [_] _ _
       have hb := hX
       clear hX
       replace HW := kW HW hb
       replace Bs := hI (Bs.out.keep hb)
       replace Br := hI (Br.out.keep hb)
       replace HT := kT HT hb
       replace GA := kB GA hb
       replace ka := kH ka hb
       replace GX := kB GX hb
       replace kx := kH kx hb
       have Z8 := hI bX
       clear hb bX
       go_wp2_with (first | (with_reducible refine lG (.tmp 5) GA.out ?_) | (with_reducible refine lG (.tmp 6) GX.out ?_))
       with_reducible refine (HF.out _ ka.out HT.out).mono ?_
       rintro e w4 ⟨rfl, hb⟩
       replace HW := kW HW hb
       replace Bs := hI (Bs.out.keep hb)
       replace Br := hI (Br.out.keep hb)
       replace HT := kT HT hb
       replace GA := kB GA hb
       replace ka := kH ka hb
       replace GX := kB GX hb
       replace kx := kH kx hb
       replace Z8 := kB Z8 hb
       clear hb
       go_wp2_with (first | (with_reducible refine lG (.tmp 5) GA.out ?_) | (with_reducible refine lG (.tmp 6) GX.out ?_))
       go_ret
       exact ⟨rfl, HW.out⟩
     | false =>
      have CP : Hid (∀ X pe pc pr, Hd X oa.exp.ob pe → Hd X (.num (oa.coef : Rat)) pc → Hd X oa.rest.ob pr → Tab X → Calls Tryz.prog 31 #[vO oa.exp.ob pe, vO (.num (oa.coef : Rat)) pc, vO oa.rest.ob pr] X (RetHB X oa.ob true)) := fun X pe pc pr h1 h2 h3 h4 => by
       have h := powerH oa.exp.ob (.num (oa.coef : Rat)) oa.rest.ob pe pc pr X bP.out nP.out h1 h2 h3 h4
       rw [partsInfB hi, ordOf_ob sma.out.nf] at h
       exact h
      have HF : Hid (∀ X, Hd X oa.ob pa → Tab X → Calls Tryz.prog 22 #[vO oa.ob pa] X (RetB X false)) := fun X h1 h2 => by
       have h := finiteH2 oa.ob pa X bA.out nA.out h1 h2
       rw [hi] at h
       exact h
      clear hi
      refine wp_region_growS (l := _) 11 (by kernel_rfl) (by kernel_rfl) (fun i => [45, 46, 47, 48, 49, 50, 51, 44, 52, 53, 8].getD i 0) (LR [LV (vO (oa.ob) pa), LH (oa.exp.ob), LV (vO (oa.ob) pa), LH ((.num (oa.coef : Rat))), LV (vO (oa.ob) pa), LH (oa.rest.ob), LHB (oa.ob) true, LHB (oa.ob) true, LH (oa.ob), LV (.bool true), LBx]) (LR_mono ⟨mLV _, mLH _, mLV _, mLH _, mLV _, mLH _, mLHB _ _, mLHB _ _, mLH _, mLV _, mLBx, trivial⟩) (by
       intro i j hi hj h
       exact inj_getD [45, 46, 47, 48, 49, 50, 51, 44, 52, 53, 8] (by decide) i j hi hj h) (by
       intro i hi
       exact lt_getD 70 [45, 46, 47, 48, 49, 50, 51, 44, 52, 53, 8] (by decide) i hi) [9] (by kernel_rfl) 10 8 (by omega) (by omega) (by kernel_rfl) (by kernel_rfl) _ rfl rfl rfl rfl
       (fun _ _ _ _ h => h) (oa.ob) (fun _ _ _ _ h => h) ?step ?stepL ?done
      case step =>
       intro i hi a w9 v lo hi' hoth hb hw
       have sl5 : a.tmps[5]? = some (.pointer (some ⟨g4, 0, none⟩)) := (hoth 5 (fun j hj => ne_getD 5 _ (by decide) j hj)).trans rfl
       match i, hi with
       | 0, _ =>
        exact gr_box rfl rfl (.tmp 5) rfl (eval_of sl5) (GA.out.keep hb) ⟨_, rfl, Below.refl _ _, rfl⟩
       | 1, _ =>
        obtain ⟨s0, r0, _⟩ := hw 0 (by omega) (by kernel_rfl)
        have e0 : v 0 = vO (oa.ob) pa := r0
        rw [e0] at s0
        refine gr_t rfl rfl 25 45 _ _ rfl (fun v w => by go_simp) s0 ?_
        with_reducible refine (AE.out w9 (ka.out.below hb) (HT.out.below hb)).mono ?_
        rintro e w3 ⟨p, rfl, hp, hb3⟩
        exact ⟨_, rfl, _, rfl, hb3, p, rfl, hp⟩
       | 2, _ =>
        exact gr_box rfl rfl (.tmp 5) rfl (eval_of sl5) (GA.out.keep hb) ⟨_, rfl, Below.refl _ _, rfl⟩
       | 3, _ =>
        obtain ⟨s0, r0, _⟩ := hw 2 (by omega) (by kernel_rfl)
        have e0 : v 2 = vO (oa.ob) pa := r0
        rw [e0] at s0
        refine gr_t rfl rfl 27 47 _ _ rfl (fun v w => by go_simp) s0 ?_
        with_reducible refine (AC.out w9 (ka.out.below hb) (HT.out.below hb)).mono ?_
        rintro e w3 ⟨p, rfl, hp, hb3⟩
        exact ⟨_, rfl, _, rfl, hb3, p, rfl, hp⟩
       | 4, _ =>
        exact gr_box rfl rfl (.tmp 5) rfl (eval_of sl5) (GA.out.keep hb) ⟨_, rfl, Below.refl _ _, rfl⟩
       | 5, _ =>
        obtain ⟨s0, r0, _⟩ := hw 4 (by omega) (by kernel_rfl)
        have e0 : v 4 = vO (oa.ob) pa := r0
        rw [e0] at s0
        refine gr_t rfl rfl 29 49 _ _ rfl (fun v w => by go_simp) s0 ?_
        with_reducible refine (AR.out w9 (ka.out.below hb) (HT.out.below hb)).mono ?_
        rintro e w3 ⟨p, rfl, hp, hb3⟩
        exact ⟨_, rfl, _, rfl, hb3, p, rfl, hp⟩
       | 6, _ =>
        obtain ⟨s0, r0, _⟩ := hw 1 (by omega) (by kernel_rfl)
        obtain ⟨q0, e0, k0⟩ : LH (oa.exp.ob) (v 1) (lo 1) (hi' 1) w9 := r0
        rw [e0] at s0
        obtain ⟨s1, r1, _⟩ := hw 3 (by omega) (by kernel_rfl)
        obtain ⟨q1, e1, k1⟩ : LH ((.num (oa.coef : Rat))) (v 3) (lo 3) (hi' 3) w9 := r1
        rw [e1] at s1
        obtain ⟨s2, r2, _⟩ := hw 5 (by omega) (by kernel_rfl)
        obtain ⟨q2, e2, k2⟩ : LH (oa.rest.ob) (v 5) (lo 5) (hi' 5) w9 := r2
        rw [e2] at s2
        refine gr_ttt rfl rfl 31 46 48 50 _ _ _ _ rfl (fun v u x w => by go_simp) s0 s1 s2 ?_
        with_reducible refine (CP.out w9 q0 q1 q2 k0 k1 k2 (HT.out.below hb)).mono ?_
        rintro e w3 ⟨p, rfl, hp, hb3⟩
        exact ⟨_, rfl, _, rfl, hb3, p, rfl, hp⟩
       | 7, _ =>
        obtain ⟨s0, r0, _⟩ := hw 6 (by omega) (by kernel_rfl)
        obtain ⟨q0, e0, k0⟩ : LHB (oa.ob) true (v 6) (lo 6) (hi' 6) w9 := r0
        rw [e0] at s0
        exact gr_move rfl rfl 51 _ rfl s0 ⟨_, rfl, Below.refl _ _, q0, rfl, k0⟩
       | 8, _ =>
        obtain ⟨s0, r0, _⟩ := hw 7 (by omega) (by kernel_rfl)
        obtain ⟨q0, e0, k0⟩ : LHB (oa.ob) true (v 7) (lo 7) (hi' 7) w9 := r0
        rw [e0] at s0
        exact gr_ext2 rfl rfl 44 _ _ rfl s0 ⟨_, rfl, Below.refl _ _, q0, rfl, k0⟩
       | 9, _ =>
        obtain ⟨s0, r0, _⟩ := hw 7 (by omega) (by kernel_rfl)
        obtain ⟨q0, e0, k0⟩ : LHB (oa.ob) true (v 7) (lo 7) (hi' 7) w9 := r0
        rw [e0] at s0
        exact gr_ext2' rfl rfl 44 _ _ rfl s0 ⟨_, rfl, Below.refl _ _, rfl⟩
       | 10, _ =>
        exact grow_allocO rfl rfl rfl ⟨_, rfl, Below.alloc (Below.refl _ _) (Nat.le_refl _) _, rfl, heap_alloc_new _ _, by simp⟩
      case stepL =>
       intro i hi hl a w1 w9 v lo hi' hw
       match i, hi with
       | 0, _ => exact absurd hl (by decide)
       | 1, _ => exact absurd hl (by decide)
       | 2, _ => exact absurd hl (by decide)
       | 3, _ => exact absurd hl (by decide)
       | 4, _ => exact absurd hl (by decide)
       | 5, _ => exact absurd hl (by decide)
       | 6, _ => exact absurd hl (by decide)
       | 7, _ => exact absurd hl (by decide)
       | 8, _ => exact absurd hl (by decide)
       | 9, _ =>
        obtain ⟨s0, r0⟩ := hw 7 (by omega) (by kernel_rfl)
        obtain ⟨q0, e0, k0⟩ : LHB (oa.ob) true (v 7) (lo 7) (hi' 7) w1 := r0
        rw [e0] at s0
        exact gr_ext2' rfl rfl 44 _ _ rfl s0 ⟨_, rfl, rfl, rfl⟩
       | 10, _ => exact absurd hl (by decide)
      case done =>
       intro a w9 v lo hi' pp hdef hsz hoth hb hj hap hv8 kp hv10 B10
       obtain ⟨_, _, hlo10, _⟩ := hj 10 (by omega)
       obtain ⟨_, hv9, _, _⟩ := hj 9 (by omega)
       change v 9 = _ at hv9
       have ha := eq_puts hdef hsz hoth (fun i hi => (hj i hi).1)
       subst ha
       clear hj hoth hdef hsz hap
       have hX := below_setRowO hb hlo10 (cellsO (oa.ob) pp).toArray
       have kX := Hd.box kp B10 rfl (cellsO (oa.ob) pp).toArray
       have bX := Bx.set (y := (cellsO (oa.ob) pp).toArray) B10
       generalize World.setRow w9 (lo 10) (cellsO (oa.ob) pp).toArray = XP at hX kX bX ⊢
       clear hb kp B10
       simp only [puts, List.getD_cons_zero, List.getD_cons_succ, hv8, hv10, hv9]
       generalize v 0 = v0
       generalize v 1 = v1
       generalize v 2 = v2
       generalize v 3 = v3
       generalize v 4 = v4
       generalize v 5 = v5
       generalize v 6 = v6
       generalize v 7 = v7
       clear hv8 hv10 hv9
       generalize lo 10 = g10 at *
       simp only [Act.put, List.setIfInBounds_toArray, List.set_cons_zero, List.set_cons_succ]
       show wpList _ _ _ [_] _ _
       have hb := hX
       clear hX
       replace HW := kW HW hb
       replace Bs := hI (Bs.out.keep hb)
       replace Br := hI (Br.out.keep hb)
       replace HT := kT HT hb
       replace GA := kB GA hb
       replace ka := kH ka hb
       replace GX := kB GX hb
       replace kx := kH kx hb
       replace kp := hI kX
       have GP := hI bX
       clear hb kX bX
       go_wp2_with (first | (with_reducible refine lG (.tmp 5) GA.out ?_) | (with_reducible refine lG (.tmp 6) GX.out ?_) | (with_reducible refine lG (.tmp 8) GP.out ?_))
       with_reducible refine (HF.out _ ka.out HT.out).mono ?_
       rintro e w4 ⟨rfl, hb⟩
       replace HW := kW HW hb
       replace Bs := hI (Bs.out.keep hb)
       replace Br := hI (Br.out.keep hb)
       replace HT := kT HT hb
       replace GA := kB GA hb
       replace ka := kH ka hb
       replace GX := kB GX hb
       replace kx := kH kx hb
       replace kp := kH kp hb
       replace GP := kB GP hb
       clear hb
       go_wp2_with (first | (with_reducible refine lG (.tmp 5) GA.out ?_) | (with_reducible refine lG (.tmp 6) GX.out ?_) | (with_reducible refine lG (.tmp 8) GP.out ?_))
       with_reducible refine (equalH _ _ _ _ _ true (decide_eq_true rfl) kp.out ka.out).mono ?_
       rintro e w5 ⟨rfl, hb⟩
       replace HW := kW HW hb
       replace Bs := hI (Bs.out.keep hb)
       replace Br := hI (Br.out.keep hb)
       replace HT := kT HT hb
       replace GA := kB GA hb
       replace ka := kH ka hb
       replace GX := kB GX hb
       replace kx := kH kx hb
       replace kp := kH kp hb
       replace GP := kB GP hb
       clear hb
       go_wp2_with (first | (with_reducible refine lG (.tmp 5) GA.out ?_) | (with_reducible refine lG (.tmp 6) GX.out ?_) | (with_reducible refine lG (.tmp 8) GP.out ?_))
       go_ret
       exact ⟨rfl, HW.out⟩
end Go.Proofs.YtobjdkblpjmbjaaGreatDoor
