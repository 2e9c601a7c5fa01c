/- The walk of OrdinalValid. -/
import Derived.Test.YtobjdkblpjmbjaaGreatDoorG19
import Derived.Test.YtobjdkblpjmbjaaGreatDoorG37
namespace Go.Proofs.YtobjdkblpjmbjaaGreatDoor
open Go Go.RowKit
set_option linter.unusedVariables false

set_option maxHeartbeats 16000000 in
set_option maxRecDepth 100000 in
theorem ordinalValid_walk (s : Sd) (sc sd : Value) (r : Rw) (ra rb rc rd : Value) (c : Int) (w : World) (As : SdAt w (Has w) s [sc, sd]) (Ns : s.cnt ≤ 1048576) (hr : RawAt w (Has w) r [ra, rb, rc, rd]) (ic : I64 c) (ht : Tab w) :
 Calls Tryz.prog 3 #[.agg #[sc, sd], .agg #[ra, rb, rc, rd], .int .i64 c] w (RetB w true) := by
 have HT := hI ht
 have FW : Hid (∀ X, Below w.heap.size w X → Calls Tryz.prog 13 #[.slice (some ⟨X.heap.size, 0, none⟩) 1 1] (X.alloc (.cells #[sc, sd] 24)) (fun e w' => e = .returned (.bool (fewSd [s])) ∧ Below X.heap.size X w')) := fun X h => few1 s sc sd w X As Ns h
 have Ks : Hid (fewSd [s] = true → ∃ a : On, a.sm 45 3 84 ∧ ∀ X, Below w.heap.size w X → Calls Tryz.prog 15 #[.agg #[sc, sd]] X (RetH X a.ob)) := fun hf => madeK hf (by simp) As ht
 generalize fewSd [s] = fs at FW Ks
 have Rr := hI hr
 clear hr
 have CFr : Hid (∀ W', Below w.heap.size w W' → Calls Tryz.prog 14 #[.agg #[ra, rb, rc, rd], .int .i64 30] W' (fun e w' => e = .returned (.bool (few r 30)) ∧ Below W'.heap.size W' w')) := fun W' h => fewO r [ra, rb, rc, rd] 30 W' (Has w) (In.has w |>.later h.size) (Rr.out.below (In.has w) h) (by decide) (by decide)
 have KOr : Hid (few r 30 = true → ∀ W', Below w.heap.size w W' → Calls Tryz.prog 16 #[.agg #[ra, rb, rc, rd]] W' (RetX W' 200)) := fun hf W' h => by
  obtain ⟨hok, hcn⟩ := few_ok hf
  exact (objectO r [ra, rb, rc, rd] W' (Has w) (In.has w |>.later h.size) (Rr.out.below (In.has w) h) hok (HT.out.below h)).mono fun _ _ hr => hr.le (by omega)
 generalize few r 30 = fr at CFr KOr
 clear ht As Ns
 have MC : Hid (∀ X, Calls Tryz.prog 19 #[.int .i64 c, .int .i64 5] X (RetI X (((c % 5).toNat : Nat) : Int))) := fun X => modT c 5 X ic (by omega) (by omega)
 have hm : (c % 5).toNat < 5 := by omega
 generalize (c % 5).toNat = mc at MC hm
 obtain ⟨z, hz⟩ : ∃ z : Int, (mc : Int) - 1 = z := ⟨_, rfl⟩
 have hzb : -1000000 ≤ z ∧ z ≤ 1000000 := by omega
 have IC : Hid (∀ X, Tab X → Calls Tryz.prog 18 #[.int .i64 z] X (RetH X (.num (z : Rat)))) := fun X ht => (intO z X (Has X) (In.has X) (i64_small (by omega)) ht).mono fun _ _ h => h.h (In.has X)
 have bQ : Hid ((Ob.num (z : Rat)).bd 90) := bd_int (Nat.lt_of_lt_of_le (show z.natAbs < 10 ^ 1 by omega) (Nat.pow_le_pow_right (by omega) (by omega))) (by omega)
 generalize ((z : Int) : Rat) = q at IC bQ
 replace hz := hI hz
 replace hzb := hI hzb
 clear hm ic
 go_enter Tryz.func3, Tryz.ntmps3
 go_wp2_with fail
 have T := blk2 w (.cells #[sc, sd] 24) (.cells #[ra, rb, rc, rd] 27)
 generalize ((w.alloc (.cells #[sc, sd] 24)).alloc (.cells #[ra, rb, rc, rd] 27)) = W at T ⊢
 obtain ⟨TB, T0, T1⟩ := T
 have HW := hI TB
 have Bs : Hid (Sb W (w.heap.size) sc sd) := T0
 have Br : Hid (Rb W (w.heap.size + 1) ra rb rc rd) := T1
 replace HT := hI (HT.out.below TB)
 clear TB T0 T1
 with_reducible refine (firstO _ HT.out).mono ?_
 rintro e w1 ⟨rfl, hb⟩
 replace HW := kW HW hb
 replace Bs := hI (Bs.out.keep hb)
 replace Br := hI (Br.out.keep hb)
 replace HT := kT HT hb
 clear hb
 have cs0 := Bs.out.c0
 have cs1 := Bs.out.c1
 go_wp2_with fail
 clear cs0 cs1
 with_reducible refine (FW.out _ HW.out).mono ?_
 rintro e w2 ⟨rfl, hb⟩
 replace HW := kW HW hb
 replace Bs := hI (Bs.out.keep hb)
 replace Br := hI (Br.out.keep hb)
 replace HT := kT HT hb
 clear hb
 cases fs with
 | false =>
  go_wp2
  all_goals go_ret
  all_goals exact ⟨rfl, HW.out⟩
 | true =>
  obtain ⟨m0, m1, m2, m3⟩ := Br.out.c
  go_wp2_with fail
  clear m0 m1 m2 m3
  with_reducible refine (CFr.out _ HW.out).mono ?_
  rintro e w3 ⟨rfl, hb⟩
  replace HW := kW HW hb
  replace Bs := hI (Bs.out.keep hb)
  replace Br := hI (Br.out.keep hb)
  replace HT := kT HT hb
  clear hb
  cases fr with
  | false =>
   go_wp2
   all_goals go_ret
   all_goals exact ⟨rfl, HW.out⟩
  | true =>
   replace KOr := KOr.out (by simp)
   replace KOr := hI KOr
   obtain ⟨oa, sma, Ma⟩ := Ks.out (by simp)
   replace sma := hI sma
   replace Ma := hI Ma
   clear Ks
   go_wp2_with fail
   refine wp_region_grow (l := _) 6 (by kernel_rfl) (by kernel_rfl) (fun i => [21, 22, 23, 24, 7, 8].getD i 0) (LR [LV (.agg #[sc, sd]), LH (oa.ob), LV (.agg #[ra, rb, rc, rd]), LX 200, LBx, LBx]) (LR_mono ⟨mLV _, mLH _, mLV _, mLX _, mLBx, mLBx, trivial⟩) (by
    intro i j hi hj h
    exact inj_getD [21, 22, 23, 24, 7, 8] (by decide) i j hi hj h) (by
    intro i hi
    exact lt_getD 63 [21, 22, 23, 24, 7, 8] (by decide) i hi) ?step ?done
   case step =>
    intro i hi a w9 v lo hi' hoth hb hw
    have sl3 : a.tmps[3]? = some (.pointer (some ⟨w.heap.size, 0, none⟩)) := (hoth 3 (fun j hj => ne_getD 3 _ (by decide) j hj)).trans rfl
    have sl4 : a.tmps[4]? = some (.pointer (some ⟨w.heap.size + 1, 0, none⟩)) := (hoth 4 (fun j hj => ne_getD 4 _ (by decide) j hj)).trans rfl
    match i, hi with
    | 0, _ =>
     exact gr_seed rfl rfl (.tmp 3) rfl (eval_of sl3) (Bs.out.keep hb) ⟨_, rfl, Below.refl _ _, rfl⟩
    | 1, _ =>
     obtain ⟨s0, r0, _⟩ := hw 0 (by omega) (by kernel_rfl)
     have e0 : v 0 = .agg #[sc, sd] := r0
     rw [e0] at s0
     refine gr_t rfl rfl 15 21 _ _ rfl (fun v w => by go_simp) s0 ?_
     with_reducible refine (Ma.out w9 (chain2 HW.out hb (Nat.le_refl _))).mono ?_
     rintro e w3 ⟨p, rfl, hp, hb3⟩
     exact ⟨_, rfl, _, rfl, hb3, p, rfl, hp⟩
    | 2, _ =>
     exact gr_raw rfl rfl (.tmp 4) rfl (eval_of sl4) (Br.out.keep hb) ⟨_, rfl, Below.refl _ _, rfl⟩
    | 3, _ =>
     obtain ⟨s0, r0, _⟩ := hw 2 (by omega) (by kernel_rfl)
     have e0 : v 2 = .agg #[ra, rb, rc, rd] := r0
     rw [e0] at s0
     refine gr_t rfl rfl 16 23 _ _ rfl (fun v w => by go_simp) s0 ?_
     with_reducible refine (KOr.out w9 (chain2 HW.out hb (Nat.le_refl _))).mono ?_
     intro e w3 hx
     obtain ⟨ox, px, rfl, hp, hb3, hok⟩ := hx.h
     exact ⟨_, rfl, _, rfl, hb3, ox, px, rfl, hp, hok⟩
    | 4, _ =>
     exact grow_allocO rfl rfl rfl ⟨_, rfl, Below.alloc (Below.refl _ _) (Nat.le_refl _) _, rfl, heap_alloc_new _ _, by simp⟩
    | 5, _ =>
     exact grow_allocO rfl rfl rfl ⟨_, rfl, Below.alloc (Below.refl _ _) (Nat.le_refl _) _, rfl, heap_alloc_new _ _, by simp⟩
   case done =>
    intro a w9 v lo hi' hdef hsz hoth hb hj hap
    obtain ⟨_, ⟨pa, hv1, ka⟩, hlo1, hhi1⟩ := hj 1 (by omega)
    obtain ⟨_, ⟨ox, px, hv3, kx, okox⟩, hlo3, hhi3⟩ := hj 3 (by omega)
    obtain ⟨_, ⟨hv4, Z4, hlt4⟩, hlo4, hhi4⟩ := hj 4 (by omega)
    obtain ⟨_, ⟨hv5, Z5, hlt5⟩, hlo5, hhi5⟩ := hj 5 (by omega)
    have ha := eq_puts hdef hsz hoth (fun i hi => (hj i hi).1)
    subst ha
    clear hj hoth hdef hsz
    simp only [puts, List.getD_cons_zero, List.getD_cons_succ, hv1, hv3, hv4, hv5]
    generalize v 0 = v0
    generalize v 2 = v2
    clear hv1 hv3 hv4 hv5
    simp only [Act.put, List.setIfInBounds_toArray, List.set_cons_zero, List.set_cons_succ]
    show wpList _ _ _ [_, _] _ _
    have n01 := hap 4 5 (by omega) (by omega) (by decide)
    clear hap
    generalize lo 4 = g4 at *
    generalize hi' 4 = e4 at *
    generalize lo 5 = g5 at *
    generalize hi' 5 = e5 at *
    refine storeB (w1 := w9) (g := g4) (b := oa.ob) (p := pa) (.tmp 7) (.tmp 22) rfl rfl rfl rfl ka Z4 ?_
    refine storeB (w1 := w9) (g := g5) (b := ox) (p := px) (.tmp 8) (.tmp 24) rfl rfl rfl rfl kx (Z5.other (by omega)) ?_
    have P := Fill2.new hb Z4 ka hlo4 Z5 kx hlo5 (by omega)
    generalize (World.setRow (World.setRow w9 g4 (cellsO (oa.ob) pa).toArray) g5 (cellsO (ox) px).toArray) = XM at P ⊢
    clear hb ka Z4 kx Z5
    have hb := P.bel
    replace HW := kW HW hb
    replace Bs := hI (Bs.out.keep hb)
    replace Br := hI (Br.out.keep hb)
    replace HT := kT HT hb
    have GA := hI P.b0
    have ka := hI P.k0
    have GX := hI P.b1
    have kx := hI P.k1
    clear hb P
    have bA := hI (On.ob_bd sma.out.bd (by omega))
    have nA : Hid (oa.ob.nodes ≤ 45) := by
     show _ ≤ _
     rw [On.nd_ob]
     exact sma.out.nd
    have bX := hI (Ob.bd_more (show 20 ≤ 90 by omega) okox.1)
    have nX := hI okox.2
    clear okox
    have bN : Hid (Ob.bd 90 (.cons (.cons oa.ob (.num q)) ox)) := ⟨⟨bA.out, bQ.out⟩, bX.out⟩
    have nN : Hid (Ob.nodes (.cons (.cons oa.ob (.num q)) ox) ≤ 3000) := by
     have h1 := nA.out
     have h2 := nX.out
     show 1 + (1 + oa.ob.nodes + 1) + ox.nodes ≤ 3000
     omega
    replace nA := hI (Nat.le_trans nA.out (show 45 ≤ 3000 by omega))
    replace nX := hI (Nat.le_trans nX.out (show 200 ≤ 3000 by omega))
    go_wp2_with (first | (with_reducible refine lG (.tmp 7) GA.out ?_) | (with_reducible refine lG (.tmp 8) GX.out ?_))
    refine wp_region_grow (l := _) 9 (by kernel_rfl) (by kernel_rfl) (fun i => [25, 26, 27, 28, 29, 30, 31, 32, 9].getD i 0) (LR [LV (vO (oa.ob) pa), LV (.int .i64 c), LV (.int .i64 (mc : Int)), LV (.int .i64 z), LH ((.num q)), LH ((.cons oa.ob (.num q))), LV (vO (ox) px), LH ((.cons (.cons oa.ob (.num q)) ox)), LBx]) (LR_mono ⟨mLV _, mLV _, mLV _, mLV _, mLH _, mLH _, mLV _, mLH _, mLBx, trivial⟩) (by
     intro i j hi hj h
     exact inj_getD [25, 26, 27, 28, 29, 30, 31, 32, 9] (by decide) i j hi hj h) (by
     intro i hi
     exact lt_getD 63 [25, 26, 27, 28, 29, 30, 31, 32, 9] (by decide) i hi) ?step ?done
    case step =>
     intro i hi a w9 v lo hi' hoth hb hw
     have sl7 : a.tmps[7]? = some (.pointer (some ⟨g4, 0, none⟩)) := (hoth 7 (fun j hj => ne_getD 7 _ (by decide) j hj)).trans rfl
     have sl2 : a.tmps[2]? = some (.int .i64 c) := (hoth 2 (fun j hj => ne_getD 2 _ (by decide) j hj)).trans rfl
     have sl8 : a.tmps[8]? = some (.pointer (some ⟨g5, 0, none⟩)) := (hoth 8 (fun j hj => ne_getD 8 _ (by decide) j hj)).trans rfl
     match i, hi with
     | 0, _ =>
      exact gr_box rfl rfl (.tmp 7) rfl (eval_of sl7) (GA.out.keep hb) ⟨_, rfl, Below.refl _ _, rfl⟩
     | 1, _ =>
      exact gr_move rfl rfl 2 _ rfl sl2 ⟨_, rfl, Below.refl _ _, rfl⟩
     | 2, _ =>
      obtain ⟨s0, r0, _⟩ := hw 1 (by omega) (by kernel_rfl)
      have e0 : v 1 = .int .i64 c := r0
      rw [e0] at s0
      refine gr_tc rfl rfl 19 26 _ _ _ rfl (fun v u w => by go_simp) s0 ?_
      with_reducible refine (MC.out w9).mono ?_
      rintro e w3 ⟨rfl, hb3⟩
      exact ⟨_, rfl, _, rfl, hb3, rfl⟩
     | 3, _ =>
      obtain ⟨s0, r0, _⟩ := hw 2 (by omega) (by kernel_rfl)
      have e0 : v 2 = .int .i64 (mc : Int) := r0
      rw [e0] at s0
      exact gr_subc rfl rfl 27 (mc : Int) 1 z hz.out hzb.out rfl s0 ⟨_, rfl, Below.refl _ _, rfl⟩
     | 4, _ =>
      obtain ⟨s0, r0, _⟩ := hw 3 (by omega) (by kernel_rfl)
      have e0 : v 3 = .int .i64 z := r0
      rw [e0] at s0
      refine gr_t rfl rfl 18 28 _ _ rfl (fun v w => by go_simp) s0 ?_
      with_reducible refine (IC.out w9 (HT.out.below hb)).mono ?_
      rintro e w3 ⟨p, rfl, hp, hb3⟩
      exact ⟨_, rfl, _, rfl, hb3, p, rfl, hp⟩
     | 5, _ =>
      obtain ⟨s0, r0, _⟩ := hw 0 (by omega) (by kernel_rfl)
      have e0 : v 0 = vO (oa.ob) pa := r0
      rw [e0] at s0
      obtain ⟨s1, r1, _⟩ := hw 4 (by omega) (by kernel_rfl)
      obtain ⟨q1, e1, k1⟩ : LH ((.num q)) (v 4) (lo 4) (hi' 4) w9 := r1
      rw [e1] at s1
      refine gr_tt rfl rfl 17 25 29 _ _ _ rfl (fun v u w => by go_simp) s0 s1 ?_
      with_reducible refine (consRH _ _ pa q1 w9 (ka.out.below hb) k1).mono ?_
      rintro e w3 ⟨p, rfl, hp, hb3⟩
      exact ⟨_, rfl, _, rfl, hb3, p, rfl, hp⟩
     | 6, _ =>
      exact gr_box rfl rfl (.tmp 8) rfl (eval_of sl8) (GX.out.keep hb) ⟨_, rfl, Below.refl _ _, rfl⟩
     | 7, _ =>
      obtain ⟨s0, r0, _⟩ := hw 5 (by omega) (by kernel_rfl)
      obtain ⟨q0, e0, k0⟩ : LH ((.cons oa.ob (.num q))) (v 5) (lo 5) (hi' 5) w9 := r0
      rw [e0] at s0
      obtain ⟨s1, r1, _⟩ := hw 6 (by omega) (by kernel_rfl)
      have e1 : v 6 = vO (ox) px := r1
      rw [e1] at s1
      refine gr_tt rfl rfl 17 30 31 _ _ _ rfl (fun v u w => by go_simp) s0 s1 ?_
      with_reducible refine (consRH _ _ q0 px w9 k0 (kx.out.below hb)).mono ?_
      rintro e w3 ⟨p, rfl, hp, hb3⟩
      exact ⟨_, rfl, _, rfl, hb3, p, rfl, hp⟩
     | 8, _ =>
      exact grow_allocO rfl rfl rfl ⟨_, rfl, Below.alloc (Below.refl _ _) (Nat.le_refl _) _, rfl, heap_alloc_new _ _, by simp⟩
    case done =>
     intro a w9 v lo hi' hdef hsz hoth hb hj hap
     obtain ⟨_, ⟨pn, hv7, kn⟩, hlo7, hhi7⟩ := hj 7 (by omega)
     obtain ⟨_, ⟨hv8, Z8, hlt8⟩, hlo8, hhi8⟩ := hj 8 (by omega)
     have ha := eq_puts hdef hsz hoth (fun i hi => (hj i hi).1)
     subst ha
     clear hj hoth hdef hsz
     simp only [puts, List.getD_cons_zero, List.getD_cons_succ, hv7, hv8]
     generalize v 0 = v0
     generalize v 1 = v1
     generalize v 2 = v2
     generalize v 3 = v3
     generalize v 4 = v4
     generalize v 5 = v5
     generalize v 6 = v6
     clear hv7 hv8
     simp only [Act.put, List.setIfInBounds_toArray, List.set_cons_zero, List.set_cons_succ]
     show wpList _ _ _ [_] _ _
     clear hap
     generalize lo 8 = g8 at *
     generalize hi' 8 = e8 at *
     refine storeB (w1 := w9) (g := g8) (b := (.cons (.cons oa.ob (.num q)) ox)) (p := pn) (.tmp 9) (.tmp 32) rfl rfl rfl rfl kn Z8 ?_
     have P := Fill1.new hb Z8 kn hlo8 
     generalize (World.setRow w9 g8 (cellsO ((.cons (.cons oa.ob (.num q)) ox)) pn).toArray) = XM at P ⊢
     clear hb kn Z8
     have hb := P.bel
     replace HW := kW HW hb
     replace Bs := hI (Bs.out.keep hb)
     replace Br := hI (Br.out.keep hb)
     replace HT := kT HT hb
     replace GA := kB GA hb
     replace ka := kH ka hb
     replace GX := kB GX hb
     replace kx := kH kx hb
     have GN := hI P.b0
     have kn := hI P.k0
     clear hb P
     go_wp2_with (first | (with_reducible refine lG (.tmp 7) GA.out ?_) | (with_reducible refine lG (.tmp 8) GX.out ?_) | (with_reducible refine lG (.tmp 9) GN.out ?_))
     refine wp_region_grow (l := _) 30 (by kernel_rfl) (by kernel_rfl) (fun i => [33, 34, 35, 36, 37, 38, 39, 40, 41, 42, 43, 44, 45, 46, 47, 48, 49, 50, 51, 52, 53, 54, 55, 56, 57, 58, 59, 60, 61, 62].getD i 0) (LR [LV (vO (oa.ob) pa), LV (.bool true), LV (.bool true), LV (vO (ox) px), LV (.bool (ordOf ox).isSome), LV (vO (ox) px), LV (.bool (ordOf ox).isSome), LV (.bool true), LV (.bool true), LV (.bool true), LV (vO ((.cons (.cons oa.ob (.num q)) ox)) pn), LV (.bool (ordOf (.cons (.cons oa.ob (.num q)) ox)).isSome), LV (vO ((.cons (.cons oa.ob (.num q)) ox)) pn), LV (.bool (ordOf (.cons (.cons oa.ob (.num q)) ox)).isSome), LV (.bool true), LV (.bool true), LV (.bool true), LV (vO (ox) px), LV (.bool ox.nat.isSome), LV (vO (ox) px), LV (.bool ox.nat.isSome), LV (.bool true), LV (.bool true), LV (.bool true), LV (vO (oa.ob) pa), LV (.bool oa.ob.nat.isSome), LV (vO (oa.ob) pa), LV (.bool oa.ob.nat.isSome), LV (.bool true), LV (.bool true)]) (LR_mono ⟨mLV _, mLV _, mLV _, mLV _, mLV _, mLV _, mLV _, mLV _, mLV _, mLV _, mLV _, mLV _, mLV _, mLV _, mLV _, mLV _, mLV _, mLV _, mLV _, mLV _, mLV _, mLV _, mLV _, mLV _, mLV _, mLV _, mLV _, mLV _, mLV _, mLV _, trivial⟩) (by
      intro i j hi hj h
      exact inj_getD [33, 34, 35, 36, 37, 38, 39, 40, 41, 42, 43, 44, 45, 46, 47, 48, 49, 50, 51, 52, 53, 54, 55, 56, 57, 58, 59, 60, 61, 62] (by decide) i j hi hj h) (by
      intro i hi
      exact lt_getD 63 [33, 34, 35, 36, 37, 38, 39, 40, 41, 42, 43, 44, 45, 46, 47, 48, 49, 50, 51, 52, 53, 54, 55, 56, 57, 58, 59, 60, 61, 62] (by decide) i hi) ?step ?done
     case step =>
      intro i hi a w9 v lo hi' hoth hb hw
      have sl7 : a.tmps[7]? = some (.pointer (some ⟨g4, 0, none⟩)) := (hoth 7 (fun j hj => ne_getD 7 _ (by decide) j hj)).trans rfl
      have sl8 : a.tmps[8]? = some (.pointer (some ⟨g5, 0, none⟩)) := (hoth 8 (fun j hj => ne_getD 8 _ (by decide) j hj)).trans rfl
      have sl9 : a.tmps[9]? = some (.pointer (some ⟨g8, 0, none⟩)) := (hoth 9 (fun j hj => ne_getD 9 _ (by decide) j hj)).trans rfl
      match i, hi with
      | 0, _ =>
       exact gw_box rfl (wanted_plain rfl) (.tmp 7) rfl (eval_of sl7) (GA.out.keep hb) ⟨_, rfl, Below.refl _ _, rfl⟩
      | 1, _ =>
       obtain ⟨s0, r0, _⟩ := hw 0 (by omega) (by kernel_rfl)
       have e0 : v 0 = vO (oa.ob) pa := r0
       rw [e0] at s0
       refine gw_t rfl (wanted_plain rfl) 20 33 _ _ rfl (fun v w => by go_simp) s0 ?_
       with_reducible refine (validE oa pa w9 sma.out.nf bA.out nA.out (ka.out.below hb) (HT.out.below hb)).mono ?_
       rintro e w3 ⟨rfl, hb3⟩
       exact ⟨_, rfl, _, rfl, hb3, rfl⟩
      | 2, _ =>
       obtain ⟨s0, r0, _⟩ := hw 1 (by omega) (by kernel_rfl)
       have e0 : v 1 = .bool true := r0
       rw [e0] at s0
       exact gw_move rfl (wanted_plain rfl) 34 _ rfl s0 ⟨_, rfl, Below.refl _ _, rfl⟩
      | 3, _ =>
       obtain ⟨s9, r9, _⟩ := hw 2 (by omega) (by kernel_rfl)
       have e9 : v 2 = .bool true := r9
       rw [e9] at s9
       exact gw_box rfl (wanted_on rfl rfl rfl s9 rfl) (.tmp 8) rfl (eval_of sl8) (GX.out.keep hb) ⟨_, rfl, Below.refl _ _, rfl⟩
      | 4, _ =>
       obtain ⟨s9, r9, _⟩ := hw 2 (by omega) (by kernel_rfl)
       have e9 : v 2 = .bool true := r9
       rw [e9] at s9
       obtain ⟨s0, r0, _⟩ := hw 3 (by omega) (by kernel_rfl)
       have e0 : v 3 = vO (ox) px := r0
       rw [e0] at s0
       refine gw_t rfl (wanted_on rfl rfl rfl s9 rfl) 20 36 _ _ rfl (fun v w => by go_simp) s0 ?_
       with_reducible refine (validH ox px w9 bX.out nX.out (kx.out.below hb) (HT.out.below hb)).mono ?_
       rintro e w3 ⟨rfl, hb3⟩
       exact ⟨_, rfl, _, rfl, hb3, rfl⟩
      | 5, _ =>
       obtain ⟨s9, r9, _⟩ := hw 2 (by omega) (by kernel_rfl)
       have e9 : v 2 = .bool true := r9
       rw [e9] at s9
       exact gw_box rfl (wanted_on rfl rfl rfl s9 rfl) (.tmp 8) rfl (eval_of sl8) (GX.out.keep hb) ⟨_, rfl, Below.refl _ _, rfl⟩
      | 6, _ =>
       obtain ⟨s9, r9, _⟩ := hw 2 (by omega) (by kernel_rfl)
       have e9 : v 2 = .bool true := r9
       rw [e9] at s9
       obtain ⟨s0, r0, _⟩ := hw 5 (by omega) (by kernel_rfl)
       have e0 : v 5 = vO (ox) px := r0
       rw [e0] at s0
       refine gw_t rfl (wanted_on rfl rfl rfl s9 rfl) 21 38 _ _ rfl (fun v w => by go_simp) s0 ?_
       with_reducible refine (validR3 ox px w9 bX.out nX.out (kx.out.below hb) (HT.out.below hb)).mono ?_
       rintro e w3 ⟨rfl, hb3⟩
       exact ⟨_, rfl, _, rfl, hb3, rfl⟩
      | 7, _ =>
       obtain ⟨s9, r9, _⟩ := hw 2 (by omega) (by kernel_rfl)
       have e9 : v 2 = .bool true := r9
       rw [e9] at s9
       obtain ⟨s0, r0, _⟩ := hw 4 (by omega) (by kernel_rfl)
       have e0 : v 4 = .bool (ordOf ox).isSome := r0
       rw [e0] at s0
       obtain ⟨s1, r1, _⟩ := hw 6 (by omega) (by kernel_rfl)
       have e1 : v 6 = .bool (ordOf ox).isSome := r1
       rw [e1] at s1
       exact gw_eqlB rfl (wanted_on rfl rfl rfl s9 rfl) 37 39 _ rfl s0 s1 ⟨_, rfl, Below.refl _ _, rfl⟩
      | 8, _ =>
       obtain ⟨s0, r0, _⟩ := hw 2 (by omega) (by kernel_rfl)
       have e0 : v 2 = .bool true := r0
       rw [e0] at s0
       obtain ⟨s1, r1, _⟩ := hw 7 (by omega) (by kernel_rfl)
       have e1 : v 7 = .bool true := r1
       rw [e1] at s1
       exact gw_pickT rfl (wanted_plain rfl) 35 40 _ _ rfl s0 s1 ⟨_, rfl, Below.refl _ _, rfl⟩
      | 9, _ =>
       obtain ⟨s0, r0, _⟩ := hw 8 (by omega) (by kernel_rfl)
       have e0 : v 8 = .bool true := r0
       rw [e0] at s0
       exact gw_move rfl (wanted_plain rfl) 41 _ rfl s0 ⟨_, rfl, Below.refl _ _, rfl⟩
      | 10, _ =>
       obtain ⟨s9, r9, _⟩ := hw 9 (by omega) (by kernel_rfl)
       have e9 : v 9 = .bool true := r9
       rw [e9] at s9
       exact gw_box rfl (wanted_on rfl rfl rfl s9 rfl) (.tmp 9) rfl (eval_of sl9) (GN.out.keep hb) ⟨_, rfl, Below.refl _ _, rfl⟩
      | 11, _ =>
       obtain ⟨s9, r9, _⟩ := hw 9 (by omega) (by kernel_rfl)
       have e9 : v 9 = .bool true := r9
       rw [e9] at s9
       obtain ⟨s0, r0, _⟩ := hw 10 (by omega) (by kernel_rfl)
       have e0 : v 10 = vO ((.cons (.cons oa.ob (.num q)) ox)) pn := r0
       rw [e0] at s0
       refine gw_t rfl (wanted_on rfl rfl rfl s9 rfl) 20 43 _ _ rfl (fun v w => by go_simp) s0 ?_
       with_reducible refine (validH (.cons (.cons oa.ob (.num q)) ox) pn w9 bN.out nN.out (kn.out.below hb) (HT.out.below hb)).mono ?_
       rintro e w3 ⟨rfl, hb3⟩
       exact ⟨_, rfl, _, rfl, hb3, rfl⟩
      | 12, _ =>
       obtain ⟨s9, r9, _⟩ := hw 9 (by omega) (by kernel_rfl)
       have e9 : v 9 = .bool true := r9
       rw [e9] at s9
       exact gw_box rfl (wanted_on rfl rfl rfl s9 rfl) (.tmp 9) rfl (eval_of sl9) (GN.out.keep hb) ⟨_, rfl, Below.refl _ _, rfl⟩
      | 13, _ =>
       obtain ⟨s9, r9, _⟩ := hw 9 (by omega) (by kernel_rfl)
       have e9 : v 9 = .bool true := r9
       rw [e9] at s9
       obtain ⟨s0, r0, _⟩ := hw 12 (by omega) (by kernel_rfl)
       have e0 : v 12 = vO ((.cons (.cons oa.ob (.num q)) ox)) pn := r0
       rw [e0] at s0
       refine gw_t rfl (wanted_on rfl rfl rfl s9 rfl) 21 45 _ _ rfl (fun v w => by go_simp) s0 ?_
       with_reducible refine (validR3 (.cons (.cons oa.ob (.num q)) ox) pn w9 bN.out nN.out (kn.out.below hb) (HT.out.below hb)).mono ?_
       rintro e w3 ⟨rfl, hb3⟩
       exact ⟨_, rfl, _, rfl, hb3, rfl⟩
      | 14, _ =>
       obtain ⟨s9, r9, _⟩ := hw 9 (by omega) (by kernel_rfl)
       have e9 : v 9 = .bool true := r9
       rw [e9] at s9
       obtain ⟨s0, r0, _⟩ := hw 11 (by omega) (by kernel_rfl)
       have e0 : v 11 = .bool (ordOf (.cons (.cons oa.ob (.num q)) ox)).isSome := r0
       rw [e0] at s0
       obtain ⟨s1, r1, _⟩ := hw 13 (by omega) (by kernel_rfl)
       have e1 : v 13 = .bool (ordOf (.cons (.cons oa.ob (.num q)) ox)).isSome := r1
       rw [e1] at s1
       exact gw_eqlB rfl (wanted_on rfl rfl rfl s9 rfl) 44 46 _ rfl s0 s1 ⟨_, rfl, Below.refl _ _, rfl⟩
      | 15, _ =>
       obtain ⟨s0, r0, _⟩ := hw 9 (by omega) (by kernel_rfl)
       have e0 : v 9 = .bool true := r0
       rw [e0] at s0
       obtain ⟨s1, r1, _⟩ := hw 14 (by omega) (by kernel_rfl)
       have e1 : v 14 = .bool true := r1
       rw [e1] at s1
       exact gw_pickT rfl (wanted_plain rfl) 42 47 _ _ rfl s0 s1 ⟨_, rfl, Below.refl _ _, rfl⟩
      | 16, _ =>
       obtain ⟨s0, r0, _⟩ := hw 15 (by omega) (by kernel_rfl)
       have e0 : v 15 = .bool true := r0
       rw [e0] at s0
       exact gw_move rfl (wanted_plain rfl) 48 _ rfl s0 ⟨_, rfl, Below.refl _ _, rfl⟩
      | 17, _ =>
       obtain ⟨s9, r9, _⟩ := hw 16 (by omega) (by kernel_rfl)
       have e9 : v 16 = .bool true := r9
       rw [e9] at s9
       exact gw_box rfl (wanted_on rfl rfl rfl s9 rfl) (.tmp 8) rfl (eval_of sl8) (GX.out.keep hb) ⟨_, rfl, Below.refl _ _, rfl⟩
      | 18, _ =>
       obtain ⟨s9, r9, _⟩ := hw 16 (by omega) (by kernel_rfl)
       have e9 : v 16 = .bool true := r9
       rw [e9] at s9
       obtain ⟨s0, r0, _⟩ := hw 17 (by omega) (by kernel_rfl)
       have e0 : v 17 = vO (ox) px := r0
       rw [e0] at s0
       refine gw_t rfl (wanted_on rfl rfl rfl s9 rfl) 22 50 _ _ rfl (fun v w => by go_simp) s0 ?_
       with_reducible refine (finiteH2 ox px w9 bX.out nX.out (kx.out.below hb) (HT.out.below hb)).mono ?_
       rintro e w3 ⟨rfl, hb3⟩
       exact ⟨_, rfl, _, rfl, hb3, rfl⟩
      | 19, _ =>
       obtain ⟨s9, r9, _⟩ := hw 16 (by omega) (by kernel_rfl)
       have e9 : v 16 = .bool true := r9
       rw [e9] at s9
       exact gw_box rfl (wanted_on rfl rfl rfl s9 rfl) (.tmp 8) rfl (eval_of sl8) (GX.out.keep hb) ⟨_, rfl, Below.refl _ _, rfl⟩
      | 20, _ =>
       obtain ⟨s9, r9, _⟩ := hw 16 (by omega) (by kernel_rfl)
       have e9 : v 16 = .bool true := r9
       rw [e9] at s9
       obtain ⟨s0, r0, _⟩ := hw 19 (by omega) (by kernel_rfl)
       have e0 : v 19 = vO (ox) px := r0
       rw [e0] at s0
       refine gw_t rfl (wanted_on rfl rfl rfl s9 rfl) 23 52 _ _ rfl (fun v w => by go_simp) s0 ?_
       with_reducible refine (finiteR ox px w9 bX.out nX.out (kx.out.below hb)).mono ?_
       rintro e w3 ⟨rfl, hb3⟩
       exact ⟨_, rfl, _, rfl, hb3, rfl⟩
      | 21, _ =>
       obtain ⟨s9, r9, _⟩ := hw 16 (by omega) (by kernel_rfl)
       have e9 : v 16 = .bool true := r9
       rw [e9] at s9
       obtain ⟨s0, r0, _⟩ := hw 18 (by omega) (by kernel_rfl)
       have e0 : v 18 = .bool ox.nat.isSome := r0
       rw [e0] at s0
       obtain ⟨s1, r1, _⟩ := hw 20 (by omega) (by kernel_rfl)
       have e1 : v 20 = .bool ox.nat.isSome := r1
       rw [e1] at s1
       exact gw_eqlB rfl (wanted_on rfl rfl rfl s9 rfl) 51 53 _ rfl s0 s1 ⟨_, rfl, Below.refl _ _, rfl⟩
      | 22, _ =>
       obtain ⟨s0, r0, _⟩ := hw 16 (by omega) (by kernel_rfl)
       have e0 : v 16 = .bool true := r0
       rw [e0] at s0
       obtain ⟨s1, r1, _⟩ := hw 21 (by omega) (by kernel_rfl)
       have e1 : v 21 = .bool true := r1
       rw [e1] at s1
       exact gw_pickT rfl (wanted_plain rfl) 49 54 _ _ rfl s0 s1 ⟨_, rfl, Below.refl _ _, rfl⟩
      | 23, _ =>
       obtain ⟨s0, r0, _⟩ := hw 22 (by omega) (by kernel_rfl)
       have e0 : v 22 = .bool true := r0
       rw [e0] at s0
       exact gw_move rfl (wanted_plain rfl) 55 _ rfl s0 ⟨_, rfl, Below.refl _ _, rfl⟩
      | 24, _ =>
       obtain ⟨s9, r9, _⟩ := hw 23 (by omega) (by kernel_rfl)
       have e9 : v 23 = .bool true := r9
       rw [e9] at s9
       exact gw_box rfl (wanted_on rfl rfl rfl s9 rfl) (.tmp 7) rfl (eval_of sl7) (GA.out.keep hb) ⟨_, rfl, Below.refl _ _, rfl⟩
      | 25, _ =>
       obtain ⟨s9, r9, _⟩ := hw 23 (by omega) (by kernel_rfl)
       have e9 : v 23 = .bool true := r9
       rw [e9] at s9
       obtain ⟨s0, r0, _⟩ := hw 24 (by omega) (by kernel_rfl)
       have e0 : v 24 = vO (oa.ob) pa := r0
       rw [e0] at s0
       refine gw_t rfl (wanted_on rfl rfl rfl s9 rfl) 22 57 _ _ rfl (fun v w => by go_simp) s0 ?_
       with_reducible refine (finiteH2 oa.ob pa w9 bA.out nA.out (ka.out.below hb) (HT.out.below hb)).mono ?_
       rintro e w3 ⟨rfl, hb3⟩
       exact ⟨_, rfl, _, rfl, hb3, rfl⟩
      | 26, _ =>
       obtain ⟨s9, r9, _⟩ := hw 23 (by omega) (by kernel_rfl)
       have e9 : v 23 = .bool true := r9
       rw [e9] at s9
       exact gw_box rfl (wanted_on rfl rfl rfl s9 rfl) (.tmp 7) rfl (eval_of sl7) (GA.out.keep hb) ⟨_, rfl, Below.refl _ _, rfl⟩
      | 27, _ =>
       obtain ⟨s9, r9, _⟩ := hw 23 (by omega) (by kernel_rfl)
       have e9 : v 23 = .bool true := r9
       rw [e9] at s9
       obtain ⟨s0, r0, _⟩ := hw 26 (by omega) (by kernel_rfl)
       have e0 : v 26 = vO (oa.ob) pa := r0
       rw [e0] at s0
       refine gw_t rfl (wanted_on rfl rfl rfl s9 rfl) 23 59 _ _ rfl (fun v w => by go_simp) s0 ?_
       with_reducible refine (finiteR oa.ob pa w9 bA.out nA.out (ka.out.below hb)).mono ?_
       rintro e w3 ⟨rfl, hb3⟩
       exact ⟨_, rfl, _, rfl, hb3, rfl⟩
      | 28, _ =>
       obtain ⟨s9, r9, _⟩ := hw 23 (by omega) (by kernel_rfl)
       have e9 : v 23 = .bool true := r9
       rw [e9] at s9
       obtain ⟨s0, r0, _⟩ := hw 25 (by omega) (by kernel_rfl)
       have e0 : v 25 = .bool oa.ob.nat.isSome := r0
       rw [e0] at s0
       obtain ⟨s1, r1, _⟩ := hw 27 (by omega) (by kernel_rfl)
       have e1 : v 27 = .bool oa.ob.nat.isSome := r1
       rw [e1] at s1
       exact gw_eqlB rfl (wanted_on rfl rfl rfl s9 rfl) 58 60 _ rfl s0 s1 ⟨_, rfl, Below.refl _ _, rfl⟩
      | 29, _ =>
       obtain ⟨s0, r0, _⟩ := hw 23 (by omega) (by kernel_rfl)
       have e0 : v 23 = .bool true := r0
       rw [e0] at s0
       obtain ⟨s1, r1, _⟩ := hw 28 (by omega) (by kernel_rfl)
       have e1 : v 28 = .bool true := r1
       rw [e1] at s1
       exact gw_pickT rfl (wanted_plain rfl) 56 61 _ _ rfl s0 s1 ⟨_, rfl, Below.refl _ _, rfl⟩
      | k + 30, h => exact absurd h (by omega)
     case done =>
      intro a w9 v lo hi' hdef hsz hoth hb hj hap
      obtain ⟨_, hv29, _, _⟩ := hj 29 (by omega)
      have ha := eq_puts hdef hsz hoth (fun i hi => (hj i hi).1)
      subst ha
      clear hj hoth hdef hsz hap
      change v 29 = _ at hv29
      simp only [puts, List.getD_cons_zero, List.getD_cons_succ, hv29]
      generalize v 0 = v0
      generalize v 1 = v1
      generalize v 2 = v2
      generalize v 3 = v3
      generalize v 4 = v4
      generalize v 5 = v5
      generalize v 6 = v6
      generalize v 7 = v7
      generalize v 8 = v8
      generalize v 9 = v9
      generalize v 10 = v10
      generalize v 11 = v11
      generalize v 12 = v12
      generalize v 13 = v13
      generalize v 14 = v14
      generalize v 15 = v15
      generalize v 16 = v16
      generalize v 17 = v17
      generalize v 18 = v18
      generalize v 19 = v19
      generalize v 20 = v20
      generalize v 21 = v21
      generalize v 22 = v22
      generalize v 23 = v23
      generalize v 24 = v24
      generalize v 25 = v25
      generalize v 26 = v26
      generalize v 27 = v27
      generalize v 28 = v28
      clear hv29
      simp only [Act.put, List.setIfInBounds_toArray, List.set_cons_zero, List.set_cons_succ]
      show wpList _ _ _ [_] _ _
      replace HW := kW HW hb
      replace Bs := hI (Bs.out.keep hb)
      replace Br := hI (Br.out.keep hb)
      replace HT := kT HT hb
      replace GA := kB GA hb
      replace ka := kH ka hb
      replace GX := kB GX hb
      replace kx := kH kx hb
      replace GN := kB GN hb
      replace kn := kH kn hb
      clear hb
      go_wp2_with (first | (with_reducible refine lG (.tmp 7) GA.out ?_) | (with_reducible refine lG (.tmp 8) GX.out ?_) | (with_reducible refine lG (.tmp 9) GN.out ?_))
      go_ret
      exact ⟨rfl, HW.out⟩
end Go.Proofs.YtobjdkblpjmbjaaGreatDoor
