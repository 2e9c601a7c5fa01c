/- The walk of OrdinalAlgebra. -/
import Derived.Test.YtobjdkblpjmbjaaGreatDoorG19
import Derived.Test.YtobjdkblpjmbjaaGreatDoorG37
namespace Go.Proofs.YtobjdkblpjmbjaaGreatDoor
open Go Go.RowKit
set_option linter.unusedVariables false

set_option maxHeartbeats 16000000 in
set_option maxRecDepth 100000 in
theorem ordinalAlgebra_walk (s : Sd) (sc sd : Value) (t : Sd) (tc td : Value) (u : Sd) (uc ud : Value) (w : World) (As : SdAt w (Has w) s [sc, sd]) (Ns : s.cnt ≤ 1048576) (At : SdAt w (Has w) t [tc, td]) (Nt : t.cnt ≤ 1048576) (Au : SdAt w (Has w) u [uc, ud]) (Nu : u.cnt ≤ 1048576) (ht : Tab w) :
 Calls Tryz.prog 10 #[.agg #[sc, sd], .agg #[tc, td], .agg #[uc, ud]] w (RetB w true) := by
 have HT := hI ht
 have FW : Hid (∀ X, Below w.heap.size w X → Calls Tryz.prog 13 #[.slice (some ⟨X.heap.size, 0, none⟩) 3 3] (X.alloc (.cells #[sc, sd, tc, td, uc, ud] 24)) (fun e w' => e = .returned (.bool (fewSd [s, t, u])) ∧ Below X.heap.size X w')) := fun X h => few3 s sc sd t tc td u uc ud w X As Ns At Nt Au Nu h
 have Ks : Hid (fewSd [s, t, u] = true → ∃ a : On, a.sm 45 3 84 ∧ ∀ X, Below w.heap.size w X → Calls Tryz.prog 15 #[.agg #[sc, sd]] X (RetH X a.ob)) := fun hf => madeK hf (by simp) As ht
 have Kt : Hid (fewSd [s, t, u] = true → ∃ a : On, a.sm 45 3 84 ∧ ∀ X, Below w.heap.size w X → Calls Tryz.prog 15 #[.agg #[tc, td]] X (RetH X a.ob)) := fun hf => madeK hf (by simp) At ht
 have Ku : Hid (fewSd [s, t, u] = true → ∃ a : On, a.sm 45 3 84 ∧ ∀ X, Below w.heap.size w X → Calls Tryz.prog 15 #[.agg #[uc, ud]] X (RetH X a.ob)) := fun hf => madeK hf (by simp) Au ht
 generalize fewSd [s, t, u] = fs at FW Ks Kt Ku
 clear ht As Ns At Nt Au Nu
 go_enter Tryz.func10, Tryz.ntmps10
 go_wp2_with fail
 have T := blk3 w (.cells #[sc, sd] 24) (.cells #[tc, td] 24) (.cells #[uc, ud] 24)
 generalize (((w.alloc (.cells #[sc, sd] 24)).alloc (.cells #[tc, td] 24)).alloc (.cells #[uc, ud] 24)) = W at T ⊢
 obtain ⟨TB, T0, T1, T2⟩ := T
 have HW := hI TB
 have Bs : Hid (Sb W (w.heap.size) sc sd) := T0
 have Bt : Hid (Sb W (w.heap.size + 1) tc td) := T1
 have Bu : Hid (Sb W (w.heap.size + 1 + 1) uc ud) := T2
 replace HT := hI (HT.out.below TB)
 clear TB T0 T1 T2
 with_reducible refine (firstO _ HT.out).mono ?_
 rintro e w1 ⟨rfl, hb⟩
 replace HW := kW HW hb
 replace Bs := hI (Bs.out.keep hb)
 replace Bt := hI (Bt.out.keep hb)
 replace Bu := hI (Bu.out.keep hb)
 replace HT := kT HT hb
 clear hb
 have cs0 := Bs.out.c0
 have cs1 := Bs.out.c1
 have ct0 := Bt.out.c0
 have ct1 := Bt.out.c1
 have cu0 := Bu.out.c0
 have cu1 := Bu.out.c1
 go_wp2_with fail
 clear cs0 cs1 ct0 ct1 cu0 cu1
 with_reducible refine (FW.out _ HW.out).mono ?_
 rintro e w2 ⟨rfl, hb⟩
 replace HW := kW HW hb
 replace Bs := hI (Bs.out.keep hb)
 replace Bt := hI (Bt.out.keep hb)
 replace Bu := hI (Bu.out.keep hb)
 replace HT := kT HT hb
 clear hb
 cases fs with
 | false =>
  go_wp2
  all_goals go_ret
  all_goals exact ⟨rfl, HW.out⟩
 | true =>
  obtain ⟨oa, sma, Ma⟩ := Ks.out (by simp)
  replace sma := hI sma
  replace Ma := hI Ma
  obtain ⟨ob, smb, Mb⟩ := Kt.out (by simp)
  replace smb := hI smb
  replace Mb := hI Mb
  obtain ⟨oc, smc, Mc⟩ := Ku.out (by simp)
  replace smc := hI smc
  replace Mc := hI Mc
  clear Ks Kt Ku
  go_wp2_with fail
  refine wp_region_grow (l := _) 9 (by kernel_rfl) (by kernel_rfl) (fun i => [42, 43, 44, 45, 46, 47, 7, 8, 9].getD i 0) (LR [LV (.agg #[sc, sd]), LH (oa.ob), LV (.agg #[tc, td]), LH (ob.ob), LV (.agg #[uc, ud]), LH (oc.ob), LBx, LBx, LBx]) (LR_mono ⟨mLV _, mLH _, mLV _, mLH _, mLV _, mLH _, mLBx, mLBx, mLBx, trivial⟩) (by
   intro i j hi hj h
   exact inj_getD [42, 43, 44, 45, 46, 47, 7, 8, 9] (by decide) i j hi hj h) (by
   intro i hi
   exact lt_getD 188 [42, 43, 44, 45, 46, 47, 7, 8, 9] (by decide) i hi) ?step ?done
  case step =>
   intro i hi a w9 v lo hi' hoth hb hw
   have sl3 : a.tmps[3]? = some (.pointer (some ⟨w.heap.size, 0, none⟩)) := (hoth 3 (fun j hj => ne_getD 3 _ (by decide) j hj)).trans rfl
   have sl4 : a.tmps[4]? = some (.pointer (some ⟨w.heap.size + 1, 0, none⟩)) := (hoth 4 (fun j hj => ne_getD 4 _ (by decide) j hj)).trans rfl
   have sl5 : a.tmps[5]? = some (.pointer (some ⟨w.heap.size + 1 + 1, 0, none⟩)) := (hoth 5 (fun j hj => ne_getD 5 _ (by decide) j hj)).trans rfl
   match i, hi with
   | 0, _ =>
    exact gr_seed rfl rfl (.tmp 3) rfl (eval_of sl3) (Bs.out.keep hb) ⟨_, rfl, Below.refl _ _, rfl⟩
   | 1, _ =>
    obtain ⟨s0, r0, _⟩ := hw 0 (by omega) (by kernel_rfl)
    have e0 : v 0 = .agg #[sc, sd] := r0
    rw [e0] at s0
    refine gr_t rfl rfl 15 42 _ _ rfl (fun v w => by go_simp) s0 ?_
    with_reducible refine (Ma.out w9 (chain2 HW.out hb (Nat.le_refl _))).mono ?_
    rintro e w3 ⟨p, rfl, hp, hb3⟩
    exact ⟨_, rfl, _, rfl, hb3, p, rfl, hp⟩
   | 2, _ =>
    exact gr_seed rfl rfl (.tmp 4) rfl (eval_of sl4) (Bt.out.keep hb) ⟨_, rfl, Below.refl _ _, rfl⟩
   | 3, _ =>
    obtain ⟨s0, r0, _⟩ := hw 2 (by omega) (by kernel_rfl)
    have e0 : v 2 = .agg #[tc, td] := r0
    rw [e0] at s0
    refine gr_t rfl rfl 15 44 _ _ rfl (fun v w => by go_simp) s0 ?_
    with_reducible refine (Mb.out w9 (chain2 HW.out hb (Nat.le_refl _))).mono ?_
    rintro e w3 ⟨p, rfl, hp, hb3⟩
    exact ⟨_, rfl, _, rfl, hb3, p, rfl, hp⟩
   | 4, _ =>
    exact gr_seed rfl rfl (.tmp 5) rfl (eval_of sl5) (Bu.out.keep hb) ⟨_, rfl, Below.refl _ _, rfl⟩
   | 5, _ =>
    obtain ⟨s0, r0, _⟩ := hw 4 (by omega) (by kernel_rfl)
    have e0 : v 4 = .agg #[uc, ud] := r0
    rw [e0] at s0
    refine gr_t rfl rfl 15 46 _ _ rfl (fun v w => by go_simp) s0 ?_
    with_reducible refine (Mc.out w9 (chain2 HW.out hb (Nat.le_refl _))).mono ?_
    rintro e w3 ⟨p, rfl, hp, hb3⟩
    exact ⟨_, rfl, _, rfl, hb3, p, rfl, hp⟩
   | 6, _ =>
    exact grow_allocO rfl rfl rfl ⟨_, rfl, Below.alloc (Below.refl _ _) (Nat.le_refl _) _, rfl, heap_alloc_new _ _, by simp⟩
   | 7, _ =>
    exact grow_allocO rfl rfl rfl ⟨_, rfl, Below.alloc (Below.refl _ _) (Nat.le_refl _) _, rfl, heap_alloc_new _ _, by simp⟩
   | 8, _ =>
    exact grow_allocO rfl rfl rfl ⟨_, rfl, Below.alloc (Below.refl _ _) (Nat.le_refl _) _, rfl, heap_alloc_new _ _, by simp⟩
  case done =>
   intro a w9 v lo hi' hdef hsz hoth hb hj hap
   obtain ⟨_, ⟨pa, hv1, ka⟩, hlo1, hhi1⟩ := hj 1 (by omega)
   obtain ⟨_, ⟨pb, hv3, kb⟩, hlo3, hhi3⟩ := hj 3 (by omega)
   obtain ⟨_, ⟨pc, hv5, kc⟩, hlo5, hhi5⟩ := hj 5 (by omega)
   obtain ⟨_, ⟨hv6, Z6, hlt6⟩, hlo6, hhi6⟩ := hj 6 (by omega)
   obtain ⟨_, ⟨hv7, Z7, hlt7⟩, hlo7, hhi7⟩ := hj 7 (by omega)
   obtain ⟨_, ⟨hv8, Z8, hlt8⟩, hlo8, hhi8⟩ := hj 8 (by omega)
   have ha := eq_puts hdef hsz hoth (fun i hi => (hj i hi).1)
   subst ha
   clear hj hoth hdef hsz
   simp only [puts, List.getD_cons_zero, List.getD_cons_succ, hv1, hv3, hv5, hv6, hv7, hv8]
   generalize v 0 = v0
   generalize v 2 = v2
   generalize v 4 = v4
   clear hv1 hv3 hv5 hv6 hv7 hv8
   simp only [Act.put, List.setIfInBounds_toArray, List.set_cons_zero, List.set_cons_succ]
   show wpList _ _ _ [_, _, _] _ _
   have n01 := hap 6 7 (by omega) (by omega) (by decide)
   have n02 := hap 6 8 (by omega) (by omega) (by decide)
   have n12 := hap 7 8 (by omega) (by omega) (by decide)
   clear hap
   generalize lo 6 = g6 at *
   generalize hi' 6 = e6 at *
   generalize lo 7 = g7 at *
   generalize hi' 7 = e7 at *
   generalize lo 8 = g8 at *
   generalize hi' 8 = e8 at *
   refine storeB (w1 := w9) (g := g6) (b := oa.ob) (p := pa) (.tmp 7) (.tmp 43) rfl rfl rfl rfl ka Z6 ?_
   refine storeB (w1 := w9) (g := g7) (b := ob.ob) (p := pb) (.tmp 8) (.tmp 45) rfl rfl rfl rfl kb (Z7.other (by omega)) ?_
   refine storeB (w1 := w9) (g := g8) (b := oc.ob) (p := pc) (.tmp 9) (.tmp 47) rfl rfl rfl rfl kc ((Z8.other (by omega)).other (by omega)) ?_
   have P := Fill3.new hb Z6 ka hlo6 Z7 kb hlo7 Z8 kc hlo8 (by omega) (by omega) (by omega)
   generalize (World.setRow (World.setRow (World.setRow w9 g6 (cellsO (oa.ob) pa).toArray) g7 (cellsO (ob.ob) pb).toArray) g8 (cellsO (oc.ob) pc).toArray) = XM at P ⊢
   clear hb ka Z6 kb Z7 kc Z8
   have hb := P.bel
   replace HW := kW HW hb
   replace Bs := hI (Bs.out.keep hb)
   replace Bt := hI (Bt.out.keep hb)
   replace Bu := hI (Bu.out.keep hb)
   replace HT := kT HT hb
   have GA := hI P.b0
   have ka := hI P.k0
   have GB := hI P.b1
   have kb := hI P.k1
   have GC := hI P.b2
   have kc := hI P.k2
   clear hb P
   clear Bs Bt Bu
   clear FW Ma Mb Mc
   have sa := sma.out
   have sb := smb.out
   have sc := smc.out
   obtain ⟨ab, hab⟩ : ∃ t, t = addE oa ob := ⟨_, rfl⟩
   have sab : ab.sm 90 6 168 := by rw [hab]; exact sa.add sb
   have Cab : Hid (∀ X p q, Hd X oa.ob p → Hd X ob.ob q → Tab X → Calls Tryz.prog 35 #[vO oa.ob p, vO ob.ob q] X (RetHB X ab.ob true)) := fun X p q h1 h2 h3 => by rw [hab]; exact addPS sa sb (by omega) (by omega) p q X h1 h2 h3
   obtain ⟨bc, hbc⟩ : ∃ t, t = addE ob oc := ⟨_, rfl⟩
   have sbc : bc.sm 90 6 168 := by rw [hbc]; exact sb.add sc
   have Cbc : Hid (∀ X p q, Hd X ob.ob p → Hd X oc.ob q → Tab X → Calls Tryz.prog 35 #[vO ob.ob p, vO oc.ob q] X (RetHB X bc.ob true)) := fun X p q h1 h2 h3 => by rw [hbc]; exact addPS sb sc (by omega) (by omega) p q X h1 h2 h3
   obtain ⟨ac, hac⟩ : ∃ t, t = addE oa oc := ⟨_, rfl⟩
   have sac : ac.sm 90 6 168 := by rw [hac]; exact sa.add sc
   have Cac : Hid (∀ X p q, Hd X oa.ob p → Hd X oc.ob q → Tab X → Calls Tryz.prog 35 #[vO oa.ob p, vO oc.ob q] X (RetHB X ac.ob true)) := fun X p q h1 h2 h3 => by rw [hac]; exact addPS sa sc (by omega) (by omega) p q X h1 h2 h3
   obtain ⟨xx, hxx⟩ : ∃ t, t = mulE oa ob := ⟨_, rfl⟩
   have sxx : xx.sm 225 6 7224 := by rw [hxx]; exact sa.mul sb (by omega) (by omega)
   have Cxx : Hid (∀ X p q, Hd X oa.ob p → Hd X ob.ob q → Tab X → Calls Tryz.prog 37 #[vO oa.ob p, vO ob.ob q] X (RetHB X xx.ob true)) := fun X p q h1 h2 h3 => by rw [hxx]; exact mulPS sa sb (by omega) (by omega) (by omega) (by omega) p q X h1 h2 h3
   obtain ⟨zz, hzz⟩ : ∃ t, t = mulE oa oc := ⟨_, rfl⟩
   have szz : zz.sm 225 6 7224 := by rw [hzz]; exact sa.mul sc (by omega) (by omega)
   have Czz : Hid (∀ X p q, Hd X oa.ob p → Hd X oc.ob q → Tab X → Calls Tryz.prog 37 #[vO oa.ob p, vO oc.ob q] X (RetHB X zz.ob true)) := fun X p q h1 h2 h3 => by rw [hzz]; exact mulPS sa sc (by omega) (by omega) (by omega) (by omega) p q X h1 h2 h3
   obtain ⟨ll, hll⟩ : ∃ t, t = addE ab oc := ⟨_, rfl⟩
   have sll : ll.sm 135 9 252 := by rw [hll]; exact sab.add sc
   have Cll : Hid (∀ X p q, Hd X ab.ob p → Hd X oc.ob q → Tab X → Calls Tryz.prog 35 #[vO ab.ob p, vO oc.ob q] X (RetHB X ll.ob true)) := fun X p q h1 h2 h3 => by rw [hll]; exact addPS sab sc (by omega) (by omega) p q X h1 h2 h3
   obtain ⟨rr, hrr⟩ : ∃ t, t = addE oa bc := ⟨_, rfl⟩
   have srr : rr.sm 135 9 252 := by rw [hrr]; exact sa.add sbc
   have Crr : Hid (∀ X p q, Hd X oa.ob p → Hd X bc.ob q → Tab X → Calls Tryz.prog 35 #[vO oa.ob p, vO bc.ob q] X (RetHB X rr.ob true)) := fun X p q h1 h2 h3 => by rw [hrr]; exact addPS sa sbc (by omega) (by omega) p q X h1 h2 h3
   obtain ⟨mm, hmm⟩ : ∃ t, t = mulE oa bc := ⟨_, rfl⟩
   have smm : mm.sm 405 9 14364 := by rw [hmm]; exact sa.mul sbc (by omega) (by omega)
   have Cmm : Hid (∀ X p q, Hd X oa.ob p → Hd X bc.ob q → Tab X → Calls Tryz.prog 37 #[vO oa.ob p, vO bc.ob q] X (RetHB X mm.ob true)) := fun X p q h1 h2 h3 => by rw [hmm]; exact mulPS sa sbc (by omega) (by omega) (by omega) (by omega) p q X h1 h2 h3
   obtain ⟨nn, hnn⟩ : ∃ t, t = addE xx zz := ⟨_, rfl⟩
   have snn : nn.sm 450 12 14448 := by rw [hnn]; exact sxx.add szz
   have Cnn : Hid (∀ X p q, Hd X xx.ob p → Hd X zz.ob q → Tab X → Calls Tryz.prog 35 #[vO xx.ob p, vO zz.ob q] X (RetHB X nn.ob true)) := fun X p q h1 h2 h3 => by rw [hnn]; exact addPS sxx szz (by omega) (by omega) p q X h1 h2 h3
   obtain ⟨pp, hpp⟩ : ∃ t, t = mulE xx oc := ⟨_, rfl⟩
   have spp : pp.sm 945 9 614124 := by rw [hpp]; exact sxx.mul sc (by omega) (by omega)
   have Cpp : Hid (∀ X p q, Hd X xx.ob p → Hd X oc.ob q → Tab X → Calls Tryz.prog 37 #[vO xx.ob p, vO oc.ob q] X (RetHB X pp.ob true)) := fun X p q h1 h2 h3 => by rw [hpp]; exact mulPS sxx sc (by omega) (by omega) (by omega) (by omega) p q X h1 h2 h3
   obtain ⟨dd, hdd⟩ : ∃ t, t = mulE ob oc := ⟨_, rfl⟩
   have sdd : dd.sm 225 6 7224 := by rw [hdd]; exact sb.mul sc (by omega) (by omega)
   have Cdd : Hid (∀ X p q, Hd X ob.ob p → Hd X oc.ob q → Tab X → Calls Tryz.prog 37 #[vO ob.ob p, vO oc.ob q] X (RetHB X dd.ob true)) := fun X p q h1 h2 h3 => by rw [hdd]; exact mulPS sb sc (by omega) (by omega) (by omega) (by omega) p q X h1 h2 h3
   obtain ⟨qq, hqq⟩ : ∃ t, t = mulE oa dd := ⟨_, rfl⟩
   have sqq : qq.sm 540 9 614124 := by rw [hqq]; exact sa.mul sdd (by omega) (by omega)
   have Cqq : Hid (∀ X p q, Hd X oa.ob p → Hd X dd.ob q → Tab X → Calls Tryz.prog 37 #[vO oa.ob p, vO dd.ob q] X (RetHB X qq.ob true)) := fun X p q h1 h2 h3 => by rw [hqq]; exact mulPS sa sdd (by omega) (by omega) (by omega) (by omega) p q X h1 h2 h3
   have E1 : Hid (decide (ll.ob = rr.ob) = true) := decide_eq_true (by rw [hll, hrr, hab, hbc, addE_assoc oa ob oc sa.nf sb.nf sc.nf])
   have E2 : Hid (decide (mm.ob = nn.ob) = true) := decide_eq_true (by rw [hmm, hnn, hbc, hxx, hzz, mulE_dist sa.nf ob oc sb.nf sc.nf])
   have E3 : Hid (decide (pp.ob = qq.ob) = true) := decide_eq_true (by rw [hpp, hqq, hxx, hdd, mulE_assoc sa.nf sb.nf oc sc.nf])
   have E4 : Hid (cmpE ob oc < 0 → decide (cmpE ab ac < 0) = true) := fun h => decide_eq_true (by rw [hab, hac]; exact addE_mono oa ob oc sa.nf sb.nf sc.nf h)
   have Sab := hI sab
   have Sac := hI sac
   clear hab hbc hac hxx hzz hll hrr hmm hnn hpp hdd hqq sab sbc sac sxx szz sll srr smm snn spp sdd sqq sa sb sc
   go_wp2_with (first | (with_reducible refine lG (.tmp 7) GA.out ?_) | (with_reducible refine lG (.tmp 8) GB.out ?_) | (with_reducible refine lG (.tmp 9) GC.out ?_))
   with_reducible refine (Cab.out _ _ _ ka.out kb.out HT.out).mono ?_
   rintro e w3 ⟨pab, rfl, kab, hb⟩
   replace HW := kW HW hb
   replace HT := kT HT hb
   replace GA := kB GA hb
   replace ka := kH ka hb
   replace GB := kB GB hb
   replace kb := kH kb hb
   replace GC := kB GC hb
   replace kc := kH kc hb
   clear hb
   replace kab := hI kab
   have T := hI (Bx1.new w3 #[.int .i64 0, .string ⟨#[]⟩, .string ⟨#[]⟩, .string ⟨#[]⟩, .string ⟨#[]⟩, .string ⟨#[]⟩, .slice none 0 0])
   go_wp2_with (first | (with_reducible refine sB (.tmp 10) (.tmp 52) kab.out T.out.b0 ?_; have P := Pt1.new (w := w3) (o := ab.ob) (p := pab) (z := #[.int .i64 0, .string ⟨#[]⟩, .string ⟨#[]⟩, .string ⟨#[]⟩, .string ⟨#[]⟩, .string ⟨#[]⟩, .slice none 0 0]); generalize World.setRow (w3.alloc (.cells #[.int .i64 0, .string ⟨#[]⟩, .string ⟨#[]⟩, .string ⟨#[]⟩, .string ⟨#[]⟩, .string ⟨#[]⟩, .slice none 0 0] 35)) w3.heap.size (cellsO (ab.ob) pab).toArray = X3 at P ⊢; have hb := P.bel; replace HW := kW HW hb; replace HT := kT HT hb; replace GA := kB GA hb; replace ka := kH ka hb; replace GB := kB GB hb; replace kb := kH kb hb; replace GC := kB GC hb; replace kc := kH kc hb; replace kab := kH kab hb; have Gab := hI P.b0; clear P hb T) | (with_reducible refine lG (.tmp 7) GA.out ?_) | (with_reducible refine lG (.tmp 8) GB.out ?_) | (with_reducible refine lG (.tmp 9) GC.out ?_) | (with_reducible refine lG (.tmp 10) Gab.out ?_))
   with_reducible refine (Cbc.out _ _ _ kb.out kc.out HT.out).mono ?_
   rintro e w4 ⟨pbc, rfl, kbc, hb⟩
   replace HW := kW HW hb
   replace HT := kT HT hb
   replace GA := kB GA hb
   replace ka := kH ka hb
   replace GB := kB GB hb
   replace kb := kH kb hb
   replace GC := kB GC hb
   replace kc := kH kc hb
   replace kab := kH kab hb
   replace Gab := kB Gab hb
   clear hb
   replace kbc := hI kbc
   have T := hI (Bx1.new w4 #[.int .i64 0, .string ⟨#[]⟩, .string ⟨#[]⟩, .string ⟨#[]⟩, .string ⟨#[]⟩, .string ⟨#[]⟩, .slice none 0 0])
   go_wp2_with (first | (with_reducible refine sB (.tmp 12) (.tmp 58) kbc.out T.out.b0 ?_; have P := Pt1.new (w := w4) (o := bc.ob) (p := pbc) (z := #[.int .i64 0, .string ⟨#[]⟩, .string ⟨#[]⟩, .string ⟨#[]⟩, .string ⟨#[]⟩, .string ⟨#[]⟩, .slice none 0 0]); generalize World.setRow (w4.alloc (.cells #[.int .i64 0, .string ⟨#[]⟩, .string ⟨#[]⟩, .string ⟨#[]⟩, .string ⟨#[]⟩, .string ⟨#[]⟩, .slice none 0 0] 35)) w4.heap.size (cellsO (bc.ob) pbc).toArray = X4 at P ⊢; have hb := P.bel; replace HW := kW HW hb; replace HT := kT HT hb; replace GA := kB GA hb; replace ka := kH ka hb; replace GB := kB GB hb; replace kb := kH kb hb; replace GC := kB GC hb; replace kc := kH kc hb; replace kab := kH kab hb; replace Gab := kB Gab hb; replace kbc := kH kbc hb; have Gbc := hI P.b0; clear P hb T) | (with_reducible refine lG (.tmp 7) GA.out ?_) | (with_reducible refine lG (.tmp 8) GB.out ?_) | (with_reducible refine lG (.tmp 9) GC.out ?_) | (with_reducible refine lG (.tmp 10) Gab.out ?_) | (with_reducible refine lG (.tmp 12) Gbc.out ?_))
   with_reducible refine (Cac.out _ _ _ ka.out kc.out HT.out).mono ?_
   rintro e w5 ⟨pac, rfl, kac, hb⟩
   replace HW := kW HW hb
   replace HT := kT HT hb
   replace GA := kB GA hb
   replace ka := kH ka hb
   replace GB := kB GB hb
   replace kb := kH kb hb
   replace GC := kB GC hb
   replace kc := kH kc hb
   replace kab := kH kab hb
   replace Gab := kB Gab hb
   replace kbc := kH kbc hb
   replace Gbc := kB Gbc hb
   clear hb
   replace kac := hI kac
   have T := hI (Bx1.new w5 #[.int .i64 0, .string ⟨#[]⟩, .string ⟨#[]⟩, .string ⟨#[]⟩, .string ⟨#[]⟩, .string ⟨#[]⟩, .slice none 0 0])
   go_wp2_with (first | (with_reducible refine sB (.tmp 14) (.tmp 64) kac.out T.out.b0 ?_; have P := Pt1.new (w := w5) (o := ac.ob) (p := pac) (z := #[.int .i64 0, .string ⟨#[]⟩, .string ⟨#[]⟩, .string ⟨#[]⟩, .string ⟨#[]⟩, .string ⟨#[]⟩, .slice none 0 0]); generalize World.setRow (w5.alloc (.cells #[.int .i64 0, .string ⟨#[]⟩, .string ⟨#[]⟩, .string ⟨#[]⟩, .string ⟨#[]⟩, .string ⟨#[]⟩, .slice none 0 0] 35)) w5.heap.size (cellsO (ac.ob) pac).toArray = X5 at P ⊢; have hb := P.bel; replace HW := kW HW hb; replace HT := kT HT hb; replace GA := kB GA hb; replace ka := kH ka hb; replace GB := kB GB hb; replace kb := kH kb hb; replace GC := kB GC hb; replace kc := kH kc hb; replace kab := kH kab hb; replace Gab := kB Gab hb; replace kbc := kH kbc hb; replace Gbc := kB Gbc hb; replace kac := kH kac hb; have Gac := hI P.b0; clear P hb T) | (with_reducible refine lG (.tmp 7) GA.out ?_) | (with_reducible refine lG (.tmp 8) GB.out ?_) | (with_reducible refine lG (.tmp 9) GC.out ?_) | (with_reducible refine lG (.tmp 10) Gab.out ?_) | (with_reducible refine lG (.tmp 12) Gbc.out ?_) | (with_reducible refine lG (.tmp 14) Gac.out ?_))
   with_reducible refine (Cxx.out _ _ _ ka.out kb.out HT.out).mono ?_
   rintro e w6 ⟨pxx, rfl, kxx, hb⟩
   replace HW := kW HW hb
   replace HT := kT HT hb
   replace GA := kB GA hb
   replace ka := kH ka hb
   replace GB := kB GB hb
   replace kb := kH kb hb
   replace GC := kB GC hb
   replace kc := kH kc hb
   replace kab := kH kab hb
   replace Gab := kB Gab hb
   replace kbc := kH kbc hb
   replace Gbc := kB Gbc hb
   replace kac := kH kac hb
   replace Gac := kB Gac hb
   clear hb
   replace kxx := hI kxx
   have T := hI (Bx1.new w6 #[.int .i64 0, .string ⟨#[]⟩, .string ⟨#[]⟩, .string ⟨#[]⟩, .string ⟨#[]⟩, .string ⟨#[]⟩, .slice none 0 0])
   go_wp2_with (first | (with_reducible refine sB (.tmp 16) (.tmp 70) kxx.out T.out.b0 ?_; have P := Pt1.new (w := w6) (o := xx.ob) (p := pxx) (z := #[.int .i64 0, .string ⟨#[]⟩, .string ⟨#[]⟩, .string ⟨#[]⟩, .string ⟨#[]⟩, .string ⟨#[]⟩, .slice none 0 0]); generalize World.setRow (w6.alloc (.cells #[.int .i64 0, .string ⟨#[]⟩, .string ⟨#[]⟩, .string ⟨#[]⟩, .string ⟨#[]⟩, .string ⟨#[]⟩, .slice none 0 0] 35)) w6.heap.size (cellsO (xx.ob) pxx).toArray = X6 at P ⊢; have hb := P.bel; replace HW := kW HW hb; replace HT := kT HT hb; replace GA := kB GA hb; replace ka := kH ka hb; replace GB := kB GB hb; replace kb := kH kb hb; replace GC := kB GC hb; replace kc := kH kc hb; replace kab := kH kab hb; replace Gab := kB Gab hb; replace kbc := kH kbc hb; replace Gbc := kB Gbc hb; replace kac := kH kac hb; replace Gac := kB Gac hb; replace kxx := kH kxx hb; have Gxx := hI P.b0; clear P hb T) | (with_reducible refine lG (.tmp 7) GA.out ?_) | (with_reducible refine lG (.tmp 8) GB.out ?_) | (with_reducible refine lG (.tmp 9) GC.out ?_) | (with_reducible refine lG (.tmp 10) Gab.out ?_) | (with_reducible refine lG (.tmp 12) Gbc.out ?_) | (with_reducible refine lG (.tmp 14) Gac.out ?_) | (with_reducible refine lG (.tmp 16) Gxx.out ?_))
   with_reducible refine (Czz.out _ _ _ ka.out kc.out HT.out).mono ?_
   rintro e w7 ⟨pzz, rfl, kzz, hb⟩
   replace HW := kW HW hb
   replace HT := kT HT hb
   replace GA := kB GA hb
   replace ka := kH ka hb
   replace GB := kB GB hb
   replace kb := kH kb hb
   replace GC := kB GC hb
   replace kc := kH kc hb
   replace kab := kH kab hb
   replace Gab := kB Gab hb
   replace kbc := kH kbc hb
   replace Gbc := kB Gbc hb
   replace kac := kH kac hb
   replace Gac := kB Gac hb
   replace kxx := kH kxx hb
   replace Gxx := kB Gxx hb
   clear hb
   replace kzz := hI kzz
   have T := hI (Bx1.new w7 #[.int .i64 0, .string ⟨#[]⟩, .string ⟨#[]⟩, .string ⟨#[]⟩, .string ⟨#[]⟩, .string ⟨#[]⟩, .slice none 0 0])
   go_wp2_with (first | (with_reducible refine sB (.tmp 18) (.tmp 76) kzz.out T.out.b0 ?_; have P := Pt1.new (w := w7) (o := zz.ob) (p := pzz) (z := #[.int .i64 0, .string ⟨#[]⟩, .string ⟨#[]⟩, .string ⟨#[]⟩, .string ⟨#[]⟩, .string ⟨#[]⟩, .slice none 0 0]); generalize World.setRow (w7.alloc (.cells #[.int .i64 0, .string ⟨#[]⟩, .string ⟨#[]⟩, .string ⟨#[]⟩, .string ⟨#[]⟩, .string ⟨#[]⟩, .slice none 0 0] 35)) w7.heap.size (cellsO (zz.ob) pzz).toArray = X7 at P ⊢; have hb := P.bel; replace HW := kW HW hb; replace HT := kT HT hb; replace GA := kB GA hb; replace ka := kH ka hb; replace GB := kB GB hb; replace kb := kH kb hb; replace GC := kB GC hb; replace kc := kH kc hb; replace kab := kH kab hb; replace Gab := kB Gab hb; replace kbc := kH kbc hb; replace Gbc := kB Gbc hb; replace kac := kH kac hb; replace Gac := kB Gac hb; replace kxx := kH kxx hb; replace Gxx := kB Gxx hb; replace kzz := kH kzz hb; have Gzz := hI P.b0; clear P hb T) | (with_reducible refine lG (.tmp 7) GA.out ?_) | (with_reducible refine lG (.tmp 8) GB.out ?_) | (with_reducible refine lG (.tmp 9) GC.out ?_) | (with_reducible refine lG (.tmp 10) Gab.out ?_) | (with_reducible refine lG (.tmp 12) Gbc.out ?_) | (with_reducible refine lG (.tmp 14) Gac.out ?_) | (with_reducible refine lG (.tmp 16) Gxx.out ?_) | (with_reducible refine lG (.tmp 18) Gzz.out ?_))
   with_reducible refine (Cll.out _ _ _ kab.out kc.out HT.out).mono ?_
   rintro e w8 ⟨pll, rfl, kll, hb⟩
   replace HW := kW HW hb
   replace HT := kT HT hb
   replace GA := kB GA hb
   replace ka := kH ka hb
   replace GB := kB GB hb
   replace kb := kH kb hb
   replace GC := kB GC hb
   replace kc := kH kc hb
   replace kab := kH kab hb
   replace Gab := kB Gab hb
   replace kbc := kH kbc hb
   replace Gbc := kB Gbc hb
   replace kac := kH kac hb
   replace Gac := kB Gac hb
   replace kxx := kH kxx hb
   replace Gxx := kB Gxx hb
   replace kzz := kH kzz hb
   replace Gzz := kB Gzz hb
   clear hb
   replace kll := hI kll
   have T := hI (Bx1.new w8 #[.int .i64 0, .string ⟨#[]⟩, .string ⟨#[]⟩, .string ⟨#[]⟩, .string ⟨#[]⟩, .string ⟨#[]⟩, .slice none 0 0])
   go_wp2_with (first | (with_reducible refine sB (.tmp 20) (.tmp 100) kll.out T.out.b0 ?_; have P := Pt1.new (w := w8) (o := ll.ob) (p := pll) (z := #[.int .i64 0, .string ⟨#[]⟩, .string ⟨#[]⟩, .string ⟨#[]⟩, .string ⟨#[]⟩, .string ⟨#[]⟩, .slice none 0 0]); generalize World.setRow (w8.alloc (.cells #[.int .i64 0, .string ⟨#[]⟩, .string ⟨#[]⟩, .string ⟨#[]⟩, .string ⟨#[]⟩, .string ⟨#[]⟩, .slice none 0 0] 35)) w8.heap.size (cellsO (ll.ob) pll).toArray = X8 at P ⊢; have hb := P.bel; replace HW := kW HW hb; replace HT := kT HT hb; replace GA := kB GA hb; replace ka := kH ka hb; replace GB := kB GB hb; replace kb := kH kb hb; replace GC := kB GC hb; replace kc := kH kc hb; replace kab := kH kab hb; replace Gab := kB Gab hb; replace kbc := kH kbc hb; replace Gbc := kB Gbc hb; replace kac := kH kac hb; replace Gac := kB Gac hb; replace kxx := kH kxx hb; replace Gxx := kB Gxx hb; replace kzz := kH kzz hb; replace Gzz := kB Gzz hb; replace kll := kH kll hb; have Gll := hI P.b0; clear P hb T) | (with_reducible refine lG (.tmp 7) GA.out ?_) | (with_reducible refine lG (.tmp 8) GB.out ?_) | (with_reducible refine lG (.tmp 9) GC.out ?_) | (with_reducible refine lG (.tmp 10) Gab.out ?_) | (with_reducible refine lG (.tmp 12) Gbc.out ?_) | (with_reducible refine lG (.tmp 14) Gac.out ?_) | (with_reducible refine lG (.tmp 16) Gxx.out ?_) | (with_reducible refine lG (.tmp 18) Gzz.out ?_) | (with_reducible refine lG (.tmp 20) Gll.out ?_))
   with_reducible refine (Crr.out _ _ _ ka.out kbc.out HT.out).mono ?_
   rintro e w9 ⟨prr, rfl, krr, hb⟩
   replace HW := kW HW hb
   replace HT := kT HT hb
   replace GA := kB GA hb
   replace ka := kH ka hb
   replace GB := kB GB hb
   replace kb := kH kb hb
   replace GC := kB GC hb
   replace kc := kH kc hb
   replace kab := kH kab hb
   replace Gab := kB Gab hb
   replace kbc := kH kbc hb
   replace Gbc := kB Gbc hb
   replace kac := kH kac hb
   replace Gac := kB Gac hb
   replace kxx := kH kxx hb
   replace Gxx := kB Gxx hb
   replace kzz := kH kzz hb
   replace Gzz := kB Gzz hb
   replace kll := kH kll hb
   replace Gll := kB Gll hb
   clear hb
   replace krr := hI krr
   have T := hI (Bx1.new w9 #[.int .i64 0, .string ⟨#[]⟩, .string ⟨#[]⟩, .string ⟨#[]⟩, .string ⟨#[]⟩, .string ⟨#[]⟩, .slice none 0 0])
   go_wp2_with (first | (with_reducible refine sB (.tmp 22) (.tmp 106) krr.out T.out.b0 ?_; have P := Pt1.new (w := w9) (o := rr.ob) (p := prr) (z := #[.int .i64 0, .string ⟨#[]⟩, .string ⟨#[]⟩, .string ⟨#[]⟩, .string ⟨#[]⟩, .string ⟨#[]⟩, .slice none 0 0]); generalize World.setRow (w9.alloc (.cells #[.int .i64 0, .string ⟨#[]⟩, .string ⟨#[]⟩, .string ⟨#[]⟩, .string ⟨#[]⟩, .string ⟨#[]⟩, .slice none 0 0] 35)) w9.heap.size (cellsO (rr.ob) prr).toArray = X9 at P ⊢; have hb := P.bel; replace HW := kW HW hb; replace HT := kT HT hb; replace GA := kB GA hb; replace ka := kH ka hb; replace GB := kB GB hb; replace kb := kH kb hb; replace GC := kB GC hb; replace kc := kH kc hb; replace kab := kH kab hb; replace Gab := kB Gab hb; replace kbc := kH kbc hb; replace Gbc := kB Gbc hb; replace kac := kH kac hb; replace Gac := kB Gac hb; replace kxx := kH kxx hb; replace Gxx := kB Gxx hb; replace kzz := kH kzz hb; replace Gzz := kB Gzz hb; replace kll := kH kll hb; replace Gll := kB Gll hb; replace krr := kH krr hb; have Grr := hI P.b0; clear P hb T) | (with_reducible refine lG (.tmp 7) GA.out ?_) | (with_reducible refine lG (.tmp 8) GB.out ?_) | (with_reducible refine lG (.tmp 9) GC.out ?_) | (with_reducible refine lG (.tmp 10) Gab.out ?_) | (with_reducible refine lG (.tmp 12) Gbc.out ?_) | (with_reducible refine lG (.tmp 14) Gac.out ?_) | (with_reducible refine lG (.tmp 16) Gxx.out ?_) | (with_reducible refine lG (.tmp 18) Gzz.out ?_) | (with_reducible refine lG (.tmp 20) Gll.out ?_) | (with_reducible refine lG (.tmp 22) Grr.out ?_))
   with_reducible refine (Cmm.out _ _ _ ka.out kbc.out HT.out).mono ?_
   rintro e w10 ⟨pmm, rfl, kmm, hb⟩
   replace HW := kW HW hb
   replace HT := kT HT hb
   replace GA := kB GA hb
   replace ka := kH ka hb
   replace GB := kB GB hb
   replace kb := kH kb hb
   replace GC := kB GC hb
   replace kc := kH kc hb
   replace kab := kH kab hb
   replace Gab := kB Gab hb
   replace kbc := kH kbc hb
   replace Gbc := kB Gbc hb
   replace kac := kH kac hb
   replace Gac := kB Gac hb
   replace kxx := kH kxx hb
   replace Gxx := kB Gxx hb
   replace kzz := kH kzz hb
   replace Gzz := kB Gzz hb
   replace kll := kH kll hb
   replace Gll := kB Gll hb
   replace krr := kH krr hb
   replace Grr := kB Grr hb
   clear hb
   replace kmm := hI kmm
   have T := hI (Bx1.new w10 #[.int .i64 0, .string ⟨#[]⟩, .string ⟨#[]⟩, .string ⟨#[]⟩, .string ⟨#[]⟩, .string ⟨#[]⟩, .slice none 0 0])
   go_wp2_with (first | (with_reducible refine sB (.tmp 24) (.tmp 112) kmm.out T.out.b0 ?_; have P := Pt1.new (w := w10) (o := mm.ob) (p := pmm) (z := #[.int .i64 0, .string ⟨#[]⟩, .string ⟨#[]⟩, .string ⟨#[]⟩, .string ⟨#[]⟩, .string ⟨#[]⟩, .slice none 0 0]); generalize World.setRow (w10.alloc (.cells #[.int .i64 0, .string ⟨#[]⟩, .string ⟨#[]⟩, .string ⟨#[]⟩, .string ⟨#[]⟩, .string ⟨#[]⟩, .slice none 0 0] 35)) w10.heap.size (cellsO (mm.ob) pmm).toArray = X10 at P ⊢; have hb := P.bel; replace HW := kW HW hb; replace HT := kT HT hb; replace GA := kB GA hb; replace ka := kH ka hb; replace GB := kB GB hb; replace kb := kH kb hb; replace GC := kB GC hb; replace kc := kH kc hb; replace kab := kH kab hb; replace Gab := kB Gab hb; replace kbc := kH kbc hb; replace Gbc := kB Gbc hb; replace kac := kH kac hb; replace Gac := kB Gac hb; replace kxx := kH kxx hb; replace Gxx := kB Gxx hb; replace kzz := kH kzz hb; replace Gzz := kB Gzz hb; replace kll := kH kll hb; replace Gll := kB Gll hb; replace krr := kH krr hb; replace Grr := kB Grr hb; replace kmm := kH kmm hb; have Gmm := hI P.b0; clear P hb T) | (with_reducible refine lG (.tmp 7) GA.out ?_) | (with_reducible refine lG (.tmp 8) GB.out ?_) | (with_reducible refine lG (.tmp 9) GC.out ?_) | (with_reducible refine lG (.tmp 10) Gab.out ?_) | (with_reducible refine lG (.tmp 12) Gbc.out ?_) | (with_reducible refine lG (.tmp 14) Gac.out ?_) | (with_reducible refine lG (.tmp 16) Gxx.out ?_) | (with_reducible refine lG (.tmp 18) Gzz.out ?_) | (with_reducible refine lG (.tmp 20) Gll.out ?_) | (with_reducible refine lG (.tmp 22) Grr.out ?_) | (with_reducible refine lG (.tmp 24) Gmm.out ?_))
   with_reducible refine (Cnn.out _ _ _ kxx.out kzz.out HT.out).mono ?_
   rintro e w11 ⟨pnn, rfl, knn, hb⟩
   replace HW := kW HW hb
   replace HT := kT HT hb
   replace GA := kB GA hb
   replace ka := kH ka hb
   replace GB := kB GB hb
   replace kb := kH kb hb
   replace GC := kB GC hb
   replace kc := kH kc hb
   replace kab := kH kab hb
   replace Gab := kB Gab hb
   replace kbc := kH kbc hb
   replace Gbc := kB Gbc hb
   replace kac := kH kac hb
   replace Gac := kB Gac hb
   replace kxx := kH kxx hb
   replace Gxx := kB Gxx hb
   replace kzz := kH kzz hb
   replace Gzz := kB Gzz hb
   replace kll := kH kll hb
   replace Gll := kB Gll hb
   replace krr := kH krr hb
   replace Grr := kB Grr hb
   replace kmm := kH kmm hb
   replace Gmm := kB Gmm hb
   clear hb
   replace knn := hI knn
   have T := hI (Bx1.new w11 #[.int .i64 0, .string ⟨#[]⟩, .string ⟨#[]⟩, .string ⟨#[]⟩, .string ⟨#[]⟩, .string ⟨#[]⟩, .slice none 0 0])
   go_wp2_with (first | (with_reducible refine sB (.tmp 26) (.tmp 118) knn.out T.out.b0 ?_; have P := Pt1.new (w := w11) (o := nn.ob) (p := pnn) (z := #[.int .i64 0, .string ⟨#[]⟩, .string ⟨#[]⟩, .string ⟨#[]⟩, .string ⟨#[]⟩, .string ⟨#[]⟩, .slice none 0 0]); generalize World.setRow (w11.alloc (.cells #[.int .i64 0, .string ⟨#[]⟩, .string ⟨#[]⟩, .string ⟨#[]⟩, .string ⟨#[]⟩, .string ⟨#[]⟩, .slice none 0 0] 35)) w11.heap.size (cellsO (nn.ob) pnn).toArray = X11 at P ⊢; have hb := P.bel; replace HW := kW HW hb; replace HT := kT HT hb; replace GA := kB GA hb; replace ka := kH ka hb; replace GB := kB GB hb; replace kb := kH kb hb; replace GC := kB GC hb; replace kc := kH kc hb; replace kab := kH kab hb; replace Gab := kB Gab hb; replace kbc := kH kbc hb; replace Gbc := kB Gbc hb; replace kac := kH kac hb; replace Gac := kB Gac hb; replace kxx := kH kxx hb; replace Gxx := kB Gxx hb; replace kzz := kH kzz hb; replace Gzz := kB Gzz hb; replace kll := kH kll hb; replace Gll := kB Gll hb; replace krr := kH krr hb; replace Grr := kB Grr hb; replace kmm := kH kmm hb; replace Gmm := kB Gmm hb; replace knn := kH knn hb; have Gnn := hI P.b0; clear P hb T) | (with_reducible refine lG (.tmp 7) GA.out ?_) | (with_reducible refine lG (.tmp 8) GB.out ?_) | (with_reducible refine lG (.tmp 9) GC.out ?_) | (with_reducible refine lG (.tmp 10) Gab.out ?_) | (with_reducible refine lG (.tmp 12) Gbc.out ?_) | (with_reducible refine lG (.tmp 14) Gac.out ?_) | (with_reducible refine lG (.tmp 16) Gxx.out ?_) | (with_reducible refine lG (.tmp 18) Gzz.out ?_) | (with_reducible refine lG (.tmp 20) Gll.out ?_) | (with_reducible refine lG (.tmp 22) Grr.out ?_) | (with_reducible refine lG (.tmp 24) Gmm.out ?_) | (with_reducible refine lG (.tmp 26) Gnn.out ?_))
   with_reducible refine (Cpp.out _ _ _ kxx.out kc.out HT.out).mono ?_
   rintro e w12 ⟨ppp, rfl, kpp, hb⟩
   replace HW := kW HW hb
   replace HT := kT HT hb
   replace GA := kB GA hb
   replace ka := kH ka hb
   replace GB := kB GB hb
   replace kb := kH kb hb
   replace GC := kB GC hb
   replace kc := kH kc hb
   replace kab := kH kab hb
   replace Gab := kB Gab hb
   replace kbc := kH kbc hb
   replace Gbc := kB Gbc hb
   replace kac := kH kac hb
   replace Gac := kB Gac hb
   replace kxx := kH kxx hb
   replace Gxx := kB Gxx hb
   replace kzz := kH kzz hb
   replace Gzz := kB Gzz hb
   replace kll := kH kll hb
   replace Gll := kB Gll hb
   replace krr := kH krr hb
   replace Grr := kB Grr hb
   replace kmm := kH kmm hb
   replace Gmm := kB Gmm hb
   replace knn := kH knn hb
   replace Gnn := kB Gnn hb
   clear hb
   replace kpp := hI kpp
   have T := hI (Bx1.new w12 #[.int .i64 0, .string ⟨#[]⟩, .string ⟨#[]⟩, .string ⟨#[]⟩, .string ⟨#[]⟩, .string ⟨#[]⟩, .slice none 0 0])
   go_wp2_with (first | (with_reducible refine sB (.tmp 28) (.tmp 124) kpp.out T.out.b0 ?_; have P := Pt1.new (w := w12) (o := pp.ob) (p := ppp) (z := #[.int .i64 0, .string ⟨#[]⟩, .string ⟨#[]⟩, .string ⟨#[]⟩, .string ⟨#[]⟩, .string ⟨#[]⟩, .slice none 0 0]); generalize World.setRow (w12.alloc (.cells #[.int .i64 0, .string ⟨#[]⟩, .string ⟨#[]⟩, .string ⟨#[]⟩, .string ⟨#[]⟩, .string ⟨#[]⟩, .slice none 0 0] 35)) w12.heap.size (cellsO (pp.ob) ppp).toArray = X12 at P ⊢; have hb := P.bel; replace HW := kW HW hb; replace HT := kT HT hb; replace GA := kB GA hb; replace ka := kH ka hb; replace GB := kB GB hb; replace kb := kH kb hb; replace GC := kB GC hb; replace kc := kH kc hb; replace kab := kH kab hb; replace Gab := kB Gab hb; replace kbc := kH kbc hb; replace Gbc := kB Gbc hb; replace kac := kH kac hb; replace Gac := kB Gac hb; replace kxx := kH kxx hb; replace Gxx := kB Gxx hb; replace kzz := kH kzz hb; replace Gzz := kB Gzz hb; replace kll := kH kll hb; replace Gll := kB Gll hb; replace krr := kH krr hb; replace Grr := kB Grr hb; replace kmm := kH kmm hb; replace Gmm := kB Gmm hb; replace knn := kH knn hb; replace Gnn := kB Gnn hb; replace kpp := kH kpp hb; have Gpp := hI P.b0; clear P hb T) | (with_reducible refine lG (.tmp 7) GA.out ?_) | (with_reducible refine lG (.tmp 8) GB.out ?_) | (with_reducible refine lG (.tmp 9) GC.out ?_) | (with_reducible refine lG (.tmp 10) Gab.out ?_) | (with_reducible refine lG (.tmp 12) Gbc.out ?_) | (with_reducible refine lG (.tmp 14) Gac.out ?_) | (with_reducible refine lG (.tmp 16) Gxx.out ?_) | (with_reducible refine lG (.tmp 18) Gzz.out ?_) | (with_reducible refine lG (.tmp 20) Gll.out ?_) | (with_reducible refine lG (.tmp 22) Grr.out ?_) | (with_reducible refine lG (.tmp 24) Gmm.out ?_) | (with_reducible refine lG (.tmp 26) Gnn.out ?_) | (with_reducible refine lG (.tmp 28) Gpp.out ?_))
   with_reducible refine (Cdd.out _ _ _ kb.out kc.out HT.out).mono ?_
   rintro e w13 ⟨pdd, rfl, kdd, hb⟩
   replace HW := kW HW hb
   replace HT := kT HT hb
   replace GA := kB GA hb
   replace ka := kH ka hb
   replace GB := kB GB hb
   replace kb := kH kb hb
   replace GC := kB GC hb
   replace kc := kH kc hb
   replace kab := kH kab hb
   replace Gab := kB Gab hb
   replace kbc := kH kbc hb
   replace Gbc := kB Gbc hb
   replace kac := kH kac hb
   replace Gac := kB Gac hb
   replace kxx := kH kxx hb
   replace Gxx := kB Gxx hb
   replace kzz := kH kzz hb
   replace Gzz := kB Gzz hb
   replace kll := kH kll hb
   replace Gll := kB Gll hb
   replace krr := kH krr hb
   replace Grr := kB Grr hb
   replace kmm := kH kmm hb
   replace Gmm := kB Gmm hb
   replace knn := kH knn hb
   replace Gnn := kB Gnn hb
   replace kpp := kH kpp hb
   replace Gpp := kB Gpp hb
   clear hb
   replace kdd := hI kdd
   have T := hI (Bx1.new w13 #[.int .i64 0, .string ⟨#[]⟩, .string ⟨#[]⟩, .string ⟨#[]⟩, .string ⟨#[]⟩, .string ⟨#[]⟩, .slice none 0 0])
   go_wp2_with (first | (with_reducible refine sB (.tmp 30) (.tmp 130) kdd.out T.out.b0 ?_; have P := Pt1.new (w := w13) (o := dd.ob) (p := pdd) (z := #[.int .i64 0, .string ⟨#[]⟩, .string ⟨#[]⟩, .string ⟨#[]⟩, .string ⟨#[]⟩, .string ⟨#[]⟩, .slice none 0 0]); generalize World.setRow (w13.alloc (.cells #[.int .i64 0, .string ⟨#[]⟩, .string ⟨#[]⟩, .string ⟨#[]⟩, .string ⟨#[]⟩, .string ⟨#[]⟩, .slice none 0 0] 35)) w13.heap.size (cellsO (dd.ob) pdd).toArray = X13 at P ⊢; have hb := P.bel; replace HW := kW HW hb; replace HT := kT HT hb; replace GA := kB GA hb; replace ka := kH ka hb; replace GB := kB GB hb; replace kb := kH kb hb; replace GC := kB GC hb; replace kc := kH kc hb; replace kab := kH kab hb; replace Gab := kB Gab hb; replace kbc := kH kbc hb; replace Gbc := kB Gbc hb; replace kac := kH kac hb; replace Gac := kB Gac hb; replace kxx := kH kxx hb; replace Gxx := kB Gxx hb; replace kzz := kH kzz hb; replace Gzz := kB Gzz hb; replace kll := kH kll hb; replace Gll := kB Gll hb; replace krr := kH krr hb; replace Grr := kB Grr hb; replace kmm := kH kmm hb; replace Gmm := kB Gmm hb; replace knn := kH knn hb; replace Gnn := kB Gnn hb; replace kpp := kH kpp hb; replace Gpp := kB Gpp hb; replace kdd := kH kdd hb; have Gdd := hI P.b0; clear P hb T) | (with_reducible refine lG (.tmp 7) GA.out ?_) | (with_reducible refine lG (.tmp 8) GB.out ?_) | (with_reducible refine lG (.tmp 9) GC.out ?_) | (with_reducible refine lG (.tmp 10) Gab.out ?_) | (with_reducible refine lG (.tmp 12) Gbc.out ?_) | (with_reducible refine lG (.tmp 14) Gac.out ?_) | (with_reducible refine lG (.tmp 16) Gxx.out ?_) | (with_reducible refine lG (.tmp 18) Gzz.out ?_) | (with_reducible refine lG (.tmp 20) Gll.out ?_) | (with_reducible refine lG (.tmp 22) Grr.out ?_) | (with_reducible refine lG (.tmp 24) Gmm.out ?_) | (with_reducible refine lG (.tmp 26) Gnn.out ?_) | (with_reducible refine lG (.tmp 28) Gpp.out ?_) | (with_reducible refine lG (.tmp 30) Gdd.out ?_))
   with_reducible refine (Cqq.out _ _ _ ka.out kdd.out HT.out).mono ?_
   rintro e w14 ⟨pqq, rfl, kqq, hb⟩
   replace HW := kW HW hb
   replace HT := kT HT hb
   replace GA := kB GA hb
   replace ka := kH ka hb
   replace GB := kB GB hb
   replace kb := kH kb hb
   replace GC := kB GC hb
   replace kc := kH kc hb
   replace kab := kH kab hb
   replace Gab := kB Gab hb
   replace kbc := kH kbc hb
   replace Gbc := kB Gbc hb
   replace kac := kH kac hb
   replace Gac := kB Gac hb
   replace kxx := kH kxx hb
   replace Gxx := kB Gxx hb
   replace kzz := kH kzz hb
   replace Gzz := kB Gzz hb
   replace kll := kH kll hb
   replace Gll := kB Gll hb
   replace krr := kH krr hb
   replace Grr := kB Grr hb
   replace kmm := kH kmm hb
   replace Gmm := kB Gmm hb
   replace knn := kH knn hb
   replace Gnn := kB Gnn hb
   replace kpp := kH kpp hb
   replace Gpp := kB Gpp hb
   replace kdd := kH kdd hb
   replace Gdd := kB Gdd hb
   clear hb
   replace kqq := hI kqq
   have T := hI (Bx1.new w14 #[.int .i64 0, .string ⟨#[]⟩, .string ⟨#[]⟩, .string ⟨#[]⟩, .string ⟨#[]⟩, .string ⟨#[]⟩, .slice none 0 0])
   go_wp2_with (first | (with_reducible refine sB (.tmp 32) (.tmp 158) kqq.out T.out.b0 ?_; have P := Pt1.new (w := w14) (o := qq.ob) (p := pqq) (z := #[.int .i64 0, .string ⟨#[]⟩, .string ⟨#[]⟩, .string ⟨#[]⟩, .string ⟨#[]⟩, .string ⟨#[]⟩, .slice none 0 0]); generalize World.setRow (w14.alloc (.cells #[.int .i64 0, .string ⟨#[]⟩, .string ⟨#[]⟩, .string ⟨#[]⟩, .string ⟨#[]⟩, .string ⟨#[]⟩, .slice none 0 0] 35)) w14.heap.size (cellsO (qq.ob) pqq).toArray = X14 at P ⊢; have hb := P.bel; replace HW := kW HW hb; replace HT := kT HT hb; replace GA := kB GA hb; replace ka := kH ka hb; replace GB := kB GB hb; replace kb := kH kb hb; replace GC := kB GC hb; replace kc := kH kc hb; replace kab := kH kab hb; replace Gab := kB Gab hb; replace kbc := kH kbc hb; replace Gbc := kB Gbc hb; replace kac := kH kac hb; replace Gac := kB Gac hb; replace kxx := kH kxx hb; replace Gxx := kB Gxx hb; replace kzz := kH kzz hb; replace Gzz := kB Gzz hb; replace kll := kH kll hb; replace Gll := kB Gll hb; replace krr := kH krr hb; replace Grr := kB Grr hb; replace kmm := kH kmm hb; replace Gmm := kB Gmm hb; replace knn := kH knn hb; replace Gnn := kB Gnn hb; replace kpp := kH kpp hb; replace Gpp := kB Gpp hb; replace kdd := kH kdd hb; replace Gdd := kB Gdd hb; replace kqq := kH kqq hb; have Gqq := hI P.b0; clear P hb T) | (with_reducible refine lG (.tmp 7) GA.out ?_) | (with_reducible refine lG (.tmp 8) GB.out ?_) | (with_reducible refine lG (.tmp 9) GC.out ?_) | (with_reducible refine lG (.tmp 10) Gab.out ?_) | (with_reducible refine lG (.tmp 12) Gbc.out ?_) | (with_reducible refine lG (.tmp 14) Gac.out ?_) | (with_reducible refine lG (.tmp 16) Gxx.out ?_) | (with_reducible refine lG (.tmp 18) Gzz.out ?_) | (with_reducible refine lG (.tmp 20) Gll.out ?_) | (with_reducible refine lG (.tmp 22) Grr.out ?_) | (with_reducible refine lG (.tmp 24) Gmm.out ?_) | (with_reducible refine lG (.tmp 26) Gnn.out ?_) | (with_reducible refine lG (.tmp 28) Gpp.out ?_) | (with_reducible refine lG (.tmp 30) Gdd.out ?_) | (with_reducible refine lG (.tmp 32) Gqq.out ?_))
   with_reducible refine (equalH _ _ _ _ _ true E1.out kll.out krr.out).mono ?_
   rintro e w15 ⟨rfl, hb⟩
   replace HW := kW HW hb
   replace HT := kT HT hb
   replace GA := kB GA hb
   replace ka := kH ka hb
   replace GB := kB GB hb
   replace kb := kH kb hb
   replace GC := kB GC hb
   replace kc := kH kc hb
   replace kab := kH kab hb
   replace Gab := kB Gab hb
   replace kbc := kH kbc hb
   replace Gbc := kB Gbc hb
   replace kac := kH kac hb
   replace Gac := kB Gac hb
   replace kxx := kH kxx hb
   replace Gxx := kB Gxx hb
   replace kzz := kH kzz hb
   replace Gzz := kB Gzz hb
   replace kll := kH kll hb
   replace Gll := kB Gll hb
   replace krr := kH krr hb
   replace Grr := kB Grr hb
   replace kmm := kH kmm hb
   replace Gmm := kB Gmm hb
   replace knn := kH knn hb
   replace Gnn := kB Gnn hb
   replace kpp := kH kpp hb
   replace Gpp := kB Gpp hb
   replace kdd := kH kdd hb
   replace Gdd := kB Gdd hb
   replace kqq := kH kqq hb
   replace Gqq := kB Gqq hb
   clear hb
   go_wp2_with (first | (with_reducible refine lG (.tmp 7) GA.out ?_) | (with_reducible refine lG (.tmp 8) GB.out ?_) | (with_reducible refine lG (.tmp 9) GC.out ?_) | (with_reducible refine lG (.tmp 10) Gab.out ?_) | (with_reducible refine lG (.tmp 12) Gbc.out ?_) | (with_reducible refine lG (.tmp 14) Gac.out ?_) | (with_reducible refine lG (.tmp 16) Gxx.out ?_) | (with_reducible refine lG (.tmp 18) Gzz.out ?_) | (with_reducible refine lG (.tmp 20) Gll.out ?_) | (with_reducible refine lG (.tmp 22) Grr.out ?_) | (with_reducible refine lG (.tmp 24) Gmm.out ?_) | (with_reducible refine lG (.tmp 26) Gnn.out ?_) | (with_reducible refine lG (.tmp 28) Gpp.out ?_) | (with_reducible refine lG (.tmp 30) Gdd.out ?_) | (with_reducible refine lG (.tmp 32) Gqq.out ?_))
   with_reducible refine (equalH _ _ _ _ _ true E2.out kmm.out knn.out).mono ?_
   rintro e w16 ⟨rfl, hb⟩
   replace HW := kW HW hb
   replace HT := kT HT hb
   replace GA := kB GA hb
   replace ka := kH ka hb
   replace GB := kB GB hb
   replace kb := kH kb hb
   replace GC := kB GC hb
   replace kc := kH kc hb
   replace kab := kH kab hb
   replace Gab := kB Gab hb
   replace kbc := kH kbc hb
   replace Gbc := kB Gbc hb
   replace kac := kH kac hb
   replace Gac := kB Gac hb
   replace kxx := kH kxx hb
   replace Gxx := kB Gxx hb
   replace kzz := kH kzz hb
   replace Gzz := kB Gzz hb
   replace kll := kH kll hb
   replace Gll := kB Gll hb
   replace krr := kH krr hb
   replace Grr := kB Grr hb
   replace kmm := kH kmm hb
   replace Gmm := kB Gmm hb
   replace knn := kH knn hb
   replace Gnn := kB Gnn hb
   replace kpp := kH kpp hb
   replace Gpp := kB Gpp hb
   replace kdd := kH kdd hb
   replace Gdd := kB Gdd hb
   replace kqq := kH kqq hb
   replace Gqq := kB Gqq hb
   clear hb
   go_wp2_with (first | (with_reducible refine lG (.tmp 7) GA.out ?_) | (with_reducible refine lG (.tmp 8) GB.out ?_) | (with_reducible refine lG (.tmp 9) GC.out ?_) | (with_reducible refine lG (.tmp 10) Gab.out ?_) | (with_reducible refine lG (.tmp 12) Gbc.out ?_) | (with_reducible refine lG (.tmp 14) Gac.out ?_) | (with_reducible refine lG (.tmp 16) Gxx.out ?_) | (with_reducible refine lG (.tmp 18) Gzz.out ?_) | (with_reducible refine lG (.tmp 20) Gll.out ?_) | (with_reducible refine lG (.tmp 22) Grr.out ?_) | (with_reducible refine lG (.tmp 24) Gmm.out ?_) | (with_reducible refine lG (.tmp 26) Gnn.out ?_) | (with_reducible refine lG (.tmp 28) Gpp.out ?_) | (with_reducible refine lG (.tmp 30) Gdd.out ?_) | (with_reducible refine lG (.tmp 32) Gqq.out ?_))
   with_reducible refine (equalH _ _ _ _ _ true E3.out kpp.out kqq.out).mono ?_
   rintro e w17 ⟨rfl, hb⟩
   replace HW := kW HW hb
   replace HT := kT HT hb
   replace GA := kB GA hb
   replace ka := kH ka hb
   replace GB := kB GB hb
   replace kb := kH kb hb
   replace GC := kB GC hb
   replace kc := kH kc hb
   replace kab := kH kab hb
   replace Gab := kB Gab hb
   replace kbc := kH kbc hb
   replace Gbc := kB Gbc hb
   replace kac := kH kac hb
   replace Gac := kB Gac hb
   replace kxx := kH kxx hb
   replace Gxx := kB Gxx hb
   replace kzz := kH kzz hb
   replace Gzz := kB Gzz hb
   replace kll := kH kll hb
   replace Gll := kB Gll hb
   replace krr := kH krr hb
   replace Grr := kB Grr hb
   replace kmm := kH kmm hb
   replace Gmm := kB Gmm hb
   replace knn := kH knn hb
   replace Gnn := kB Gnn hb
   replace kpp := kH kpp hb
   replace Gpp := kB Gpp hb
   replace kdd := kH kdd hb
   replace Gdd := kB Gdd hb
   replace kqq := kH kqq hb
   replace Gqq := kB Gqq hb
   clear hb
   cases hz : decide (cmpE ob oc < 0) with
   | false =>
    replace hz := hI hz
    go_wp2_with (first | (with_reducible refine lG (.tmp 7) GA.out ?_) | (with_reducible refine lG (.tmp 8) GB.out ?_) | (with_reducible refine lG (.tmp 9) GC.out ?_) | (with_reducible refine lG (.tmp 10) Gab.out ?_) | (with_reducible refine lG (.tmp 12) Gbc.out ?_) | (with_reducible refine lG (.tmp 14) Gac.out ?_) | (with_reducible refine lG (.tmp 16) Gxx.out ?_) | (with_reducible refine lG (.tmp 18) Gzz.out ?_) | (with_reducible refine lG (.tmp 20) Gll.out ?_) | (with_reducible refine lG (.tmp 22) Grr.out ?_) | (with_reducible refine lG (.tmp 24) Gmm.out ?_) | (with_reducible refine lG (.tmp 26) Gnn.out ?_) | (with_reducible refine lG (.tmp 28) Gpp.out ?_) | (with_reducible refine lG (.tmp 30) Gdd.out ?_) | (with_reducible refine lG (.tmp 32) Gqq.out ?_))
    with_reducible refine (lessPB false hz.out smb.out smc.out (by omega) (by omega) (by omega) (by omega) _ _ _ kb.out kc.out HT.out).mono ?_
    rintro e w18 ⟨rfl, hb⟩
    replace HW := kW HW hb
    replace HT := kT HT hb
    replace GA := kB GA hb
    replace ka := kH ka hb
    replace GB := kB GB hb
    replace kb := kH kb hb
    replace GC := kB GC hb
    replace kc := kH kc hb
    replace kab := kH kab hb
    replace Gab := kB Gab hb
    replace kbc := kH kbc hb
    replace Gbc := kB Gbc hb
    replace kac := kH kac hb
    replace Gac := kB Gac hb
    replace kxx := kH kxx hb
    replace Gxx := kB Gxx hb
    replace kzz := kH kzz hb
    replace Gzz := kB Gzz hb
    replace kll := kH kll hb
    replace Gll := kB Gll hb
    replace krr := kH krr hb
    replace Grr := kB Grr hb
    replace kmm := kH kmm hb
    replace Gmm := kB Gmm hb
    replace knn := kH knn hb
    replace Gnn := kB Gnn hb
    replace kpp := kH kpp hb
    replace Gpp := kB Gpp hb
    replace kdd := kH kdd hb
    replace Gdd := kB Gdd hb
    replace kqq := kH kqq hb
    replace Gqq := kB Gqq hb
    clear hb
    go_wp2_with (first | (with_reducible refine lG (.tmp 7) GA.out ?_) | (with_reducible refine lG (.tmp 8) GB.out ?_) | (with_reducible refine lG (.tmp 9) GC.out ?_) | (with_reducible refine lG (.tmp 10) Gab.out ?_) | (with_reducible refine lG (.tmp 12) Gbc.out ?_) | (with_reducible refine lG (.tmp 14) Gac.out ?_) | (with_reducible refine lG (.tmp 16) Gxx.out ?_) | (with_reducible refine lG (.tmp 18) Gzz.out ?_) | (with_reducible refine lG (.tmp 20) Gll.out ?_) | (with_reducible refine lG (.tmp 22) Grr.out ?_) | (with_reducible refine lG (.tmp 24) Gmm.out ?_) | (with_reducible refine lG (.tmp 26) Gnn.out ?_) | (with_reducible refine lG (.tmp 28) Gpp.out ?_) | (with_reducible refine lG (.tmp 30) Gdd.out ?_) | (with_reducible refine lG (.tmp 32) Gqq.out ?_))
    go_ret
    exact ⟨rfl, HW.out⟩
   | true =>
    have hac : Hid (decide (cmpE ab ac < 0) = true) := E4.out (of_decide_eq_true hz)
    replace hz := hI hz
    go_wp2_with (first | (with_reducible refine lG (.tmp 7) GA.out ?_) | (with_reducible refine lG (.tmp 8) GB.out ?_) | (with_reducible refine lG (.tmp 9) GC.out ?_) | (with_reducible refine lG (.tmp 10) Gab.out ?_) | (with_reducible refine lG (.tmp 12) Gbc.out ?_) | (with_reducible refine lG (.tmp 14) Gac.out ?_) | (with_reducible refine lG (.tmp 16) Gxx.out ?_) | (with_reducible refine lG (.tmp 18) Gzz.out ?_) | (with_reducible refine lG (.tmp 20) Gll.out ?_) | (with_reducible refine lG (.tmp 22) Grr.out ?_) | (with_reducible refine lG (.tmp 24) Gmm.out ?_) | (with_reducible refine lG (.tmp 26) Gnn.out ?_) | (with_reducible refine lG (.tmp 28) Gpp.out ?_) | (with_reducible refine lG (.tmp 30) Gdd.out ?_) | (with_reducible refine lG (.tmp 32) Gqq.out ?_))
    with_reducible refine (lessPB true hz.out smb.out smc.out (by omega) (by omega) (by omega) (by omega) _ _ _ kb.out kc.out HT.out).mono ?_
    rintro e w18 ⟨rfl, hb⟩
    replace HW := kW HW hb
    replace HT := kT HT hb
    replace GA := kB GA hb
    replace ka := kH ka hb
    replace GB := kB GB hb
    replace kb := kH kb hb
    replace GC := kB GC hb
    replace kc := kH kc hb
    replace kab := kH kab hb
    replace Gab := kB Gab hb
    replace kbc := kH kbc hb
    replace Gbc := kB Gbc hb
    replace kac := kH kac hb
    replace Gac := kB Gac hb
    replace kxx := kH kxx hb
    replace Gxx := kB Gxx hb
    replace kzz := kH kzz hb
    replace Gzz := kB Gzz hb
    replace kll := kH kll hb
    replace Gll := kB Gll hb
    replace krr := kH krr hb
    replace Grr := kB Grr hb
    replace kmm := kH kmm hb
    replace Gmm := kB Gmm hb
    replace knn := kH knn hb
    replace Gnn := kB Gnn hb
    replace kpp := kH kpp hb
    replace Gpp := kB Gpp hb
    replace kdd := kH kdd hb
    replace Gdd := kB Gdd hb
    replace kqq := kH kqq hb
    replace Gqq := kB Gqq hb
    clear hb
    go_wp2_with (first | (with_reducible refine lG (.tmp 7) GA.out ?_) | (with_reducible refine lG (.tmp 8) GB.out ?_) | (with_reducible refine lG (.tmp 9) GC.out ?_) | (with_reducible refine lG (.tmp 10) Gab.out ?_) | (with_reducible refine lG (.tmp 12) Gbc.out ?_) | (with_reducible refine lG (.tmp 14) Gac.out ?_) | (with_reducible refine lG (.tmp 16) Gxx.out ?_) | (with_reducible refine lG (.tmp 18) Gzz.out ?_) | (with_reducible refine lG (.tmp 20) Gll.out ?_) | (with_reducible refine lG (.tmp 22) Grr.out ?_) | (with_reducible refine lG (.tmp 24) Gmm.out ?_) | (with_reducible refine lG (.tmp 26) Gnn.out ?_) | (with_reducible refine lG (.tmp 28) Gpp.out ?_) | (with_reducible refine lG (.tmp 30) Gdd.out ?_) | (with_reducible refine lG (.tmp 32) Gqq.out ?_))
    with_reducible refine (lessPB true hac.out Sab.out Sac.out (by omega) (by omega) (by omega) (by omega) _ _ _ kab.out kac.out HT.out).mono ?_
    rintro e w19 ⟨rfl, hb⟩
    replace HW := kW HW hb
    replace HT := kT HT hb
    replace GA := kB GA hb
    replace ka := kH ka hb
    replace GB := kB GB hb
    replace kb := kH kb hb
    replace GC := kB GC hb
    replace kc := kH kc hb
    replace kab := kH kab hb
    replace Gab := kB Gab hb
    replace kbc := kH kbc hb
    replace Gbc := kB Gbc hb
    replace kac := kH kac hb
    replace Gac := kB Gac hb
    replace kxx := kH kxx hb
    replace Gxx := kB Gxx hb
    replace kzz := kH kzz hb
    replace Gzz := kB Gzz hb
    replace kll := kH kll hb
    replace Gll := kB Gll hb
    replace krr := kH krr hb
    replace Grr := kB Grr hb
    replace kmm := kH kmm hb
    replace Gmm := kB Gmm hb
    replace knn := kH knn hb
    replace Gnn := kB Gnn hb
    replace kpp := kH kpp hb
    replace Gpp := kB Gpp hb
    replace kdd := kH kdd hb
    replace Gdd := kB Gdd hb
    replace kqq := kH kqq hb
    replace Gqq := kB Gqq hb
    clear hb
    go_wp2_with (first | (with_reducible refine lG (.tmp 7) GA.out ?_) | (with_reducible refine lG (.tmp 8) GB.out ?_) | (with_reducible refine lG (.tmp 9) GC.out ?_) | (with_reducible refine lG (.tmp 10) Gab.out ?_) | (with_reducible refine lG (.tmp 12) Gbc.out ?_) | (with_reducible refine lG (.tmp 14) Gac.out ?_) | (with_reducible refine lG (.tmp 16) Gxx.out ?_) | (with_reducible refine lG (.tmp 18) Gzz.out ?_) | (with_reducible refine lG (.tmp 20) Gll.out ?_) | (with_reducible refine lG (.tmp 22) Grr.out ?_) | (with_reducible refine lG (.tmp 24) Gmm.out ?_) | (with_reducible refine lG (.tmp 26) Gnn.out ?_) | (with_reducible refine lG (.tmp 28) Gpp.out ?_) | (with_reducible refine lG (.tmp 30) Gdd.out ?_) | (with_reducible refine lG (.tmp 32) Gqq.out ?_))
    go_ret
    exact ⟨rfl, HW.out⟩
end Go.Proofs.YtobjdkblpjmbjaaGreatDoor
