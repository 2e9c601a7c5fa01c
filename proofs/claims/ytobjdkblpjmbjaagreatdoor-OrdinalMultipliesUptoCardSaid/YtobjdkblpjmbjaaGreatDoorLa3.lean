/- The walk of OrdinalMultiplies. -/
import Derived.Test.YtobjdkblpjmbjaaGreatDoorG19
import Derived.Test.YtobjdkblpjmbjaaGreatDoorLa1
import Derived.Test.YtobjdkblpjmbjaaGreatDoorG31
namespace Go.Proofs.YtobjdkblpjmbjaaGreatDoor
open Go Go.RowKit
set_option linter.unusedVariables false

set_option maxHeartbeats 16000000 in
set_option maxRecDepth 100000 in
theorem ordinalMultiplies_walk (s : Sd) (sc sd : Value) (t : Sd) (tc td : Value) (w : World) (As : SdAt w (Has w) s [sc, sd]) (Ns : s.cnt ≤ 1048576) (At : SdAt w (Has w) t [tc, td]) (Nt : t.cnt ≤ 1048576) (ht : Tab w) :
 Calls Tryz.prog 9 #[.agg #[sc, sd], .agg #[tc, td]] w (RetB w true) := by
 have HT := hI ht
 have FW : Hid (∀ X, Below w.heap.size w X → Calls Tryz.prog 13 #[.slice (some ⟨X.heap.size, 0, none⟩) 2 2] (X.alloc (.cells #[sc, sd, tc, td] 24)) (fun e w' => e = .returned (.bool (fewSd [s, t])) ∧ Below X.heap.size X w')) := fun X h => few2 s sc sd t tc td w X As Ns At Nt h
 have Ks : Hid (fewSd [s, t] = true → ∃ a : On, a.sm 45 3 84 ∧ ∀ X, Below w.heap.size w X → Calls Tryz.prog 15 #[.agg #[sc, sd]] X (RetH X a.ob)) := fun hf => madeK hf (by simp) As ht
 have Kt : Hid (fewSd [s, t] = true → ∃ a : On, a.sm 45 3 84 ∧ ∀ X, Below w.heap.size w X → Calls Tryz.prog 15 #[.agg #[tc, td]] X (RetH X a.ob)) := fun hf => madeK hf (by simp) At ht
 generalize fewSd [s, t] = fs at FW Ks Kt
 clear ht As Ns At Nt
 go_enter Tryz.func9, Tryz.ntmps9
 go_wp2_with fail
 have T := blk2 w (.cells #[sc, sd] 24) (.cells #[tc, td] 24)
 generalize ((w.alloc (.cells #[sc, sd] 24)).alloc (.cells #[tc, td] 24)) = W at T ⊢
 obtain ⟨TB, T0, T1⟩ := T
 have HW := hI TB
 have Bs : Hid (Sb W (w.heap.size) sc sd) := T0
 have Bt : Hid (Sb W (w.heap.size + 1) tc td) := T1
 replace HT := hI (HT.out.below TB)
 clear TB T0 T1
 with_reducible refine (firstO _ HT.out).mono ?_
 rintro e w1 ⟨rfl, hb⟩
 replace HW := kW HW hb
 replace Bs := hI (Bs.out.keep hb)
 replace Bt := hI (Bt.out.keep hb)
 replace HT := kT HT hb
 clear hb
 have cs0 := Bs.out.c0
 have cs1 := Bs.out.c1
 have ct0 := Bt.out.c0
 have ct1 := Bt.out.c1
 go_wp2_with fail
 clear cs0 cs1 ct0 ct1
 with_reducible refine (FW.out _ HW.out).mono ?_
 rintro e w2 ⟨rfl, hb⟩
 replace HW := kW HW hb
 replace Bs := hI (Bs.out.keep hb)
 replace Bt := hI (Bt.out.keep hb)
 replace HT := kT HT hb
 clear hb
 cases fs with
 | false =>
  go_wp2
  all_goals go_ret
  all_goals exact ⟨rfl, HW.out⟩
 | true =>
  obtain ⟨oa, sma, Ma⟩ := Ks.out (by simp)
  replace sma := hI sma
  replace Ma := hI Ma
  obtain ⟨ob, smb, Mb⟩ := Kt.out (by simp)
  replace smb := hI smb
  replace Mb := hI Mb
  clear Ks Kt
  go_wp2_with fail
  refine wp_region_growS (l := _) 9 (by kernel_rfl) (by kernel_rfl) (fun i => [17, 18, 19, 20, 21, 16, 22, 23, 5].getD i 0) (LR [LV (.agg #[sc, sd]), LH (oa.ob), LV (.agg #[tc, td]), LH (ob.ob), LHB ((mulE oa ob).ob) true, LHB ((mulE oa ob).ob) true, LH ((mulE oa ob).ob), LV (.bool true), LBx]) (LR_mono ⟨mLV _, mLH _, mLV _, mLH _, mLHB _ _, mLHB _ _, mLH _, mLV _, mLBx, trivial⟩) (by
   intro i j hi hj h
   exact inj_getD [17, 18, 19, 20, 21, 16, 22, 23, 5] (by decide) i j hi hj h) (by
   intro i hi
   exact lt_getD 40 [17, 18, 19, 20, 21, 16, 22, 23, 5] (by decide) i hi) [7] (by kernel_rfl) 8 6 (by omega) (by omega) (by kernel_rfl) (by kernel_rfl) _ rfl rfl rfl rfl
   (fun _ _ _ _ h => h) ((mulE oa ob).ob) (fun _ _ _ _ h => h) ?step ?stepL ?done
  case step =>
   intro i hi a w9 v lo hi' hoth hb hw
   have sl2 : a.tmps[2]? = some (.pointer (some ⟨w.heap.size, 0, none⟩)) := (hoth 2 (fun j hj => ne_getD 2 _ (by decide) j hj)).trans rfl
   have sl3 : a.tmps[3]? = some (.pointer (some ⟨w.heap.size + 1, 0, none⟩)) := (hoth 3 (fun j hj => ne_getD 3 _ (by decide) j hj)).trans rfl
   match i, hi with
   | 0, _ =>
    exact gr_seed rfl rfl (.tmp 2) rfl (eval_of sl2) (Bs.out.keep hb) ⟨_, rfl, Below.refl _ _, rfl⟩
   | 1, _ =>
    obtain ⟨s0, r0, _⟩ := hw 0 (by omega) (by kernel_rfl)
    have e0 : v 0 = .agg #[sc, sd] := r0
    rw [e0] at s0
    refine gr_t rfl rfl 15 17 _ _ rfl (fun v w => by go_simp) s0 ?_
    with_reducible refine (Ma.out w9 (chain2 HW.out hb (Nat.le_refl _))).mono ?_
    rintro e w3 ⟨p, rfl, hp, hb3⟩
    exact ⟨_, rfl, _, rfl, hb3, p, rfl, hp⟩
   | 2, _ =>
    exact gr_seed rfl rfl (.tmp 3) rfl (eval_of sl3) (Bt.out.keep hb) ⟨_, rfl, Below.refl _ _, rfl⟩
   | 3, _ =>
    obtain ⟨s0, r0, _⟩ := hw 2 (by omega) (by kernel_rfl)
    have e0 : v 2 = .agg #[tc, td] := r0
    rw [e0] at s0
    refine gr_t rfl rfl 15 19 _ _ rfl (fun v w => by go_simp) s0 ?_
    with_reducible refine (Mb.out w9 (chain2 HW.out hb (Nat.le_refl _))).mono ?_
    rintro e w3 ⟨p, rfl, hp, hb3⟩
    exact ⟨_, rfl, _, rfl, hb3, p, rfl, hp⟩
   | 4, _ =>
    obtain ⟨s0, r0, _⟩ := hw 1 (by omega) (by kernel_rfl)
    obtain ⟨q0, e0, k0⟩ : LH (oa.ob) (v 1) (lo 1) (hi' 1) w9 := r0
    rw [e0] at s0
    obtain ⟨s1, r1, _⟩ := hw 3 (by omega) (by kernel_rfl)
    obtain ⟨q1, e1, k1⟩ : LH (ob.ob) (v 3) (lo 3) (hi' 3) w9 := r1
    rw [e1] at s1
    refine gr_tt rfl rfl 37 18 20 _ _ _ rfl (fun v u w => by go_simp) s0 s1 ?_
    with_reducible refine (mulPS sma.out smb.out (by omega) (by omega) (by omega) (by omega) q0 q1 w9 k0 k1 (HT.out.below hb)).mono ?_
    rintro e w3 ⟨p, rfl, hp, hb3⟩
    exact ⟨_, rfl, _, rfl, hb3, p, rfl, hp⟩
   | 5, _ =>
    obtain ⟨s0, r0, _⟩ := hw 4 (by omega) (by kernel_rfl)
    obtain ⟨q0, e0, k0⟩ : LHB ((mulE oa ob).ob) true (v 4) (lo 4) (hi' 4) w9 := r0
    rw [e0] at s0
    exact gr_move rfl rfl 21 _ rfl s0 ⟨_, rfl, Below.refl _ _, q0, rfl, k0⟩
   | 6, _ =>
    obtain ⟨s0, r0, _⟩ := hw 5 (by omega) (by kernel_rfl)
    obtain ⟨q0, e0, k0⟩ : LHB ((mulE oa ob).ob) true (v 5) (lo 5) (hi' 5) w9 := r0
    rw [e0] at s0
    exact gr_ext2 rfl rfl 16 _ _ rfl s0 ⟨_, rfl, Below.refl _ _, q0, rfl, k0⟩
   | 7, _ =>
    obtain ⟨s0, r0, _⟩ := hw 5 (by omega) (by kernel_rfl)
    obtain ⟨q0, e0, k0⟩ : LHB ((mulE oa ob).ob) true (v 5) (lo 5) (hi' 5) w9 := r0
    rw [e0] at s0
    exact gr_ext2' rfl rfl 16 _ _ rfl s0 ⟨_, rfl, Below.refl _ _, rfl⟩
   | 8, _ =>
    exact grow_allocO rfl rfl rfl ⟨_, rfl, Below.alloc (Below.refl _ _) (Nat.le_refl _) _, rfl, heap_alloc_new _ _, by simp⟩
  case stepL =>
   intro i hi hl a w1 w9 v lo hi' hw
   match i, hi with
   | 0, _ => exact absurd hl (by decide)
   | 1, _ => exact absurd hl (by decide)
   | 2, _ => exact absurd hl (by decide)
   | 3, _ => exact absurd hl (by decide)
   | 4, _ => exact absurd hl (by decide)
   | 5, _ => exact absurd hl (by decide)
   | 6, _ => exact absurd hl (by decide)
   | 7, _ =>
    obtain ⟨s0, r0⟩ := hw 5 (by omega) (by kernel_rfl)
    obtain ⟨q0, e0, k0⟩ : LHB ((mulE oa ob).ob) true (v 5) (lo 5) (hi' 5) w1 := r0
    rw [e0] at s0
    exact gr_ext2' rfl rfl 16 _ _ rfl s0 ⟨_, rfl, rfl, rfl⟩
   | 8, _ => exact absurd hl (by decide)
  case done =>
   intro a w9 v lo hi' p6 hdef hsz hoth hb hj hap hv6 k6 hv8 B8
   obtain ⟨_, _, hlo8, _⟩ := hj 8 (by omega)
   obtain ⟨_, hv7, _, _⟩ := hj 7 (by omega)
   change v 7 = _ at hv7
   have ha := eq_puts hdef hsz hoth (fun i hi => (hj i hi).1)
   subst ha
   clear hj hoth hdef hsz hap
   have hX := below_setRowO hb hlo8 (cellsO ((mulE oa ob).ob) p6).toArray
   have kX := Hd.box k6 B8 rfl (cellsO ((mulE oa ob).ob) p6).toArray
   have bX := Bx.set (y := (cellsO ((mulE oa ob).ob) p6).toArray) B8
   generalize World.setRow w9 (lo 8) (cellsO ((mulE oa ob).ob) p6).toArray = XA at hX kX bX ⊢
   clear hb k6 B8
   simp only [puts, List.getD_cons_zero, List.getD_cons_succ, hv6, hv8, hv7]
   generalize v 0 = v0
   generalize v 1 = v1
   generalize v 2 = v2
   generalize v 3 = v3
   generalize v 4 = v4
   generalize v 5 = v5
   clear hv6 hv8 hv7
   generalize lo 8 = g8 at *
   simp only [Act.put, List.setIfInBounds_toArray, List.set_cons_zero, List.set_cons_succ]
   show wpList _ _ _ [_] _ _
   have hb := hX
   clear hX
   replace HW := kW HW hb
   replace Bs := hI (Bs.out.keep hb)
   replace Bt := hI (Bt.out.keep hb)
   replace HT := kT HT hb
   replace k6 := hI kX
   have G1 := hI bX
   clear hb kX bX
   go_wp2_with (with_reducible refine lG (.tmp 5) G1.out ?_)
   refine wp_region_growS (l := _) 9 (by kernel_rfl) (by kernel_rfl) (fun i => [25, 26, 27, 28, 29, 24, 30, 31, 7].getD i 0) (LR [LV (.agg #[sc, sd]), LH (oa.ob), LV (.agg #[tc, td]), LH (ob.ob), LHB ((mulE oa ob).ob) true, LHB ((mulE oa ob).ob) true, LH ((mulE oa ob).ob), LV (.bool true), LBx]) (LR_mono ⟨mLV _, mLH _, mLV _, mLH _, mLHB _ _, mLHB _ _, mLH _, mLV _, mLBx, trivial⟩) (by
    intro i j hi hj h
    exact inj_getD [25, 26, 27, 28, 29, 24, 30, 31, 7] (by decide) i j hi hj h) (by
    intro i hi
    exact lt_getD 40 [25, 26, 27, 28, 29, 24, 30, 31, 7] (by decide) i hi) [7] (by kernel_rfl) 8 6 (by omega) (by omega) (by kernel_rfl) (by kernel_rfl) _ rfl rfl rfl rfl
    (fun _ _ _ _ h => h) ((mulE oa ob).ob) (fun _ _ _ _ h => h) ?step ?stepL ?done
   case step =>
    intro i hi a w9 v lo hi' hoth hb hw
    have sl2 : a.tmps[2]? = some (.pointer (some ⟨w.heap.size, 0, none⟩)) := (hoth 2 (fun j hj => ne_getD 2 _ (by decide) j hj)).trans rfl
    have sl3 : a.tmps[3]? = some (.pointer (some ⟨w.heap.size + 1, 0, none⟩)) := (hoth 3 (fun j hj => ne_getD 3 _ (by decide) j hj)).trans rfl
    match i, hi with
    | 0, _ =>
     exact gr_seed rfl rfl (.tmp 2) rfl (eval_of sl2) (Bs.out.keep hb) ⟨_, rfl, Below.refl _ _, rfl⟩
    | 1, _ =>
     obtain ⟨s0, r0, _⟩ := hw 0 (by omega) (by kernel_rfl)
     have e0 : v 0 = .agg #[sc, sd] := r0
     rw [e0] at s0
     refine gr_t rfl rfl 15 25 _ _ rfl (fun v w => by go_simp) s0 ?_
     with_reducible refine (Ma.out w9 (chain2 HW.out hb (Nat.le_refl _))).mono ?_
     rintro e w3 ⟨p, rfl, hp, hb3⟩
     exact ⟨_, rfl, _, rfl, hb3, p, rfl, hp⟩
    | 2, _ =>
     exact gr_seed rfl rfl (.tmp 3) rfl (eval_of sl3) (Bt.out.keep hb) ⟨_, rfl, Below.refl _ _, rfl⟩
    | 3, _ =>
     obtain ⟨s0, r0, _⟩ := hw 2 (by omega) (by kernel_rfl)
     have e0 : v 2 = .agg #[tc, td] := r0
     rw [e0] at s0
     refine gr_t rfl rfl 15 27 _ _ rfl (fun v w => by go_simp) s0 ?_
     with_reducible refine (Mb.out w9 (chain2 HW.out hb (Nat.le_refl _))).mono ?_
     rintro e w3 ⟨p, rfl, hp, hb3⟩
     exact ⟨_, rfl, _, rfl, hb3, p, rfl, hp⟩
    | 4, _ =>
     obtain ⟨s0, r0, _⟩ := hw 1 (by omega) (by kernel_rfl)
     obtain ⟨q0, e0, k0⟩ : LH (oa.ob) (v 1) (lo 1) (hi' 1) w9 := r0
     rw [e0] at s0
     obtain ⟨s1, r1, _⟩ := hw 3 (by omega) (by kernel_rfl)
     obtain ⟨q1, e1, k1⟩ : LH (ob.ob) (v 3) (lo 3) (hi' 3) w9 := r1
     rw [e1] at s1
     refine gr_tt rfl rfl 38 26 28 _ _ _ rfl (fun v u w => by go_simp) s0 s1 ?_
     with_reducible refine (mulRS sma.out smb.out (by omega) (by omega) (by omega) (by omega) q0 q1 w9 k0 k1 (HT.out.below hb)).mono ?_
     rintro e w3 ⟨p, rfl, hp, hb3⟩
     exact ⟨_, rfl, _, rfl, hb3, p, rfl, hp⟩
    | 5, _ =>
     obtain ⟨s0, r0, _⟩ := hw 4 (by omega) (by kernel_rfl)
     obtain ⟨q0, e0, k0⟩ : LHB ((mulE oa ob).ob) true (v 4) (lo 4) (hi' 4) w9 := r0
     rw [e0] at s0
     exact gr_move rfl rfl 29 _ rfl s0 ⟨_, rfl, Below.refl _ _, q0, rfl, k0⟩
    | 6, _ =>
     obtain ⟨s0, r0, _⟩ := hw 5 (by omega) (by kernel_rfl)
     obtain ⟨q0, e0, k0⟩ : LHB ((mulE oa ob).ob) true (v 5) (lo 5) (hi' 5) w9 := r0
     rw [e0] at s0
     exact gr_ext2 rfl rfl 24 _ _ rfl s0 ⟨_, rfl, Below.refl _ _, q0, rfl, k0⟩
    | 7, _ =>
     obtain ⟨s0, r0, _⟩ := hw 5 (by omega) (by kernel_rfl)
     obtain ⟨q0, e0, k0⟩ : LHB ((mulE oa ob).ob) true (v 5) (lo 5) (hi' 5) w9 := r0
     rw [e0] at s0
     exact gr_ext2' rfl rfl 24 _ _ rfl s0 ⟨_, rfl, Below.refl _ _, rfl⟩
    | 8, _ =>
     exact grow_allocO rfl rfl rfl ⟨_, rfl, Below.alloc (Below.refl _ _) (Nat.le_refl _) _, rfl, heap_alloc_new _ _, by simp⟩
   case stepL =>
    intro i hi hl a w1 w9 v lo hi' hw
    match i, hi with
    | 0, _ => exact absurd hl (by decide)
    | 1, _ => exact absurd hl (by decide)
    | 2, _ => exact absurd hl (by decide)
    | 3, _ => exact absurd hl (by decide)
    | 4, _ => exact absurd hl (by decide)
    | 5, _ => exact absurd hl (by decide)
    | 6, _ => exact absurd hl (by decide)
    | 7, _ =>
     obtain ⟨s0, r0⟩ := hw 5 (by omega) (by kernel_rfl)
     obtain ⟨q0, e0, k0⟩ : LHB ((mulE oa ob).ob) true (v 5) (lo 5) (hi' 5) w1 := r0
     rw [e0] at s0
     exact gr_ext2' rfl rfl 24 _ _ rfl s0 ⟨_, rfl, rfl, rfl⟩
    | 8, _ => exact absurd hl (by decide)
   case done =>
    intro a w9 v lo hi' q6 hdef hsz hoth hb hj hap hv6 k7 hv8 B8
    obtain ⟨_, _, hlo8, _⟩ := hj 8 (by omega)
    obtain ⟨_, hv7, _, _⟩ := hj 7 (by omega)
    change v 7 = _ at hv7
    have ha := eq_puts hdef hsz hoth (fun i hi => (hj i hi).1)
    subst ha
    clear hj hoth hdef hsz hap
    have hX := below_setRowO hb hlo8 (cellsO ((mulE oa ob).ob) q6).toArray
    have kX := Hd.box k7 B8 rfl (cellsO ((mulE oa ob).ob) q6).toArray
    have bX := Bx.set (y := (cellsO ((mulE oa ob).ob) q6).toArray) B8
    generalize World.setRow w9 (lo 8) (cellsO ((mulE oa ob).ob) q6).toArray = XB at hX kX bX ⊢
    clear hb k7 B8
    simp only [puts, List.getD_cons_zero, List.getD_cons_succ, hv6, hv8, hv7]
    generalize v 0 = v0
    generalize v 1 = v1
    generalize v 2 = v2
    generalize v 3 = v3
    generalize v 4 = v4
    generalize v 5 = v5
    clear hv6 hv8 hv7
    generalize lo 8 = g8 at *
    simp only [Act.put, List.setIfInBounds_toArray, List.set_cons_zero, List.set_cons_succ]
    show wpList _ _ _ [_] _ _
    have hb := hX
    clear hX
    replace HW := kW HW hb
    replace Bs := hI (Bs.out.keep hb)
    replace Bt := hI (Bt.out.keep hb)
    replace HT := kT HT hb
    replace k6 := kH k6 hb
    replace G1 := kB G1 hb
    replace k7 := hI kX
    have G2 := hI bX
    clear hb kX bX
    go_wp2_with (first | (with_reducible refine lG (.tmp 5) G1.out ?_) | (with_reducible refine lG (.tmp 7) G2.out ?_))
    with_reducible refine (equalH _ _ _ _ _ true (decide_eq_true rfl) k6.out k7.out).mono ?_
    rintro e w3 ⟨rfl, hb⟩
    replace HW := kW HW hb
    replace Bs := hI (Bs.out.keep hb)
    replace Bt := hI (Bt.out.keep hb)
    replace HT := kT HT hb
    replace k6 := kH k6 hb
    replace G1 := kB G1 hb
    replace k7 := kH k7 hb
    replace G2 := kB G2 hb
    clear hb
    go_wp2_with (first | (with_reducible refine lG (.tmp 5) G1.out ?_) | (with_reducible refine lG (.tmp 7) G2.out ?_))
    go_ret
    exact ⟨rfl, HW.out⟩
end Go.Proofs.YtobjdkblpjmbjaaGreatDoor
