/- The reference's less; its normal: which objects are ordinals. -/
import Derived.Test.YtocbedijpomemaaGreatDoorG19
import Derived.Test.YtocbedijpomemaaGreatDoorG23
import Derived.Test.YtocbedijpomemaaGreatDoorG22
namespace Go.Proofs.YtocbedijpomemaaGreatDoor
open Go Go.RowKit
set_option linter.unusedVariables false
set_option maxHeartbeats 32000000
set_option maxRecDepth 100000
theorem equalH (a b : Ob) (p p' : Value) (w : World) (v : Bool) (hv : decide (a = b) = v) (h : Hd w a p) (h' : Hd w b p') : Calls Tryz.prog 15 #[vO a p, vO b p'] w (RetB w v) := by
 subst hv
 exact equalO a b p p' w (Has w) (In.has w) h.pair h'.pair
theorem ordQ_num (m n : Nat) : ordQ (m : Rat) (n : Rat) = cmpNt m n := by
 unfold ordQ cmpNt
 simp only [Rat.natCast_lt_natCast]
theorem less2R (m n : Nat) (p p' : Value) (w : World) (hm : Bd 90 (m : Rat)) (hn : Bd 90 (n : Rat)) (h : Hd w (.num (m : Rat)) p) (h' : Hd w (.num (n : Rat)) p') (ht : Tab w) :
 Calls Tryz.prog 82 #[vO (.num (m : Rat)) p, vO (.num (n : Rat)) p'] w (RetB w (decide (cmpNt m n < 0))) := by
 have h := lessR 90 (by decide) (.num (m : Rat)) (.num (n : Rat)) p p' w (Has w) h.pair h'.pair hm hn ht
 rw [show (Ob.num (m : Rat)).fix = (m : Rat) from rfl, show (Ob.num (n : Rat)).fix = (n : Rat) from rfl, ordQ_num] at h
 exact h
theorem lessFF (oa ob : Ob) (p p' : Value) (w : World) (v : Bool) (ia : oa.inf = false) (ib : ob.inf = false) (hp : Hd w oa p) (hp' : Hd w ob p') (ht : Tab w) (lS : ∀ X, Hd X oa p → Hd X ob p' → Tab X → Calls Tryz.prog 82 #[vO oa p, vO ob p'] X (RetB X v)) :
 Calls Tryz.prog 60 #[vO oa p, vO ob p'] w (RetB w v) := by
 have LS := hI lS
 clear lS
 obtain ⟨a0, a1, a2, a3, a4, a5, ea⟩ := cells7 (oa) p
 obtain ⟨b0, b1, b2, b3, b4, b5, eb⟩ := cells7 (ob) p'
 have T := Bx2.new w #[a0, a1, a2, a3, a4, a5, p] #[b0, b1, b2, b3, b4, b5, p']
 rw [vO_cells ea, vO_cells eb]
 go_enter Tryz.func60, Tryz.ntmps60
 go_wp2_with fail
 generalize (w.alloc (.cells #[a0, a1, a2, a3, a4, a5, p] 35)).alloc (.cells #[b0, b1, b2, b3, b4, b5, p'] 35) = W at T ⊢
 have B0 : Hid (Bx W (w.heap.size) (cellsO (oa) p).toArray) := by rw [ea]; exact T.b0
 have K0 := hI (hp.below T.bel)
 have B1 : Hid (Bx W (w.heap.size + 1) (cellsO (ob) p').toArray) := by rw [eb]; exact T.b1
 have K1 := hI (hp'.below T.bel)
 have HW := hI T.bel
 have HT := hI (ht.below T.bel)
 try rw [← vO_cells ea]
 try rw [← vO_cells eb]
 clear T ea eb hp hp' ht
 with_reducible refine (infR oa p _ false ia K0.out).mono ?_
 rintro e w1 ⟨rfl, hb⟩
 replace B0 := kB B0 hb
 replace K0 := kH K0 hb
 replace B1 := kB B1 hb
 replace K1 := kH K1 hb
 replace HW := kW HW hb
 replace HT := kT HT hb
 clear hb
 go_wp2_with (first | (with_reducible refine lG (.tmp 2) B0.out ?_) | (with_reducible refine lG (.tmp 3) B1.out ?_))
 with_reducible refine (infR ob p' _ false ib K1.out).mono ?_
 rintro e w2 ⟨rfl, hb⟩
 replace B0 := kB B0 hb
 replace K0 := kH K0 hb
 replace B1 := kB B1 hb
 replace K1 := kH K1 hb
 replace HW := kW HW hb
 replace HT := kT HT hb
 clear hb
 go_wp2_with (first | (with_reducible refine lG (.tmp 2) B0.out ?_) | (with_reducible refine lG (.tmp 3) B1.out ?_))
 with_reducible refine (LS.out _ K0.out K1.out HT.out).mono ?_
 rintro e w3 ⟨rfl, hb⟩
 replace B0 := kB B0 hb
 replace K0 := kH K0 hb
 replace B1 := kB B1 hb
 replace K1 := kH K1 hb
 replace HW := kW HW hb
 replace HT := kT HT hb
 clear hb
 go_wp2_with (first | (with_reducible refine lG (.tmp 2) B0.out ?_) | (with_reducible refine lG (.tmp 3) B1.out ?_))
 go_ret
 exact ⟨rfl, HW.out⟩
theorem lessFP (oa ob : Ob) (p p' : Value) (w : World) (ia : oa.inf = false) (ib : ob.inf = true) (hp : Hd w oa p) (hp' : Hd w ob p') :
 Calls Tryz.prog 60 #[vO oa p, vO ob p'] w (RetB w true) := by
 obtain ⟨a0, a1, a2, a3, a4, a5, ea⟩ := cells7 (oa) p
 obtain ⟨b0, b1, b2, b3, b4, b5, eb⟩ := cells7 (ob) p'
 have T := Bx2.new w #[a0, a1, a2, a3, a4, a5, p] #[b0, b1, b2, b3, b4, b5, p']
 rw [vO_cells ea, vO_cells eb]
 go_enter Tryz.func60, Tryz.ntmps60
 go_wp2_with fail
 generalize (w.alloc (.cells #[a0, a1, a2, a3, a4, a5, p] 35)).alloc (.cells #[b0, b1, b2, b3, b4, b5, p'] 35) = W at T ⊢
 have B0 : Hid (Bx W (w.heap.size) (cellsO (oa) p).toArray) := by rw [ea]; exact T.b0
 have K0 := hI (hp.below T.bel)
 have B1 : Hid (Bx W (w.heap.size + 1) (cellsO (ob) p').toArray) := by rw [eb]; exact T.b1
 have K1 := hI (hp'.below T.bel)
 have HW := hI T.bel
 try rw [← vO_cells ea]
 try rw [← vO_cells eb]
 clear T ea eb hp hp'
 with_reducible refine (infR oa p _ false ia K0.out).mono ?_
 rintro e w1 ⟨rfl, hb⟩
 replace B0 := kB B0 hb
 replace K0 := kH K0 hb
 replace B1 := kB B1 hb
 replace K1 := kH K1 hb
 replace HW := kW HW hb
 clear hb
 go_wp2_with (first | (with_reducible refine lG (.tmp 2) B0.out ?_) | (with_reducible refine lG (.tmp 3) B1.out ?_))
 with_reducible refine (infR ob p' _ true ib K1.out).mono ?_
 rintro e w2 ⟨rfl, hb⟩
 replace B0 := kB B0 hb
 replace K0 := kH K0 hb
 replace B1 := kB B1 hb
 replace K1 := kH K1 hb
 replace HW := kW HW hb
 clear hb
 go_wp2_with (first | (with_reducible refine lG (.tmp 2) B0.out ?_) | (with_reducible refine lG (.tmp 3) B1.out ?_))
 with_reducible refine (infR oa p _ false ia K0.out).mono ?_
 rintro e w3 ⟨rfl, hb⟩
 replace B0 := kB B0 hb
 replace K0 := kH K0 hb
 replace B1 := kB B1 hb
 replace K1 := kH K1 hb
 replace HW := kW HW hb
 clear hb
 go_wp2_with (first | (with_reducible refine lG (.tmp 2) B0.out ?_) | (with_reducible refine lG (.tmp 3) B1.out ?_))
 with_reducible refine (infR ob p' _ true ib K1.out).mono ?_
 rintro e w4 ⟨rfl, hb⟩
 replace B0 := kB B0 hb
 replace K0 := kH K0 hb
 replace B1 := kB B1 hb
 replace K1 := kH K1 hb
 replace HW := kW HW hb
 clear hb
 go_wp2_with (first | (with_reducible refine lG (.tmp 2) B0.out ?_) | (with_reducible refine lG (.tmp 3) B1.out ?_))
 go_ret
 exact ⟨rfl, HW.out⟩
theorem lessPF (oa ob : Ob) (p p' : Value) (w : World) (ia : oa.inf = true) (ib : ob.inf = false) (hp : Hd w oa p) (hp' : Hd w ob p') :
 Calls Tryz.prog 60 #[vO oa p, vO ob p'] w (RetB w false) := by
 obtain ⟨a0, a1, a2, a3, a4, a5, ea⟩ := cells7 (oa) p
 obtain ⟨b0, b1, b2, b3, b4, b5, eb⟩ := cells7 (ob) p'
 have T := Bx2.new w #[a0, a1, a2, a3, a4, a5, p] #[b0, b1, b2, b3, b4, b5, p']
 rw [vO_cells ea, vO_cells eb]
 go_enter Tryz.func60, Tryz.ntmps60
 go_wp2_with fail
 generalize (w.alloc (.cells #[a0, a1, a2, a3, a4, a5, p] 35)).alloc (.cells #[b0, b1, b2, b3, b4, b5, p'] 35) = W at T ⊢
 have B0 : Hid (Bx W (w.heap.size) (cellsO (oa) p).toArray) := by rw [ea]; exact T.b0
 have K0 := hI (hp.below T.bel)
 have B1 : Hid (Bx W (w.heap.size + 1) (cellsO (ob) p').toArray) := by rw [eb]; exact T.b1
 have K1 := hI (hp'.below T.bel)
 have HW := hI T.bel
 try rw [← vO_cells ea]
 try rw [← vO_cells eb]
 clear T ea eb hp hp'
 with_reducible refine (infR oa p _ true ia K0.out).mono ?_
 rintro e w1 ⟨rfl, hb⟩
 replace B0 := kB B0 hb
 replace K0 := kH K0 hb
 replace B1 := kB B1 hb
 replace K1 := kH K1 hb
 replace HW := kW HW hb
 clear hb
 go_wp2_with (first | (with_reducible refine lG (.tmp 2) B0.out ?_) | (with_reducible refine lG (.tmp 3) B1.out ?_))
 with_reducible refine (infR oa p _ true ia K0.out).mono ?_
 rintro e w2 ⟨rfl, hb⟩
 replace B0 := kB B0 hb
 replace K0 := kH K0 hb
 replace B1 := kB B1 hb
 replace K1 := kH K1 hb
 replace HW := kW HW hb
 clear hb
 go_wp2_with (first | (with_reducible refine lG (.tmp 2) B0.out ?_) | (with_reducible refine lG (.tmp 3) B1.out ?_))
 with_reducible refine (infR ob p' _ false ib K1.out).mono ?_
 rintro e w3 ⟨rfl, hb⟩
 replace B0 := kB B0 hb
 replace K0 := kH K0 hb
 replace B1 := kB B1 hb
 replace K1 := kH K1 hb
 replace HW := kW HW hb
 clear hb
 go_wp2_with (first | (with_reducible refine lG (.tmp 2) B0.out ?_) | (with_reducible refine lG (.tmp 3) B1.out ?_))
 with_reducible refine (infR ob p' _ false ib K1.out).mono ?_
 rintro e w4 ⟨rfl, hb⟩
 replace B0 := kB B0 hb
 replace K0 := kH K0 hb
 replace B1 := kB B1 hb
 replace K1 := kH K1 hb
 replace HW := kW HW hb
 clear hb
 go_wp2_with (first | (with_reducible refine lG (.tmp 2) B0.out ?_) | (with_reducible refine lG (.tmp 3) B1.out ?_))
 go_ret
 exact ⟨rfl, HW.out⟩
theorem lessPP1 (oa ob : Ob) (p p' : Value) (w : World) (vv : Bool) (e e' c c' r r' : Ob) (ia : oa.inf = true) (ib : ob.inf = true) (hp : Hd w oa p) (hp' : Hd w ob p') (ht : Tab w) (eA : ∀ X q, Hd X oa q → Tab X → Calls Tryz.prog 37 #[vO oa q] X (RetH X e)) (eB : ∀ X q, Hd X ob q → Tab X → Calls Tryz.prog 37 #[vO ob q] X (RetH X e')) (qe : decide (e = e') = false) (l0 : ∀ X q t, Hd X e q → Hd X e' t → Tab X → Calls Tryz.prog 60 #[vO e q, vO e' t] X (RetB X vv)) :
 Calls Tryz.prog 60 #[vO oa p, vO ob p'] w (RetB w vv) := by
 have EA := hI eA
 have EB := hI eB
 have L0 := hI l0
 clear eA eB l0
 obtain ⟨a0, a1, a2, a3, a4, a5, ea⟩ := cells7 (oa) p
 obtain ⟨b0, b1, b2, b3, b4, b5, eb⟩ := cells7 (ob) p'
 have T := Bx2.new w #[a0, a1, a2, a3, a4, a5, p] #[b0, b1, b2, b3, b4, b5, p']
 rw [vO_cells ea, vO_cells eb]
 go_enter Tryz.func60, Tryz.ntmps60
 go_wp2_with fail
 generalize (w.alloc (.cells #[a0, a1, a2, a3, a4, a5, p] 35)).alloc (.cells #[b0, b1, b2, b3, b4, b5, p'] 35) = W at T ⊢
 have B0 : Hid (Bx W (w.heap.size) (cellsO (oa) p).toArray) := by rw [ea]; exact T.b0
 have K0 := hI (hp.below T.bel)
 have B1 : Hid (Bx W (w.heap.size + 1) (cellsO (ob) p').toArray) := by rw [eb]; exact T.b1
 have K1 := hI (hp'.below T.bel)
 have HW := hI T.bel
 have HT := hI (ht.below T.bel)
 try rw [← vO_cells ea]
 try rw [← vO_cells eb]
 clear T ea eb hp hp' ht
 with_reducible refine (infR oa p _ true ia K0.out).mono ?_
 rintro e w1 ⟨rfl, hb⟩
 replace B0 := kB B0 hb
 replace K0 := kH K0 hb
 replace B1 := kB B1 hb
 replace K1 := kH K1 hb
 replace HW := kW HW hb
 replace HT := kT HT hb
 clear hb
 go_wp2_with (first | (with_reducible refine lG (.tmp 2) B0.out ?_) | (with_reducible refine lG (.tmp 3) B1.out ?_))
 with_reducible refine (infR oa p _ true ia K0.out).mono ?_
 rintro e w2 ⟨rfl, hb⟩
 replace B0 := kB B0 hb
 replace K0 := kH K0 hb
 replace B1 := kB B1 hb
 replace K1 := kH K1 hb
 replace HW := kW HW hb
 replace HT := kT HT hb
 clear hb
 go_wp2_with (first | (with_reducible refine lG (.tmp 2) B0.out ?_) | (with_reducible refine lG (.tmp 3) B1.out ?_))
 with_reducible refine (infR ob p' _ true ib K1.out).mono ?_
 rintro e w3 ⟨rfl, hb⟩
 replace B0 := kB B0 hb
 replace K0 := kH K0 hb
 replace B1 := kB B1 hb
 replace K1 := kH K1 hb
 replace HW := kW HW hb
 replace HT := kT HT hb
 clear hb
 go_wp2_with (first | (with_reducible refine lG (.tmp 2) B0.out ?_) | (with_reducible refine lG (.tmp 3) B1.out ?_))
 refine wp_region_grow (l := _) 6 (by kernel_rfl) (by kernel_rfl) (fun i => [29, 30, 31, 32, 33, 34].getD i 0) (LR [LV (vO (oa) p), LH (e), LV (vO (ob) p'), LH (e'), LV (.bool false), LV (.bool true)]) (LR_mono ⟨mLV _, mLH _, mLV _, mLH _, mLV _, mLV _, trivial⟩) (by
  intro i j hi hj h
  exact inj_getD [29, 30, 31, 32, 33, 34] (by decide) i j hi hj h) (by
  intro i hi
  exact lt_getD 57 [29, 30, 31, 32, 33, 34] (by decide) i hi) ?step ?done
 case step =>
  intro i hi a w9 v lo hi' hoth hb hw
  have sl2 : a.tmps[2]? = some (.pointer (some ⟨w.heap.size, 0, none⟩)) := (hoth 2 (fun j hj => ne_getD 2 _ (by decide) j hj)).trans rfl
  have sl3 : a.tmps[3]? = some (.pointer (some ⟨w.heap.size + 1, 0, none⟩)) := (hoth 3 (fun j hj => ne_getD 3 _ (by decide) j hj)).trans rfl
  match i, hi with
  | 0, _ =>
   exact gw_box rfl (wanted_plain rfl) (.tmp 2) rfl (eval_of sl2) (B0.out.keep hb) ⟨_, rfl, Below.refl _ _, rfl⟩
  | 1, _ =>
   obtain ⟨s0, r0, _⟩ := hw 0 (by omega) (by kernel_rfl)
   have e0 : v 0 = vO (oa) p := r0
   rw [e0] at s0
   refine gw_t rfl (wanted_plain rfl) 37 29 _ _ rfl (fun v w => by go_simp) s0 ?_
   with_reducible refine (EA.out w9 p (K0.out.below hb) (HT.out.below hb)).mono ?_
   rintro e w3 ⟨p, rfl, hp, hb3⟩
   exact ⟨_, rfl, _, rfl, hb3, p, rfl, hp⟩
  | 2, _ =>
   exact gw_box rfl (wanted_plain rfl) (.tmp 3) rfl (eval_of sl3) (B1.out.keep hb) ⟨_, rfl, Below.refl _ _, rfl⟩
  | 3, _ =>
   obtain ⟨s0, r0, _⟩ := hw 2 (by omega) (by kernel_rfl)
   have e0 : v 2 = vO (ob) p' := r0
   rw [e0] at s0
   refine gw_t rfl (wanted_plain rfl) 37 31 _ _ rfl (fun v w => by go_simp) s0 ?_
   with_reducible refine (EB.out w9 p' (K1.out.below hb) (HT.out.below hb)).mono ?_
   rintro e w3 ⟨p, rfl, hp, hb3⟩
   exact ⟨_, rfl, _, rfl, hb3, p, rfl, hp⟩
  | 4, _ =>
   obtain ⟨s0, r0, _⟩ := hw 1 (by omega) (by kernel_rfl)
   obtain ⟨qq0, e0, kk0⟩ : LH (e) (v 1) (lo 1) (hi' 1) w9 := r0
   rw [e0] at s0
   obtain ⟨s1, r1, _⟩ := hw 3 (by omega) (by kernel_rfl)
   obtain ⟨qq1, e1, kk1⟩ : LH (e') (v 3) (lo 3) (hi' 3) w9 := r1
   rw [e1] at s1
   refine gw_tt rfl (wanted_plain rfl) 15 30 32 _ _ _ rfl (fun v u w => by go_simp) s0 s1 ?_
   with_reducible refine (equalH e e' qq0 qq1 w9 false qe kk0 kk1).mono ?_
   rintro e w3 ⟨rfl, hb3⟩
   exact ⟨_, rfl, _, rfl, hb3, rfl⟩
  | 5, _ =>
   obtain ⟨s0, r0, _⟩ := hw 4 (by omega) (by kernel_rfl)
   have e0 : v 4 = .bool false := r0
   rw [e0] at s0
   exact gw_not rfl (wanted_plain rfl) 33 _ _ rfl s0 ⟨_, rfl, Below.refl _ _, rfl⟩
 case done =>
  intro a w9 v lo hi' hdef hsz hoth hb hj hap
  obtain ⟨_, hv5, _, _⟩ := hj 5 (by omega)
  have ha := eq_puts hdef hsz hoth (fun i hi => (hj i hi).1)
  subst ha
  clear hj hoth hdef hsz hap
  change v 5 = _ at hv5
  simp only [puts, List.getD_cons_zero, List.getD_cons_succ, hv5]
  generalize v 0 = v0
  generalize v 1 = v1
  generalize v 2 = v2
  generalize v 3 = v3
  generalize v 4 = v4
  clear hv5
  simp only [Act.put, List.setIfInBounds_toArray, List.set_cons_zero, List.set_cons_succ]
  show wpList _ _ _ [_] _ _
  replace B0 := kB B0 hb
  replace K0 := kH K0 hb
  replace B1 := kB B1 hb
  replace K1 := kH K1 hb
  replace HW := kW HW hb
  replace HT := kT HT hb
  clear hb
  go_wp2_with (first | (with_reducible refine lG (.tmp 2) B0.out ?_) | (with_reducible refine lG (.tmp 3) B1.out ?_))
  refine wp_region_grow (l := _) 5 (by kernel_rfl) (by kernel_rfl) (fun i => [35, 36, 37, 38, 39].getD i 0) (LR [LV (vO (oa) p), LH (e), LV (vO (ob) p'), LH (e'), LV (.bool vv)]) (LR_mono ⟨mLV _, mLH _, mLV _, mLH _, mLV _, trivial⟩) (by
   intro i j hi hj h
   exact inj_getD [35, 36, 37, 38, 39] (by decide) i j hi hj h) (by
   intro i hi
   exact lt_getD 57 [35, 36, 37, 38, 39] (by decide) i hi) ?step ?done
  case step =>
   intro i hi a w9 v lo hi' hoth hb hw
   have sl2 : a.tmps[2]? = some (.pointer (some ⟨w.heap.size, 0, none⟩)) := (hoth 2 (fun j hj => ne_getD 2 _ (by decide) j hj)).trans rfl
   have sl3 : a.tmps[3]? = some (.pointer (some ⟨w.heap.size + 1, 0, none⟩)) := (hoth 3 (fun j hj => ne_getD 3 _ (by decide) j hj)).trans rfl
   match i, hi with
   | 0, _ =>
    exact gw_box rfl (wanted_plain rfl) (.tmp 2) rfl (eval_of sl2) (B0.out.keep hb) ⟨_, rfl, Below.refl _ _, rfl⟩
   | 1, _ =>
    obtain ⟨s0, r0, _⟩ := hw 0 (by omega) (by kernel_rfl)
    have e0 : v 0 = vO (oa) p := r0
    rw [e0] at s0
    refine gw_t rfl (wanted_plain rfl) 37 35 _ _ rfl (fun v w => by go_simp) s0 ?_
    with_reducible refine (EA.out w9 p (K0.out.below hb) (HT.out.below hb)).mono ?_
    rintro e w3 ⟨p, rfl, hp, hb3⟩
    exact ⟨_, rfl, _, rfl, hb3, p, rfl, hp⟩
   | 2, _ =>
    exact gw_box rfl (wanted_plain rfl) (.tmp 3) rfl (eval_of sl3) (B1.out.keep hb) ⟨_, rfl, Below.refl _ _, rfl⟩
   | 3, _ =>
    obtain ⟨s0, r0, _⟩ := hw 2 (by omega) (by kernel_rfl)
    have e0 : v 2 = vO (ob) p' := r0
    rw [e0] at s0
    refine gw_t rfl (wanted_plain rfl) 37 37 _ _ rfl (fun v w => by go_simp) s0 ?_
    with_reducible refine (EB.out w9 p' (K1.out.below hb) (HT.out.below hb)).mono ?_
    rintro e w3 ⟨p, rfl, hp, hb3⟩
    exact ⟨_, rfl, _, rfl, hb3, p, rfl, hp⟩
   | 4, _ =>
    obtain ⟨s0, r0, _⟩ := hw 1 (by omega) (by kernel_rfl)
    obtain ⟨qq0, e0, kk0⟩ : LH (e) (v 1) (lo 1) (hi' 1) w9 := r0
    rw [e0] at s0
    obtain ⟨s1, r1, _⟩ := hw 3 (by omega) (by kernel_rfl)
    obtain ⟨qq1, e1, kk1⟩ : LH (e') (v 3) (lo 3) (hi' 3) w9 := r1
    rw [e1] at s1
    refine gw_tt rfl (wanted_plain rfl) 60 36 38 _ _ _ rfl (fun v u w => by go_simp) s0 s1 ?_
    with_reducible refine (L0.out w9 qq0 qq1 kk0 kk1 (HT.out.below hb)).mono ?_
    rintro e w3 ⟨rfl, hb3⟩
    exact ⟨_, rfl, _, rfl, hb3, rfl⟩
  case done =>
   intro a w9 v lo hi' hdef hsz hoth hb hj hap
   obtain ⟨_, hv4, _, _⟩ := hj 4 (by omega)
   have ha := eq_puts hdef hsz hoth (fun i hi => (hj i hi).1)
   subst ha
   clear hj hoth hdef hsz hap
   change v 4 = _ at hv4
   simp only [puts, List.getD_cons_zero, List.getD_cons_succ, hv4]
   generalize v 0 = v0
   generalize v 1 = v1
   generalize v 2 = v2
   generalize v 3 = v3
   clear hv4
   simp only [Act.put, List.setIfInBounds_toArray, List.set_cons_zero, List.set_cons_succ]
   show wpList _ _ _ [_] _ _
   replace B0 := kB B0 hb
   replace K0 := kH K0 hb
   replace B1 := kB B1 hb
   replace K1 := kH K1 hb
   replace HW := kW HW hb
   replace HT := kT HT hb
   clear hb
   go_wp2_with (first | (with_reducible refine lG (.tmp 2) B0.out ?_) | (with_reducible refine lG (.tmp 3) B1.out ?_))
   go_ret
   exact ⟨rfl, HW.out⟩
theorem lessPP2 (oa ob : Ob) (p p' : Value) (w : World) (vv : Bool) (e e' c c' r r' : Ob) (ia : oa.inf = true) (ib : ob.inf = true) (hp : Hd w oa p) (hp' : Hd w ob p') (ht : Tab w) (eA : ∀ X q, Hd X oa q → Tab X → Calls Tryz.prog 37 #[vO oa q] X (RetH X e)) (eB : ∀ X q, Hd X ob q → Tab X → Calls Tryz.prog 37 #[vO ob q] X (RetH X e')) (qe : decide (e = e') = true) (cA : ∀ X q, Hd X oa q → Tab X → Calls Tryz.prog 38 #[vO oa q] X (RetH X c)) (cB : ∀ X q, Hd X ob q → Tab X → Calls Tryz.prog 38 #[vO ob q] X (RetH X c')) (qc : decide (c = c') = false) (l1 : ∀ X q t, Hd X c q → Hd X c' t → Tab X → Calls Tryz.prog 82 #[vO c q, vO c' t] X (RetB X vv)) :
 Calls Tryz.prog 60 #[vO oa p, vO ob p'] w (RetB w vv) := by
 have EA := hI eA
 have EB := hI eB
 have CA := hI cA
 have CB := hI cB
 have L1 := hI l1
 clear eA eB cA cB l1
 obtain ⟨a0, a1, a2, a3, a4, a5, ea⟩ := cells7 (oa) p
 obtain ⟨b0, b1, b2, b3, b4, b5, eb⟩ := cells7 (ob) p'
 have T := Bx2.new w #[a0, a1, a2, a3, a4, a5, p] #[b0, b1, b2, b3, b4, b5, p']
 rw [vO_cells ea, vO_cells eb]
 go_enter Tryz.func60, Tryz.ntmps60
 go_wp2_with fail
 generalize (w.alloc (.cells #[a0, a1, a2, a3, a4, a5, p] 35)).alloc (.cells #[b0, b1, b2, b3, b4, b5, p'] 35) = W at T ⊢
 have B0 : Hid (Bx W (w.heap.size) (cellsO (oa) p).toArray) := by rw [ea]; exact T.b0
 have K0 := hI (hp.below T.bel)
 have B1 : Hid (Bx W (w.heap.size + 1) (cellsO (ob) p').toArray) := by rw [eb]; exact T.b1
 have K1 := hI (hp'.below T.bel)
 have HW := hI T.bel
 have HT := hI (ht.below T.bel)
 try rw [← vO_cells ea]
 try rw [← vO_cells eb]
 clear T ea eb hp hp' ht
 with_reducible refine (infR oa p _ true ia K0.out).mono ?_
 rintro e w1 ⟨rfl, hb⟩
 replace B0 := kB B0 hb
 replace K0 := kH K0 hb
 replace B1 := kB B1 hb
 replace K1 := kH K1 hb
 replace HW := kW HW hb
 replace HT := kT HT hb
 clear hb
 go_wp2_with (first | (with_reducible refine lG (.tmp 2) B0.out ?_) | (with_reducible refine lG (.tmp 3) B1.out ?_))
 with_reducible refine (infR oa p _ true ia K0.out).mono ?_
 rintro e w2 ⟨rfl, hb⟩
 replace B0 := kB B0 hb
 replace K0 := kH K0 hb
 replace B1 := kB B1 hb
 replace K1 := kH K1 hb
 replace HW := kW HW hb
 replace HT := kT HT hb
 clear hb
 go_wp2_with (first | (with_reducible refine lG (.tmp 2) B0.out ?_) | (with_reducible refine lG (.tmp 3) B1.out ?_))
 with_reducible refine (infR ob p' _ true ib K1.out).mono ?_
 rintro e w3 ⟨rfl, hb⟩
 replace B0 := kB B0 hb
 replace K0 := kH K0 hb
 replace B1 := kB B1 hb
 replace K1 := kH K1 hb
 replace HW := kW HW hb
 replace HT := kT HT hb
 clear hb
 go_wp2_with (first | (with_reducible refine lG (.tmp 2) B0.out ?_) | (with_reducible refine lG (.tmp 3) B1.out ?_))
 refine wp_region_grow (l := _) 6 (by kernel_rfl) (by kernel_rfl) (fun i => [29, 30, 31, 32, 33, 34].getD i 0) (LR [LV (vO (oa) p), LH (e), LV (vO (ob) p'), LH (e'), LV (.bool true), LV (.bool false)]) (LR_mono ⟨mLV _, mLH _, mLV _, mLH _, mLV _, mLV _, trivial⟩) (by
  intro i j hi hj h
  exact inj_getD [29, 30, 31, 32, 33, 34] (by decide) i j hi hj h) (by
  intro i hi
  exact lt_getD 57 [29, 30, 31, 32, 33, 34] (by decide) i hi) ?step ?done
 case step =>
  intro i hi a w9 v lo hi' hoth hb hw
  have sl2 : a.tmps[2]? = some (.pointer (some ⟨w.heap.size, 0, none⟩)) := (hoth 2 (fun j hj => ne_getD 2 _ (by decide) j hj)).trans rfl
  have sl3 : a.tmps[3]? = some (.pointer (some ⟨w.heap.size + 1, 0, none⟩)) := (hoth 3 (fun j hj => ne_getD 3 _ (by decide) j hj)).trans rfl
  match i, hi with
  | 0, _ =>
   exact gw_box rfl (wanted_plain rfl) (.tmp 2) rfl (eval_of sl2) (B0.out.keep hb) ⟨_, rfl, Below.refl _ _, rfl⟩
  | 1, _ =>
   obtain ⟨s0, r0, _⟩ := hw 0 (by omega) (by kernel_rfl)
   have e0 : v 0 = vO (oa) p := r0
   rw [e0] at s0
   refine gw_t rfl (wanted_plain rfl) 37 29 _ _ rfl (fun v w => by go_simp) s0 ?_
   with_reducible refine (EA.out w9 p (K0.out.below hb) (HT.out.below hb)).mono ?_
   rintro e w3 ⟨p, rfl, hp, hb3⟩
   exact ⟨_, rfl, _, rfl, hb3, p, rfl, hp⟩
  | 2, _ =>
   exact gw_box rfl (wanted_plain rfl) (.tmp 3) rfl (eval_of sl3) (B1.out.keep hb) ⟨_, rfl, Below.refl _ _, rfl⟩
  | 3, _ =>
   obtain ⟨s0, r0, _⟩ := hw 2 (by omega) (by kernel_rfl)
   have e0 : v 2 = vO (ob) p' := r0
   rw [e0] at s0
   refine gw_t rfl (wanted_plain rfl) 37 31 _ _ rfl (fun v w => by go_simp) s0 ?_
   with_reducible refine (EB.out w9 p' (K1.out.below hb) (HT.out.below hb)).mono ?_
   rintro e w3 ⟨p, rfl, hp, hb3⟩
   exact ⟨_, rfl, _, rfl, hb3, p, rfl, hp⟩
  | 4, _ =>
   obtain ⟨s0, r0, _⟩ := hw 1 (by omega) (by kernel_rfl)
   obtain ⟨qq0, e0, kk0⟩ : LH (e) (v 1) (lo 1) (hi' 1) w9 := r0
   rw [e0] at s0
   obtain ⟨s1, r1, _⟩ := hw 3 (by omega) (by kernel_rfl)
   obtain ⟨qq1, e1, kk1⟩ : LH (e') (v 3) (lo 3) (hi' 3) w9 := r1
   rw [e1] at s1
   refine gw_tt rfl (wanted_plain rfl) 15 30 32 _ _ _ rfl (fun v u w => by go_simp) s0 s1 ?_
   with_reducible refine (equalH e e' qq0 qq1 w9 true qe kk0 kk1).mono ?_
   rintro e w3 ⟨rfl, hb3⟩
   exact ⟨_, rfl, _, rfl, hb3, rfl⟩
  | 5, _ =>
   obtain ⟨s0, r0, _⟩ := hw 4 (by omega) (by kernel_rfl)
   have e0 : v 4 = .bool true := r0
   rw [e0] at s0
   exact gw_not rfl (wanted_plain rfl) 33 _ _ rfl s0 ⟨_, rfl, Below.refl _ _, rfl⟩
 case done =>
  intro a w9 v lo hi' hdef hsz hoth hb hj hap
  obtain ⟨_, hv5, _, _⟩ := hj 5 (by omega)
  have ha := eq_puts hdef hsz hoth (fun i hi => (hj i hi).1)
  subst ha
  clear hj hoth hdef hsz hap
  change v 5 = _ at hv5
  simp only [puts, List.getD_cons_zero, List.getD_cons_succ, hv5]
  generalize v 0 = v0
  generalize v 1 = v1
  generalize v 2 = v2
  generalize v 3 = v3
  generalize v 4 = v4
  clear hv5
  simp only [Act.put, List.setIfInBounds_toArray, List.set_cons_zero, List.set_cons_succ]
  show wpList _ _ _ [_] _ _
  replace B0 := kB B0 hb
  replace K0 := kH K0 hb
  replace B1 := kB B1 hb
  replace K1 := kH K1 hb
  replace HW := kW HW hb
  replace HT := kT HT hb
  clear hb
  go_wp2_with (first | (with_reducible refine lG (.tmp 2) B0.out ?_) | (with_reducible refine lG (.tmp 3) B1.out ?_))
  refine wp_region_grow (l := _) 6 (by kernel_rfl) (by kernel_rfl) (fun i => [41, 42, 43, 44, 45, 46].getD i 0) (LR [LV (vO (oa) p), LH (c), LV (vO (ob) p'), LH (c'), LV (.bool false), LV (.bool true)]) (LR_mono ⟨mLV _, mLH _, mLV _, mLH _, mLV _, mLV _, trivial⟩) (by
   intro i j hi hj h
   exact inj_getD [41, 42, 43, 44, 45, 46] (by decide) i j hi hj h) (by
   intro i hi
   exact lt_getD 57 [41, 42, 43, 44, 45, 46] (by decide) i hi) ?step ?done
  case step =>
   intro i hi a w9 v lo hi' hoth hb hw
   have sl2 : a.tmps[2]? = some (.pointer (some ⟨w.heap.size, 0, none⟩)) := (hoth 2 (fun j hj => ne_getD 2 _ (by decide) j hj)).trans rfl
   have sl3 : a.tmps[3]? = some (.pointer (some ⟨w.heap.size + 1, 0, none⟩)) := (hoth 3 (fun j hj => ne_getD 3 _ (by decide) j hj)).trans rfl
   match i, hi with
   | 0, _ =>
    exact gw_box rfl (wanted_plain rfl) (.tmp 2) rfl (eval_of sl2) (B0.out.keep hb) ⟨_, rfl, Below.refl _ _, rfl⟩
   | 1, _ =>
    obtain ⟨s0, r0, _⟩ := hw 0 (by omega) (by kernel_rfl)
    have e0 : v 0 = vO (oa) p := r0
    rw [e0] at s0
    refine gw_t rfl (wanted_plain rfl) 38 41 _ _ rfl (fun v w => by go_simp) s0 ?_
    with_reducible refine (CA.out w9 p (K0.out.below hb) (HT.out.below hb)).mono ?_
    rintro e w3 ⟨p, rfl, hp, hb3⟩
    exact ⟨_, rfl, _, rfl, hb3, p, rfl, hp⟩
   | 2, _ =>
    exact gw_box rfl (wanted_plain rfl) (.tmp 3) rfl (eval_of sl3) (B1.out.keep hb) ⟨_, rfl, Below.refl _ _, rfl⟩
   | 3, _ =>
    obtain ⟨s0, r0, _⟩ := hw 2 (by omega) (by kernel_rfl)
    have e0 : v 2 = vO (ob) p' := r0
    rw [e0] at s0
    refine gw_t rfl (wanted_plain rfl) 38 43 _ _ rfl (fun v w => by go_simp) s0 ?_
    with_reducible refine (CB.out w9 p' (K1.out.below hb) (HT.out.below hb)).mono ?_
    rintro e w3 ⟨p, rfl, hp, hb3⟩
    exact ⟨_, rfl, _, rfl, hb3, p, rfl, hp⟩
   | 4, _ =>
    obtain ⟨s0, r0, _⟩ := hw 1 (by omega) (by kernel_rfl)
    obtain ⟨qq0, e0, kk0⟩ : LH (c) (v 1) (lo 1) (hi' 1) w9 := r0
    rw [e0] at s0
    obtain ⟨s1, r1, _⟩ := hw 3 (by omega) (by kernel_rfl)
    obtain ⟨qq1, e1, kk1⟩ : LH (c') (v 3) (lo 3) (hi' 3) w9 := r1
    rw [e1] at s1
    refine gw_tt rfl (wanted_plain rfl) 15 42 44 _ _ _ rfl (fun v u w => by go_simp) s0 s1 ?_
    with_reducible refine (equalH c c' qq0 qq1 w9 false qc kk0 kk1).mono ?_
    rintro e w3 ⟨rfl, hb3⟩
    exact ⟨_, rfl, _, rfl, hb3, rfl⟩
   | 5, _ =>
    obtain ⟨s0, r0, _⟩ := hw 4 (by omega) (by kernel_rfl)
    have e0 : v 4 = .bool false := r0
    rw [e0] at s0
    exact gw_not rfl (wanted_plain rfl) 45 _ _ rfl s0 ⟨_, rfl, Below.refl _ _, rfl⟩
  case done =>
   intro a w9 v lo hi' hdef hsz hoth hb hj hap
   obtain ⟨_, hv5, _, _⟩ := hj 5 (by omega)
   have ha := eq_puts hdef hsz hoth (fun i hi => (hj i hi).1)
   subst ha
   clear hj hoth hdef hsz hap
   change v 5 = _ at hv5
   simp only [puts, List.getD_cons_zero, List.getD_cons_succ, hv5]
   generalize v 0 = v0
   generalize v 1 = v1
   generalize v 2 = v2
   generalize v 3 = v3
   generalize v 4 = v4
   clear hv5
   simp only [Act.put, List.setIfInBounds_toArray, List.set_cons_zero, List.set_cons_succ]
   show wpList _ _ _ [_] _ _
   replace B0 := kB B0 hb
   replace K0 := kH K0 hb
   replace B1 := kB B1 hb
   replace K1 := kH K1 hb
   replace HW := kW HW hb
   replace HT := kT HT hb
   clear hb
   go_wp2_with (first | (with_reducible refine lG (.tmp 2) B0.out ?_) | (with_reducible refine lG (.tmp 3) B1.out ?_))
   refine wp_region_grow (l := _) 5 (by kernel_rfl) (by kernel_rfl) (fun i => [47, 48, 49, 50, 51].getD i 0) (LR [LV (vO (oa) p), LH (c), LV (vO (ob) p'), LH (c'), LV (.bool vv)]) (LR_mono ⟨mLV _, mLH _, mLV _, mLH _, mLV _, trivial⟩) (by
    intro i j hi hj h
    exact inj_getD [47, 48, 49, 50, 51] (by decide) i j hi hj h) (by
    intro i hi
    exact lt_getD 57 [47, 48, 49, 50, 51] (by decide) i hi) ?step ?done
   case step =>
    intro i hi a w9 v lo hi' hoth hb hw
    have sl2 : a.tmps[2]? = some (.pointer (some ⟨w.heap.size, 0, none⟩)) := (hoth 2 (fun j hj => ne_getD 2 _ (by decide) j hj)).trans rfl
    have sl3 : a.tmps[3]? = some (.pointer (some ⟨w.heap.size + 1, 0, none⟩)) := (hoth 3 (fun j hj => ne_getD 3 _ (by decide) j hj)).trans rfl
    match i, hi with
    | 0, _ =>
     exact gw_box rfl (wanted_plain rfl) (.tmp 2) rfl (eval_of sl2) (B0.out.keep hb) ⟨_, rfl, Below.refl _ _, rfl⟩
    | 1, _ =>
     obtain ⟨s0, r0, _⟩ := hw 0 (by omega) (by kernel_rfl)
     have e0 : v 0 = vO (oa) p := r0
     rw [e0] at s0
     refine gw_t rfl (wanted_plain rfl) 38 47 _ _ rfl (fun v w => by go_simp) s0 ?_
     with_reducible refine (CA.out w9 p (K0.out.below hb) (HT.out.below hb)).mono ?_
     rintro e w3 ⟨p, rfl, hp, hb3⟩
     exact ⟨_, rfl, _, rfl, hb3, p, rfl, hp⟩
    | 2, _ =>
     exact gw_box rfl (wanted_plain rfl) (.tmp 3) rfl (eval_of sl3) (B1.out.keep hb) ⟨_, rfl, Below.refl _ _, rfl⟩
    | 3, _ =>
     obtain ⟨s0, r0, _⟩ := hw 2 (by omega) (by kernel_rfl)
     have e0 : v 2 = vO (ob) p' := r0
     rw [e0] at s0
     refine gw_t rfl (wanted_plain rfl) 38 49 _ _ rfl (fun v w => by go_simp) s0 ?_
     with_reducible refine (CB.out w9 p' (K1.out.below hb) (HT.out.below hb)).mono ?_
     rintro e w3 ⟨p, rfl, hp, hb3⟩
     exact ⟨_, rfl, _, rfl, hb3, p, rfl, hp⟩
    | 4, _ =>
     obtain ⟨s0, r0, _⟩ := hw 1 (by omega) (by kernel_rfl)
     obtain ⟨qq0, e0, kk0⟩ : LH (c) (v 1) (lo 1) (hi' 1) w9 := r0
     rw [e0] at s0
     obtain ⟨s1, r1, _⟩ := hw 3 (by omega) (by kernel_rfl)
     obtain ⟨qq1, e1, kk1⟩ : LH (c') (v 3) (lo 3) (hi' 3) w9 := r1
     rw [e1] at s1
     refine gw_tt rfl (wanted_plain rfl) 82 48 50 _ _ _ rfl (fun v u w => by go_simp) s0 s1 ?_
     with_reducible refine (L1.out w9 qq0 qq1 kk0 kk1 (HT.out.below hb)).mono ?_
     rintro e w3 ⟨rfl, hb3⟩
     exact ⟨_, rfl, _, rfl, hb3, rfl⟩
   case done =>
    intro a w9 v lo hi' hdef hsz hoth hb hj hap
    obtain ⟨_, hv4, _, _⟩ := hj 4 (by omega)
    have ha := eq_puts hdef hsz hoth (fun i hi => (hj i hi).1)
    subst ha
    clear hj hoth hdef hsz hap
    change v 4 = _ at hv4
    simp only [puts, List.getD_cons_zero, List.getD_cons_succ, hv4]
    generalize v 0 = v0
    generalize v 1 = v1
    generalize v 2 = v2
    generalize v 3 = v3
    clear hv4
    simp only [Act.put, List.setIfInBounds_toArray, List.set_cons_zero, List.set_cons_succ]
    show wpList _ _ _ [_] _ _
    replace B0 := kB B0 hb
    replace K0 := kH K0 hb
    replace B1 := kB B1 hb
    replace K1 := kH K1 hb
    replace HW := kW HW hb
    replace HT := kT HT hb
    clear hb
    go_wp2_with (first | (with_reducible refine lG (.tmp 2) B0.out ?_) | (with_reducible refine lG (.tmp 3) B1.out ?_))
    go_ret
    exact ⟨rfl, HW.out⟩
theorem lessPP3 (oa ob : Ob) (p p' : Value) (w : World) (vv : Bool) (e e' c c' r r' : Ob) (ia : oa.inf = true) (ib : ob.inf = true) (hp : Hd w oa p) (hp' : Hd w ob p') (ht : Tab w) (eA : ∀ X q, Hd X oa q → Tab X → Calls Tryz.prog 37 #[vO oa q] X (RetH X e)) (eB : ∀ X q, Hd X ob q → Tab X → Calls Tryz.prog 37 #[vO ob q] X (RetH X e')) (qe : decide (e = e') = true) (cA : ∀ X q, Hd X oa q → Tab X → Calls Tryz.prog 38 #[vO oa q] X (RetH X c)) (cB : ∀ X q, Hd X ob q → Tab X → Calls Tryz.prog 38 #[vO ob q] X (RetH X c')) (qc : decide (c = c') = true) (rA : ∀ X q, Hd X oa q → Tab X → Calls Tryz.prog 40 #[vO oa q] X (RetH X r)) (rB : ∀ X q, Hd X ob q → Tab X → Calls Tryz.prog 40 #[vO ob q] X (RetH X r')) (l2 : ∀ X q t, Hd X r q → Hd X r' t → Tab X → Calls Tryz.prog 60 #[vO r q, vO r' t] X (RetB X vv)) :
 Calls Tryz.prog 60 #[vO oa p, vO ob p'] w (RetB w vv) := by
 have EA := hI eA
 have EB := hI eB
 have CA := hI cA
 have CB := hI cB
 have RA := hI rA
 have RB := hI rB
 have L2 := hI l2
 clear eA eB cA cB rA rB l2
 obtain ⟨a0, a1, a2, a3, a4, a5, ea⟩ := cells7 (oa) p
 obtain ⟨b0, b1, b2, b3, b4, b5, eb⟩ := cells7 (ob) p'
 have T := Bx2.new w #[a0, a1, a2, a3, a4, a5, p] #[b0, b1, b2, b3, b4, b5, p']
 rw [vO_cells ea, vO_cells eb]
 go_enter Tryz.func60, Tryz.ntmps60
 go_wp2_with fail
 generalize (w.alloc (.cells #[a0, a1, a2, a3, a4, a5, p] 35)).alloc (.cells #[b0, b1, b2, b3, b4, b5, p'] 35) = W at T ⊢
 have B0 : Hid (Bx W (w.heap.size) (cellsO (oa) p).toArray) := by rw [ea]; exact T.b0
 have K0 := hI (hp.below T.bel)
 have B1 : Hid (Bx W (w.heap.size + 1) (cellsO (ob) p').toArray) := by rw [eb]; exact T.b1
 have K1 := hI (hp'.below T.bel)
 have HW := hI T.bel
 have HT := hI (ht.below T.bel)
 try rw [← vO_cells ea]
 try rw [← vO_cells eb]
 clear T ea eb hp hp' ht
 with_reducible refine (infR oa p _ true ia K0.out).mono ?_
 rintro e w1 ⟨rfl, hb⟩
 replace B0 := kB B0 hb
 replace K0 := kH K0 hb
 replace B1 := kB B1 hb
 replace K1 := kH K1 hb
 replace HW := kW HW hb
 replace HT := kT HT hb
 clear hb
 go_wp2_with (first | (with_reducible refine lG (.tmp 2) B0.out ?_) | (with_reducible refine lG (.tmp 3) B1.out ?_))
 with_reducible refine (infR oa p _ true ia K0.out).mono ?_
 rintro e w2 ⟨rfl, hb⟩
 replace B0 := kB B0 hb
 replace K0 := kH K0 hb
 replace B1 := kB B1 hb
 replace K1 := kH K1 hb
 replace HW := kW HW hb
 replace HT := kT HT hb
 clear hb
 go_wp2_with (first | (with_reducible refine lG (.tmp 2) B0.out ?_) | (with_reducible refine lG (.tmp 3) B1.out ?_))
 with_reducible refine (infR ob p' _ true ib K1.out).mono ?_
 rintro e w3 ⟨rfl, hb⟩
 replace B0 := kB B0 hb
 replace K0 := kH K0 hb
 replace B1 := kB B1 hb
 replace K1 := kH K1 hb
 replace HW := kW HW hb
 replace HT := kT HT hb
 clear hb
 go_wp2_with (first | (with_reducible refine lG (.tmp 2) B0.out ?_) | (with_reducible refine lG (.tmp 3) B1.out ?_))
 refine wp_region_grow (l := _) 6 (by kernel_rfl) (by kernel_rfl) (fun i => [29, 30, 31, 32, 33, 34].getD i 0) (LR [LV (vO (oa) p), LH (e), LV (vO (ob) p'), LH (e'), LV (.bool true), LV (.bool false)]) (LR_mono ⟨mLV _, mLH _, mLV _, mLH _, mLV _, mLV _, trivial⟩) (by
  intro i j hi hj h
  exact inj_getD [29, 30, 31, 32, 33, 34] (by decide) i j hi hj h) (by
  intro i hi
  exact lt_getD 57 [29, 30, 31, 32, 33, 34] (by decide) i hi) ?step ?done
 case step =>
  intro i hi a w9 v lo hi' hoth hb hw
  have sl2 : a.tmps[2]? = some (.pointer (some ⟨w.heap.size, 0, none⟩)) := (hoth 2 (fun j hj => ne_getD 2 _ (by decide) j hj)).trans rfl
  have sl3 : a.tmps[3]? = some (.pointer (some ⟨w.heap.size + 1, 0, none⟩)) := (hoth 3 (fun j hj => ne_getD 3 _ (by decide) j hj)).trans rfl
  match i, hi with
  | 0, _ =>
   exact gw_box rfl (wanted_plain rfl) (.tmp 2) rfl (eval_of sl2) (B0.out.keep hb) ⟨_, rfl, Below.refl _ _, rfl⟩
  | 1, _ =>
   obtain ⟨s0, r0, _⟩ := hw 0 (by omega) (by kernel_rfl)
   have e0 : v 0 = vO (oa) p := r0
   rw [e0] at s0
   refine gw_t rfl (wanted_plain rfl) 37 29 _ _ rfl (fun v w => by go_simp) s0 ?_
   with_reducible refine (EA.out w9 p (K0.out.below hb) (HT.out.below hb)).mono ?_
   rintro e w3 ⟨p, rfl, hp, hb3⟩
   exact ⟨_, rfl, _, rfl, hb3, p, rfl, hp⟩
  | 2, _ =>
   exact gw_box rfl (wanted_plain rfl) (.tmp 3) rfl (eval_of sl3) (B1.out.keep hb) ⟨_, rfl, Below.refl _ _, rfl⟩
  | 3, _ =>
   obtain ⟨s0, r0, _⟩ := hw 2 (by omega) (by kernel_rfl)
   have e0 : v 2 = vO (ob) p' := r0
   rw [e0] at s0
   refine gw_t rfl (wanted_plain rfl) 37 31 _ _ rfl (fun v w => by go_simp) s0 ?_
   with_reducible refine (EB.out w9 p' (K1.out.below hb) (HT.out.below hb)).mono ?_
   rintro e w3 ⟨p, rfl, hp, hb3⟩
   exact ⟨_, rfl, _, rfl, hb3, p, rfl, hp⟩
  | 4, _ =>
   obtain ⟨s0, r0, _⟩ := hw 1 (by omega) (by kernel_rfl)
   obtain ⟨qq0, e0, kk0⟩ : LH (e) (v 1) (lo 1) (hi' 1) w9 := r0
   rw [e0] at s0
   obtain ⟨s1, r1, _⟩ := hw 3 (by omega) (by kernel_rfl)
   obtain ⟨qq1, e1, kk1⟩ : LH (e') (v 3) (lo 3) (hi' 3) w9 := r1
   rw [e1] at s1
   refine gw_tt rfl (wanted_plain rfl) 15 30 32 _ _ _ rfl (fun v u w => by go_simp) s0 s1 ?_
   with_reducible refine (equalH e e' qq0 qq1 w9 true qe kk0 kk1).mono ?_
   rintro e w3 ⟨rfl, hb3⟩
   exact ⟨_, rfl, _, rfl, hb3, rfl⟩
  | 5, _ =>
   obtain ⟨s0, r0, _⟩ := hw 4 (by omega) (by kernel_rfl)
   have e0 : v 4 = .bool true := r0
   rw [e0] at s0
   exact gw_not rfl (wanted_plain rfl) 33 _ _ rfl s0 ⟨_, rfl, Below.refl _ _, rfl⟩
 case done =>
  intro a w9 v lo hi' hdef hsz hoth hb hj hap
  obtain ⟨_, hv5, _, _⟩ := hj 5 (by omega)
  have ha := eq_puts hdef hsz hoth (fun i hi => (hj i hi).1)
  subst ha
  clear hj hoth hdef hsz hap
  change v 5 = _ at hv5
  simp only [puts, List.getD_cons_zero, List.getD_cons_succ, hv5]
  generalize v 0 = v0
  generalize v 1 = v1
  generalize v 2 = v2
  generalize v 3 = v3
  generalize v 4 = v4
  clear hv5
  simp only [Act.put, List.setIfInBounds_toArray, List.set_cons_zero, List.set_cons_succ]
  show wpList _ _ _ [_] _ _
  replace B0 := kB B0 hb
  replace K0 := kH K0 hb
  replace B1 := kB B1 hb
  replace K1 := kH K1 hb
  replace HW := kW HW hb
  replace HT := kT HT hb
  clear hb
  go_wp2_with (first | (with_reducible refine lG (.tmp 2) B0.out ?_) | (with_reducible refine lG (.tmp 3) B1.out ?_))
  refine wp_region_grow (l := _) 6 (by kernel_rfl) (by kernel_rfl) (fun i => [41, 42, 43, 44, 45, 46].getD i 0) (LR [LV (vO (oa) p), LH (c), LV (vO (ob) p'), LH (c'), LV (.bool true), LV (.bool false)]) (LR_mono ⟨mLV _, mLH _, mLV _, mLH _, mLV _, mLV _, trivial⟩) (by
   intro i j hi hj h
   exact inj_getD [41, 42, 43, 44, 45, 46] (by decide) i j hi hj h) (by
   intro i hi
   exact lt_getD 57 [41, 42, 43, 44, 45, 46] (by decide) i hi) ?step ?done
  case step =>
   intro i hi a w9 v lo hi' hoth hb hw
   have sl2 : a.tmps[2]? = some (.pointer (some ⟨w.heap.size, 0, none⟩)) := (hoth 2 (fun j hj => ne_getD 2 _ (by decide) j hj)).trans rfl
   have sl3 : a.tmps[3]? = some (.pointer (some ⟨w.heap.size + 1, 0, none⟩)) := (hoth 3 (fun j hj => ne_getD 3 _ (by decide) j hj)).trans rfl
   match i, hi with
   | 0, _ =>
    exact gw_box rfl (wanted_plain rfl) (.tmp 2) rfl (eval_of sl2) (B0.out.keep hb) ⟨_, rfl, Below.refl _ _, rfl⟩
   | 1, _ =>
    obtain ⟨s0, r0, _⟩ := hw 0 (by omega) (by kernel_rfl)
    have e0 : v 0 = vO (oa) p := r0
    rw [e0] at s0
    refine gw_t rfl (wanted_plain rfl) 38 41 _ _ rfl (fun v w => by go_simp) s0 ?_
    with_reducible refine (CA.out w9 p (K0.out.below hb) (HT.out.below hb)).mono ?_
    rintro e w3 ⟨p, rfl, hp, hb3⟩
    exact ⟨_, rfl, _, rfl, hb3, p, rfl, hp⟩
   | 2, _ =>
    exact gw_box rfl (wanted_plain rfl) (.tmp 3) rfl (eval_of sl3) (B1.out.keep hb) ⟨_, rfl, Below.refl _ _, rfl⟩
   | 3, _ =>
    obtain ⟨s0, r0, _⟩ := hw 2 (by omega) (by kernel_rfl)
    have e0 : v 2 = vO (ob) p' := r0
    rw [e0] at s0
    refine gw_t rfl (wanted_plain rfl) 38 43 _ _ rfl (fun v w => by go_simp) s0 ?_
    with_reducible refine (CB.out w9 p' (K1.out.below hb) (HT.out.below hb)).mono ?_
    rintro e w3 ⟨p, rfl, hp, hb3⟩
    exact ⟨_, rfl, _, rfl, hb3, p, rfl, hp⟩
   | 4, _ =>
    obtain ⟨s0, r0, _⟩ := hw 1 (by omega) (by kernel_rfl)
    obtain ⟨qq0, e0, kk0⟩ : LH (c) (v 1) (lo 1) (hi' 1) w9 := r0
    rw [e0] at s0
    obtain ⟨s1, r1, _⟩ := hw 3 (by omega) (by kernel_rfl)
    obtain ⟨qq1, e1, kk1⟩ : LH (c') (v 3) (lo 3) (hi' 3) w9 := r1
    rw [e1] at s1
    refine gw_tt rfl (wanted_plain rfl) 15 42 44 _ _ _ rfl (fun v u w => by go_simp) s0 s1 ?_
    with_reducible refine (equalH c c' qq0 qq1 w9 true qc kk0 kk1).mono ?_
    rintro e w3 ⟨rfl, hb3⟩
    exact ⟨_, rfl, _, rfl, hb3, rfl⟩
   | 5, _ =>
    obtain ⟨s0, r0, _⟩ := hw 4 (by omega) (by kernel_rfl)
    have e0 : v 4 = .bool true := r0
    rw [e0] at s0
    exact gw_not rfl (wanted_plain rfl) 45 _ _ rfl s0 ⟨_, rfl, Below.refl _ _, rfl⟩
  case done =>
   intro a w9 v lo hi' hdef hsz hoth hb hj hap
   obtain ⟨_, hv5, _, _⟩ := hj 5 (by omega)
   have ha := eq_puts hdef hsz hoth (fun i hi => (hj i hi).1)
   subst ha
   clear hj hoth hdef hsz hap
   change v 5 = _ at hv5
   simp only [puts, List.getD_cons_zero, List.getD_cons_succ, hv5]
   generalize v 0 = v0
   generalize v 1 = v1
   generalize v 2 = v2
   generalize v 3 = v3
   generalize v 4 = v4
   clear hv5
   simp only [Act.put, List.setIfInBounds_toArray, List.set_cons_zero, List.set_cons_succ]
   show wpList _ _ _ [_] _ _
   replace B0 := kB B0 hb
   replace K0 := kH K0 hb
   replace B1 := kB B1 hb
   replace K1 := kH K1 hb
   replace HW := kW HW hb
   replace HT := kT HT hb
   clear hb
   go_wp2_with (first | (with_reducible refine lG (.tmp 2) B0.out ?_) | (with_reducible refine lG (.tmp 3) B1.out ?_))
   refine wp_region_grow (l := _) 5 (by kernel_rfl) (by kernel_rfl) (fun i => [52, 53, 54, 55, 56].getD i 0) (LR [LV (vO (oa) p), LH (r), LV (vO (ob) p'), LH (r'), LV (.bool vv)]) (LR_mono ⟨mLV _, mLH _, mLV _, mLH _, mLV _, trivial⟩) (by
    intro i j hi hj h
    exact inj_getD [52, 53, 54, 55, 56] (by decide) i j hi hj h) (by
    intro i hi
    exact lt_getD 57 [52, 53, 54, 55, 56] (by decide) i hi) ?step ?done
   case step =>
    intro i hi a w9 v lo hi' hoth hb hw
    have sl2 : a.tmps[2]? = some (.pointer (some ⟨w.heap.size, 0, none⟩)) := (hoth 2 (fun j hj => ne_getD 2 _ (by decide) j hj)).trans rfl
    have sl3 : a.tmps[3]? = some (.pointer (some ⟨w.heap.size + 1, 0, none⟩)) := (hoth 3 (fun j hj => ne_getD 3 _ (by decide) j hj)).trans rfl
    match i, hi with
    | 0, _ =>
     exact gw_box rfl (wanted_plain rfl) (.tmp 2) rfl (eval_of sl2) (B0.out.keep hb) ⟨_, rfl, Below.refl _ _, rfl⟩
    | 1, _ =>
     obtain ⟨s0, r0, _⟩ := hw 0 (by omega) (by kernel_rfl)
     have e0 : v 0 = vO (oa) p := r0
     rw [e0] at s0
     refine gw_t rfl (wanted_plain rfl) 40 52 _ _ rfl (fun v w => by go_simp) s0 ?_
     with_reducible refine (RA.out w9 p (K0.out.below hb) (HT.out.below hb)).mono ?_
     rintro e w3 ⟨p, rfl, hp, hb3⟩
     exact ⟨_, rfl, _, rfl, hb3, p, rfl, hp⟩
    | 2, _ =>
     exact gw_box rfl (wanted_plain rfl) (.tmp 3) rfl (eval_of sl3) (B1.out.keep hb) ⟨_, rfl, Below.refl _ _, rfl⟩
    | 3, _ =>
     obtain ⟨s0, r0, _⟩ := hw 2 (by omega) (by kernel_rfl)
     have e0 : v 2 = vO (ob) p' := r0
     rw [e0] at s0
     refine gw_t rfl (wanted_plain rfl) 40 54 _ _ rfl (fun v w => by go_simp) s0 ?_
     with_reducible refine (RB.out w9 p' (K1.out.below hb) (HT.out.below hb)).mono ?_
     rintro e w3 ⟨p, rfl, hp, hb3⟩
     exact ⟨_, rfl, _, rfl, hb3, p, rfl, hp⟩
    | 4, _ =>
     obtain ⟨s0, r0, _⟩ := hw 1 (by omega) (by kernel_rfl)
     obtain ⟨qq0, e0, kk0⟩ : LH (r) (v 1) (lo 1) (hi' 1) w9 := r0
     rw [e0] at s0
     obtain ⟨s1, r1, _⟩ := hw 3 (by omega) (by kernel_rfl)
     obtain ⟨qq1, e1, kk1⟩ : LH (r') (v 3) (lo 3) (hi' 3) w9 := r1
     rw [e1] at s1
     refine gw_tt rfl (wanted_plain rfl) 60 53 55 _ _ _ rfl (fun v u w => by go_simp) s0 s1 ?_
     with_reducible refine (L2.out w9 qq0 qq1 kk0 kk1 (HT.out.below hb)).mono ?_
     rintro e w3 ⟨rfl, hb3⟩
     exact ⟨_, rfl, _, rfl, hb3, rfl⟩
   case done =>
    intro a w9 v lo hi' hdef hsz hoth hb hj hap
    obtain ⟨_, hv4, _, _⟩ := hj 4 (by omega)
    have ha := eq_puts hdef hsz hoth (fun i hi => (hj i hi).1)
    subst ha
    clear hj hoth hdef hsz hap
    change v 4 = _ at hv4
    simp only [puts, List.getD_cons_zero, List.getD_cons_succ, hv4]
    generalize v 0 = v0
    generalize v 1 = v1
    generalize v 2 = v2
    generalize v 3 = v3
    clear hv4
    simp only [Act.put, List.setIfInBounds_toArray, List.set_cons_zero, List.set_cons_succ]
    show wpList _ _ _ [_] _ _
    replace B0 := kB B0 hb
    replace K0 := kH K0 hb
    replace B1 := kB B1 hb
    replace K1 := kH K1 hb
    replace HW := kW HW hb
    replace HT := kT HT hb
    clear hb
    go_wp2_with (first | (with_reducible refine lG (.tmp 2) B0.out ?_) | (with_reducible refine lG (.tmp 3) B1.out ?_))
    go_ret
    exact ⟨rfl, HW.out⟩
theorem lessE : ∀ (a b : On) (p p' : Value) (w : World), a.ob.bd 90 → b.ob.bd 90 → Hd w a.ob p → Hd w b.ob p' → Tab w →
 Calls Tryz.prog 60 #[vO a.ob p, vO b.ob p'] w (RetB w (decide (cmpE a b < 0)))
 | .fin m, .fin n, p, p', w, ha, hb, hp, hp', ht => lessFF _ _ p p' w _ rfl rfl hp hp' ht (fun X h h' hT => less2R m n p p' X ha hb h h' hT)
 | .fin m, .pw e c r, p, p', w, ha, hb, hp, hp', ht => lessFP _ _ p p' w rfl rfl hp hp'
 | .pw e c r, .fin m, p, p', w, ha, hb, hp, hp', ht => lessPF _ _ p p' w rfl rfl hp hp'
 | .pw e c r, .pw e' c' r', p, p', w, ha, hb, hp, hp', ht => by
  have eA := fun X q (h : Hd X (On.pw e c r).ob q) (hT : Tab X) => expE (.pw e c r) q X h hT
  have eB := fun X q (h : Hd X (On.pw e' c' r').ob q) (hT : Tab X) => expE (.pw e' c' r') q X h hT
  have cA := fun X q (h : Hd X (On.pw e c r).ob q) (hT : Tab X) => coeE (.pw e c r) q X h hT
  have cB := fun X q (h : Hd X (On.pw e' c' r').ob q) (hT : Tab X) => coeE (.pw e' c' r') q X h hT
  have rA := fun X q (h : Hd X (On.pw e c r).ob q) (hT : Tab X) => rstE (.pw e c r) q X h hT
  have rB := fun X q (h : Hd X (On.pw e' c' r').ob q) (hT : Tab X) => rstE (.pw e' c' r') q X h hT
  have ec : cmpE (.pw e c r) (.pw e' c' r') = next (cmpE e e') (next (cmpNt c c') (cmpE r r')) := rfl
  rw [ec]
  by_cases he : e = e'
  · have he0 : cmpE e e' = 0 := (cmpE_zero _ _).2 he
    by_cases hc : c = c'
    · have hc0 : cmpNt c c' = 0 := (cmpNt_zero _ _).2 hc
      have : next (cmpE e e') (next (cmpNt c c') (cmpE r r')) = cmpE r r' := by unfold next; rw [if_pos he0, if_pos hc0]
      rw [this]
      exact lessPP3 _ _ p p' w _ _ _ _ _ _ _ rfl rfl hp hp' ht eA eB (by rw [decide_eq_true_iff]; show e.ob = e'.ob; rw [he]) cA cB (by rw [decide_eq_true_iff]; show Ob.num (c : Rat) = Ob.num (c' : Rat); rw [hc]) rA rB
       (fun X q t h h' hT => lessE r r' q t X ha.2 hb.2 h h' hT)
    · have hc0 : cmpNt c c' ≠ 0 := fun h => hc ((cmpNt_zero _ _).1 h)
      have : next (cmpE e e') (next (cmpNt c c') (cmpE r r')) = cmpNt c c' := by unfold next; rw [if_pos he0, if_neg hc0]
      rw [this]
      exact lessPP2 _ _ p p' w _ _ _ _ _ .nil .nil rfl rfl hp hp' ht eA eB (by rw [decide_eq_true_iff]; show e.ob = e'.ob; rw [he]) cA cB (by rw [decide_eq_false_iff_not]; intro h; injection h with h; exact hc (natCast_inj h))
       (fun X q t h h' hT => less2R c c' q t X ha.1.2 hb.1.2 h h' hT)
  · have he0 : cmpE e e' ≠ 0 := fun h => he ((cmpE_zero _ _).1 h)
    have : next (cmpE e e') (next (cmpNt c c') (cmpE r r')) = cmpE e e' := by unfold next; rw [if_neg he0]
    rw [this]
    exact lessPP1 _ _ p p' w _ _ _ .nil .nil .nil .nil rfl rfl hp hp' ht eA eB (by rw [decide_eq_false_iff_not]; intro h; exact he (On.ob_inj h))
     (fun X q t h h' hT => lessE e e' q t X ha.1.1 hb.1.1 h h' hT)
theorem normalR : ∀ (o : Ob) (p : Value) (w : World), o.bd 90 → Hd w o p → Tab w → Calls Tryz.prog 63 #[vO o p] w (RetB w (ordOf o).isSome)
 | .num q, p, w, hb, hp, ht => by
  have h := normFlat (.num q) p w rfl hp
  have e : (ordOf (.num q)).isSome = (Ob.num q).nat.isSome := by show (((Ob.num q).nat).map On.fin).isSome = _; rw [Option.isSome_map]
  rw [e]; exact h
 | .str s, p, w, hb, hp, ht => normFlat (.str s) p w rfl hp
 | .sym x y, p, w, hb, hp, ht => normFlat (.sym x y) p w rfl hp
 | .cons (.num q) d, p, w, hb, hp, ht => normFlat (.cons (.num q) d) p w rfl hp
 | .cons (.str s) d, p, w, hb, hp, ht => normFlat (.cons (.str s) d) p w rfl hp
 | .cons (.sym x y) d, p, w, hb, hp, ht => normFlat (.cons (.sym x y) d) p w rfl hp
 | .cons (.cons e c) r, p, w, hb, hp, ht => by
  have iE := fun X q (h : Hd X e q) (hT : Tab X) => normalR e q X hb.1.1 h hT
  have iR := fun X q (h : Hd X r q) (hT : Tab X) => normalR r q X hb.2 h hT
  have nC := fun X q (h : Hd X c q) => naturalR c q X h
  rw [ordOf_cc]
  cases he : ordOf e with
  | none =>
   rw [he] at iE
   exact norm1 e c r p w iE hp ht
  | some e' =>
   rw [he] at iE
   obtain ⟨nfe, ee⟩ := ordOf_some he
   have hz : e.numIs 0 = decide (e' = .fin 0) := by rw [ee]; exact On.numIs e' 0
   by_cases h0 : e' = .fin 0
   · rw [decide_eq_true h0] at hz
     have : (ccOf (some e') c.nat (ordOf r)).isSome = false := by
      cases c.nat <;> cases ordOf r <;> simp [ccOf, h0]
     rw [this]
     exact norm2 e c r p w iE hz hp ht
   · rw [decide_eq_false h0] at hz
     cases hn : c.nat with
     | none =>
      rw [hn] at nC
      exact norm3 e c r p w iE hz nC hp ht
     | some n =>
      rw [hn] at nC
      have hzc : c.numIs 0 = decide (n = 0) := by
       rw [Ob.nat_some hn]
       have := On.numIs (.fin n) 0
       rw [show decide (On.fin n = .fin 0) = decide (n = 0) from by by_cases h : n = 0 <;> simp [h]] at this
       exact this
      by_cases hn0 : n = 0
      · rw [decide_eq_true hn0] at hzc
        have : (ccOf (some e') (some n) (ordOf r)).isSome = false := by cases ordOf r <;> simp [ccOf, hn0]
        rw [this]
        exact norm4 e c r p w iE hz nC hzc hp ht
      · rw [decide_eq_false hn0] at hzc
        cases hr : ordOf r with
        | none =>
         rw [hr] at iR
         exact norm5 e c r p w iE hz nC hzc iR hp ht
        | some r' =>
         rw [hr] at iR
         obtain ⟨nfr, er⟩ := ordOf_some hr
         have : (ccOf (some e') (some n) (some r')).isSome = decide (cmpE r'.exp e' < 0) := by
          show (if e' ≠ .fin 0 ∧ n ≠ 0 ∧ cmpE r'.exp e' < 0 then some (On.pw e' n r') else none).isSome = _
          by_cases hk : cmpE r'.exp e' < 0
          · rw [if_pos ⟨h0, hn0, hk⟩, decide_eq_true hk]; rfl
          · rw [if_neg (fun h => hk h.2.2), decide_eq_false hk]; rfl
         rw [this]
         exact norm6 e c r p w iE hz nC hzc iR r'.exp.ob _
          (fun X q h hT => by rw [er] at h ⊢; exact expE r' q X h hT)
          (fun X q t h h' hT => by
           rw [ee] at h' ⊢
           exact lessE r'.exp e' q t X (On.exp_bd (by decide) (by rw [← er]; exact hb.2)) (by rw [← ee]; exact hb.1.1) h h' hT) hp ht
theorem validR3 (o : Ob) (p : Value) (w : World) (hb : o.bd 90) (hn : o.nodes ≤ 3000) (hp : Hd w o p) (ht : Tab w) :
 Calls Tryz.prog 34 #[vO o p] w (RetB w (ordOf o).isSome) := by
 have HB := hI hb
 have HN := hI hn
 clear hb hn
 obtain ⟨a0, a1, a2, a3, a4, a5, ea⟩ := cells7 (o) p
 have T := Bx1.new w #[a0, a1, a2, a3, a4, a5, p]
 rw [vO_cells ea]
 go_enter Tryz.func34, Tryz.ntmps34
 go_wp2_with fail
 generalize w.alloc (.cells #[a0, a1, a2, a3, a4, a5, p] 35) = W at T ⊢
 have B0 : Hid (Bx W (w.heap.size) (cellsO (o) p).toArray) := by rw [ea]; exact T.b0
 have K0 := hI (hp.below T.bel)
 have HW := hI T.bel
 have HT := hI (ht.below T.bel)
 try rw [← vO_cells ea]
 clear T ea hp ht
 with_reducible refine (valid2R o p _ HB.out HN.out K0.out).mono ?_
 rintro e w1 ⟨rfl, hb⟩
 replace B0 := kB B0 hb
 replace K0 := kH K0 hb
 replace HW := kW HW hb
 replace HT := kT HT hb
 clear hb
 go_wp2_with (with_reducible refine lG (.tmp 1) B0.out ?_)
 with_reducible refine (normalR o p _ HB.out K0.out HT.out).mono ?_
 rintro e w2 ⟨rfl, hb⟩
 replace B0 := kB B0 hb
 replace K0 := kH K0 hb
 replace HW := kW HW hb
 replace HT := kT HT hb
 clear hb
 go_wp2_with (with_reducible refine lG (.tmp 1) B0.out ?_)
 go_ret
 exact ⟨rfl, HW.out⟩
theorem powerR_true (e c r : Ob) (pe pc pr : Value) (w : World) (he : Hd w e pe) (hc : Hd w c pc) (hr : Hd w r pr) (ht : Tab w)
 (hv : ∀ X q, Hd X (.cons (.cons e c) r) q → Tab X → Calls Tryz.prog 34 #[vO (.cons (.cons e c) r) q] X (RetB X true)) :
 Calls Tryz.prog 33 #[vO e pe, vO c pc, vO r pr] w (RetHB w (.cons (.cons e c) r) true) := by
 have HV := hI hv
 clear hv
 obtain ⟨a0, a1, a2, a3, a4, a5, ea⟩ := cells7 (e) pe
 obtain ⟨b0, b1, b2, b3, b4, b5, eb⟩ := cells7 (c) pc
 obtain ⟨c0, c1, c2, c3, c4, c5, ec⟩ := cells7 (r) pr
 have T := Bx4.new w #[a0, a1, a2, a3, a4, a5, pe] #[b0, b1, b2, b3, b4, b5, pc] #[c0, c1, c2, c3, c4, c5, pr] #[.int .i64 0, .string ⟨#[]⟩, .string ⟨#[]⟩, .string ⟨#[]⟩, .string ⟨#[]⟩, .string ⟨#[]⟩, .slice none 0 0]
 rw [vO_cells ea, vO_cells eb, vO_cells ec]
 go_enter Tryz.func33, Tryz.ntmps33
 go_wp2_with fail
 generalize (((w.alloc (.cells #[a0, a1, a2, a3, a4, a5, pe] 35)).alloc (.cells #[b0, b1, b2, b3, b4, b5, pc] 35)).alloc (.cells #[c0, c1, c2, c3, c4, c5, pr] 35)).alloc (.cells #[.int .i64 0, .string ⟨#[]⟩, .string ⟨#[]⟩, .string ⟨#[]⟩, .string ⟨#[]⟩, .string ⟨#[]⟩, .slice none 0 0] 35) = W at T ⊢
 have B0 : Hid (Bx W (w.heap.size) (cellsO (e) pe).toArray) := by rw [ea]; exact T.b0
 have K0 := hI (he.below T.bel)
 have B1 : Hid (Bx W (w.heap.size + 1) (cellsO (c) pc).toArray) := by rw [eb]; exact T.b1
 have K1 := hI (hc.below T.bel)
 have B2 : Hid (Bx W (w.heap.size + 1 + 1) (cellsO (r) pr).toArray) := by rw [ec]; exact T.b2
 have K2 := hI (hr.below T.bel)
 have R0 := hI T.b3
 have HW := hI T.bel
 have HT := hI (ht.below T.bel)
 try rw [← vO_cells ea]
 try rw [← vO_cells eb]
 try rw [← vO_cells ec]
 clear T ea eb ec he hc hr ht
 with_reducible refine (powerR e c r pe pc pr _ K0.out K1.out K2.out).mono ?_
 rintro e w1 ⟨q, rfl, k, hb⟩
 replace B0 := kB B0 hb
 replace K0 := kH K0 hb
 replace B1 := kB B1 hb
 replace K1 := kH K1 hb
 replace B2 := kB B2 hb
 replace K2 := kH K2 hb
 replace R0 := kB R0 hb
 replace HW := kW HW hb
 replace HT := kT HT hb
 clear hb
 replace k := hI k
 have T := hI (Bx1.new w1 #[.int .i64 0, .string ⟨#[]⟩, .string ⟨#[]⟩, .string ⟨#[]⟩, .string ⟨#[]⟩, .string ⟨#[]⟩, .slice none 0 0])
 go_wp2_with (first | (with_reducible refine sB (.tmp 8) (.tmp 12) k.out T.out.b0 ?_; have P := Pt1.new (w := w1) (o := .cons (.cons e c) r) (p := q) (z := #[.int .i64 0, .string ⟨#[]⟩, .string ⟨#[]⟩, .string ⟨#[]⟩, .string ⟨#[]⟩, .string ⟨#[]⟩, .slice none 0 0]); generalize World.setRow (w1.alloc (.cells #[.int .i64 0, .string ⟨#[]⟩, .string ⟨#[]⟩, .string ⟨#[]⟩, .string ⟨#[]⟩, .string ⟨#[]⟩, .slice none 0 0] 35)) w1.heap.size (cellsO (.cons (.cons e c) r) q).toArray = X1 at P ⊢; have hb := P.bel; replace B0 := kB B0 hb; replace K0 := kH K0 hb; replace B1 := kB B1 hb; replace K1 := kH K1 hb; replace B2 := kB B2 hb; replace K2 := kH K2 hb; replace R0 := kB R0 hb; replace HW := kW HW hb; replace HT := kT HT hb; replace k := kH k hb; have D := hI P.b0; clear P hb T) | (with_reducible refine lG (.tmp 3) B0.out ?_) | (with_reducible refine lG (.tmp 4) B1.out ?_) | (with_reducible refine lG (.tmp 5) B2.out ?_) | (with_reducible refine lG (.tmp 8) D.out ?_))
 with_reducible refine (HV.out _ q k.out HT.out).mono ?_
 rintro e w2 ⟨rfl, hb⟩
 replace B0 := kB B0 hb
 replace K0 := kH K0 hb
 replace B1 := kB B1 hb
 replace K1 := kH K1 hb
 replace B2 := kB B2 hb
 replace K2 := kH K2 hb
 replace R0 := kB R0 hb
 replace HW := kW HW hb
 replace HT := kT HT hb
 replace k := kH k hb
 replace D := kB D hb
 clear hb
 go_wp2_with (first | (with_reducible refine sB (.tmp 6) (.tmp 17) k.out R0.out ?_) | (with_reducible refine lG (.tmp 3) B0.out ?_) | (with_reducible refine lG (.tmp 4) B1.out ?_) | (with_reducible refine lG (.tmp 5) B2.out ?_) | (with_reducible refine lG (.tmp 8) D.out ?_))
 exact retHBs rfl rfl rfl R0.out rfl k.out (by omega) HW.out
theorem keptR (o : Ob) (p : Value) (w : World) (hb : o.bd 90) (hn : o.nodes ≤ 3000) (hp : Hd w o p) :
 Calls Tryz.prog 58 #[vO o p] w (RetHB w o true) := by
 have HB := hI hb
 have HN := hI hn
 clear hb hn
 obtain ⟨a0, a1, a2, a3, a4, a5, ea⟩ := cells7 (o) p
 have T := Bx2.new w #[a0, a1, a2, a3, a4, a5, p] #[.int .i64 0, .string ⟨#[]⟩, .string ⟨#[]⟩, .string ⟨#[]⟩, .string ⟨#[]⟩, .string ⟨#[]⟩, .slice none 0 0]
 rw [vO_cells ea]
 go_enter Tryz.func58, Tryz.ntmps58
 go_wp2_with fail
 generalize (w.alloc (.cells #[a0, a1, a2, a3, a4, a5, p] 35)).alloc (.cells #[.int .i64 0, .string ⟨#[]⟩, .string ⟨#[]⟩, .string ⟨#[]⟩, .string ⟨#[]⟩, .string ⟨#[]⟩, .slice none 0 0] 35) = W at T ⊢
 have B0 : Hid (Bx W (w.heap.size) (cellsO (o) p).toArray) := by rw [ea]; exact T.b0
 have K0 := hI (hp.below T.bel)
 have R0 := hI T.b1
 have HW := hI T.bel
 try rw [← vO_cells ea]
 clear T ea hp
 with_reducible refine (valid2R o p _ HB.out HN.out K0.out).mono ?_
 rintro e w1 ⟨rfl, hb⟩
 replace B0 := kB B0 hb
 replace K0 := kH K0 hb
 replace R0 := kB R0 hb
 replace HW := kW HW hb
 clear hb
 go_wp2_with (first | (with_reducible refine sB (.tmp 2) (.tmp 8) K0.out R0.out ?_) | (with_reducible refine lG (.tmp 1) B0.out ?_))
 exact retHBs rfl rfl rfl R0.out rfl K0.out (by omega) HW.out
theorem validRE (a : On) (p : Value) (w : World) (na : a.nf) (hb : a.ob.bd 90) (hn : a.ob.nodes ≤ 3000) (hp : Hd w a.ob p) (ht : Tab w) : Calls Tryz.prog 34 #[vO a.ob p] w (RetB w true) := by
 have h := validR3 a.ob p w hb hn hp ht
 rw [ordOf_ob na] at h
 exact h
section
variable {Q : Exit → Act → World → Prop}
theorem wp_region_growR {id : Nat} {a0 : Act} {w0 : World} {l : List Oper} (n : Nat) (hm : Tryz.prog.follows .mixedOrders = true) (hB : invB .any l.toArray (n + 1) = true)
 (d : Nat → Nat) (R : Nat → Value → Nat → Nat → World → Prop) (hR : ∀ i x l m w w', R i x l m w → m ≤ w.heap.size → Below w.heap.size w w' → R i x l m w')
 (hd : ∀ i j, i < n → j < n → d i = d j → i = j) (hds : ∀ i, i < n → d i < a0.tmps.size)
 (late : List Nat) (hlate : ((List.range n).all fun i => late.contains i || Region.waitsFor .any l.toArray n i) = true)
 (kv : Nat) (hkv : kv < n) (sb : Tmp) (hsb : ∀ j, j < n → d j ≠ sb) (g : Nat) (x7 : Array Value) (hg0 : a0.tmps[sb]? = some (.pointer (some ⟨g, 0, none⟩))) (hbx : Bx w0 g x7) (hx7 : x7.size = 7) (hwv : Region.waitsFor .any l.toArray n kv = true)
 (os : Oper) (hos : l[n]? = some os) (hog : os.guard = none) (hod : os.dst = none) (hop : os.op = .store 35 (.tmp sb) (.tmp (d kv)))
 (o : Ob) (hRv : ∀ v lo hi w, R kv v lo hi w → ∃ p, v = vO o p ∧ Hd w o p)
 (step : ∀ i, i < n → ∀ (a : Act) (w : World) (v : Nat → Value) (lo hi : Nat → Nat), (∀ s, (∀ j, j < n → d j ≠ s) → a.tmps[s]? = a0.tmps[s]?) → Below w0.heap.size w0 w →
  (∀ j, j < n → Region.waitsFor .any l.toArray i j = true → a.tmps[d j]? = some (v j) ∧ R j (v j) (lo j) (hi j) w ∧ w0.heap.size ≤ lo j ∧ hi j ≤ w.heap.size) →
  wpOp Tryz.prog l.toArray Q i (fun a' w' => ∃ x, a' = a.put (some (d i)) x ∧ Below w.heap.size w w' ∧ R i x w.heap.size w'.heap.size w') a w)
 (stepL : ∀ i, i < n → late.contains i = true → ∀ (a : Act) (w1 w : World) (v : Nat → Value) (lo hi : Nat → Nat),
  (∀ j, j < n → Region.waitsFor .any l.toArray i j = true → a.tmps[d j]? = some (v j) ∧ R j (v j) (lo j) (hi j) w1) →
  wpOp Tryz.prog l.toArray Q i (fun a' w' => ∃ x, a' = a.put (some (d i)) x ∧ w' = w ∧ R i x w1.heap.size w1.heap.size w1) a w)
 (done : ∀ (a : Act) (w : World) (v : Nat → Value) (lo hi : Nat → Nat) (p : Value), a.defers = a0.defers → a.tmps.size = a0.tmps.size → (∀ s, (∀ j, j < n → d j ≠ s) → a.tmps[s]? = a0.tmps[s]?) → Below w0.heap.size w0 w →
  (∀ j, j < n → a.tmps[d j]? = some (v j) ∧ R j (v j) (lo j) (hi j) w ∧ w0.heap.size ≤ lo j ∧ hi j ≤ w.heap.size) → (∀ i j, i < n → j < n → i ≠ j → hi i ≤ lo j ∨ hi j ≤ lo i) →
  v kv = vO o p → Hd w o p →
  wpList Tryz.prog l.toArray Q (l.drop (n + 1)) a (w.setRow g (cellsO o p).toArray)) :
 (Code.region id l.toArray true).wp Tryz.prog Q a0 w0 := by
 have hn : n + 1 < l.length := by
  simp only [invB, Bool.and_eq_true, decide_eq_true_eq] at hB
  simpa using hB.1.1.1.1
 have hwait : ∀ i, i < n → late.contains i = false → Region.waitsFor .any l.toArray n i = true := fun i hi hl => by
  have h1 := List.all_eq_true.1 hlate i (List.mem_range.2 hi)
  rw [hl] at h1
  simpa using h1
 refine wp_region_inv (n + 1) hm hB (fun listed a w => listed.size = l.length ∧
  ((listed.getD n true = false ∧ ∃ v lo hi, Grow n d R a0 w0 listed a w v lo hi) ∨
   (listed.getD n true = true ∧ (∀ i, i < n → Region.waitsFor .any l.toArray n i = true → listed.getD i true = true) ∧
    ∃ v lo hi w1 p, Grow n d R a0 w0 listed a w1 v lo hi ∧ v kv = vO o p ∧ Hd w1 o p ∧ w = w1.setRow g (cellsO o p).toArray))) ?_ ?_ ?_
 · refine ⟨by simp, .inl ⟨?_, fun _ => undef, fun _ => 0, fun _ => 0, rfl, rfl, fun _ _ => rfl, ⟨rfl, rfl, rfl, Nat.le_refl _, fun _ _ => rfl⟩, fun i hi hl => ?_, fun i j hi hj _ hl => ?_⟩⟩
   · have hlt : n < l.length := by omega
     simp [hlt]
   · have : (Array.replicate l.length false).getD i true = false := by
      have hlt : i < l.length := by omega
      simp [hlt]
     rw [this] at hl; cases hl
   · have : (Array.replicate l.length false).getD i true = false := by
      have hlt : i < l.length := by omega
      simp [hlt]
     rw [this] at hl; cases hl
 · rintro listed a w i hi hr ⟨hsz, hph⟩
   obtain ⟨hun, oi, hoi, hall⟩ := mem_ready.1 hr
   have hwl : ∀ j, j < l.length → Region.waitsFor .any l.toArray i j = true → listed.getD j true = true := fun j hj hw => by
    obtain ⟨oj, hoj, e, he, hbn, hon⟩ := Region.waitsFor_spec hw
    have : oj = oi := Option.some.inj (hoj.symm.trans hoi)
    subst this
    have hlj := hall e he hbn
    rw [hon] at hlj
    have hjl : j < listed.size := by omega
    simp [hjl] at hlj ⊢
    exact hlj
   have hgrow : ∀ k, listed.getD k true = true → (listed.setIfInBounds i true).getD k true = true := fun k hk => by
    by_cases e : i = k
    · subst e; exact set_getD
    · rw [Go.getD_set_ne true e]; exact hk
   rcases hph with ⟨hnl, v, lo, hi', hG⟩ | ⟨hnl, hwt, v, lo, hi', w1, p, hG, hv, hp, rfl⟩
   · by_cases hin : i = n
     · subst hin
       have hvv := hwl kv (by omega) hwv
       have sbs : a.tmps[sb]? = some (.pointer (some ⟨g, 0, none⟩)) := (hG.other sb hsb).trans hg0
       have bb : Bx w g x7 := hbx.below hG.below hbx.lt
       obtain ⟨sv, rv, _, _, _⟩ := hG.slot kv hkv hvv
       obtain ⟨p, ev, hp⟩ := hRv _ _ _ _ rv
       have hosl : l.toArray[i]? = some os := by simpa using hos
       refine wpOp_step hosl fun K' hK' => ?_
       rw [if_pos (wanted_plain hog)]
       refine wp_store_row 35 _ _ hop g (cellsO o p).toArray (eval_of sbs) ((eval_of sv).trans ev) _ _ bb (by rw [List.size_toArray, cellsO_length]; kernel_rfl) (by rw [hx7, List.size_toArray, cellsO_length]) (Pair.one hp) ?_
       refine hK' _ _ ⟨by simpa using hsz, .inr ⟨set_getD, fun j hj hw => hgrow j (hwl j (by omega) hw), v, lo, hi', w, p, ?_, ev, hp, rfl⟩⟩
       rw [hod]
       have hset : ∀ j, j < i → (listed.setIfInBounds i true).getD j true = listed.getD j true := fun j hj => Go.getD_set_ne true (by omega)
       exact ⟨hG.defers, hG.size, hG.other, hG.below, fun j hj hl => hG.slot j hj (by rw [← hset j hj]; exact hl), fun j k hj hk hne hl hl2 => hG.apart j k hj hk hne (by rw [← hset j hj]; exact hl) (by rw [← hset k hk]; exact hl2)⟩
     · have hi2 : i < n := by omega
       refine wpOp_mono ?_ (step i hi2 a w v lo hi' hG.other hG.below (fun j hj hw => ?_))
       · rintro a' w' ⟨x, rfl, hb, hx⟩
         refine ⟨by simpa using hsz, .inl ⟨?_, _, _, _, hG.step hR hd hds hi2 (by omega) hun hb hx⟩⟩
         rw [Go.getD_set_ne true (by omega)]; exact hnl
       · obtain ⟨h1, h2, h3, h4, h5⟩ := hG.slot j hj (hwl j (by omega) hw)
         exact ⟨h1, h2, h3, h5⟩
   · have hin : i ≠ n := fun e => by rw [e, hnl] at hun; cases hun
     have hi2 : i < n := by omega
     have hcl : late.contains i = true := by
      cases hc : late.contains i with
      | true => rfl
      | false => rw [hwt i hi2 (hwait i hi2 hc)] at hun; cases hun
     have hb2 := hwt kv hkv hwv
     have n2 : ¬ kv = i := fun e => by rw [← e, hb2] at hun; cases hun
     refine wpOp_mono ?_ (stepL i hi2 hcl a w1 (w1.setRow g (cellsO o p).toArray) v lo hi' (fun j hj hw => ?_))
     · rintro a' w' ⟨x, rfl, rfl, hx⟩
       refine ⟨by simpa using hsz, .inr ⟨hgrow n hnl, fun j hj hw => hgrow j (hwt j hj hw), _, _, _, w1, p, hG.step hR hd hds hi2 (by omega) hun (Below.refl _ _) hx, ?_, hp, rfl⟩⟩
       simp only [if_neg n2]; exact hv
     · obtain ⟨h1, h2, _, _, _⟩ := hG.slot j hj (hwl j (by omega) hw)
       exact ⟨h1, h2⟩
 · rintro a w ⟨hsz, hph⟩
   have hfull : ∀ i, i < n + 1 → (fullHead (n + 1) (l.length - (n + 1))).getD i true = true := fun i hi => by
    have hlt : i < (fullHead (n + 1) (l.length - (n + 1))).size := by simp [fullHead]; omega
    simp [fullHead, hi, List.getElem?_append]
   rcases hph with ⟨hnl, _⟩ | ⟨hnl, hwt, v, lo, hi', w1, p, hG, hv, hp, rfl⟩
   · rw [hfull n (by omega)] at hnl; cases hnl
   · exact done a w1 v lo hi' p hG.defers hG.size hG.other hG.below (fun j hj => by
      obtain ⟨h1, h2, h3, h4, h5⟩ := hG.slot j hj (hfull j (by omega))
      exact ⟨h1, h2, h3, h5⟩) (fun i j hi hj hne => hG.apart i j hi hj hne (hfull i (by omega)) (hfull j (by omega))) hv hp
end
end Go.Proofs.YtocbedijpomemaaGreatDoor
