/- The reference's Add, way by way. -/
import Derived.Test.YtocbedijpomemaaGreatDoorG19
import Derived.Test.YtocbedijpomemaaGreatDoorG24
import Derived.Lib.MinMax
import Derived.Test.YtocbedijpomemaaGreatDoorG20
import Derived.Test.YtocbedijpomemaaGreatDoorG21
namespace Go.Proofs.YtocbedijpomemaaGreatDoor
open Go Go.RowKit
set_option linter.unusedVariables false
set_option maxHeartbeats 32000000
set_option maxRecDepth 100000
theorem sum2R (x y : Rat) (p p' : Value) (w : World) (hx : Bd 90 x) (hy : Bd 90 y) (hp : Hd w (.num x) p) (hp' : Hd w (.num y) p') (ht : Tab w) :
 Calls Tryz.prog 59 #[vO (.num x) p, vO (.num y) p'] w (RetH w (.num (x + y))) :=
 (sumR 90 (by decide) (.num x) (.num y) p p' w (Has w) hp.pair hp'.pair hx hy ht).mono fun _ _ h => h.h
theorem addRZero (oa ob : Ob) (p p' : Value) (w : World) (hz : ob.numIs 0 = true) (hp : Hd w oa p) (hp' : Hd w ob p') (ht : Tab w) (va : ∀ X, Hd X oa p → Tab X → Calls Tryz.prog 34 #[vO oa p] X (RetB X true)) (vb : ∀ X, Hd X ob p' → Tab X → Calls Tryz.prog 34 #[vO ob p'] X (RetB X true)) :
 Calls Tryz.prog 32 #[vO oa p, vO ob p'] w (RetHB w (oa) true) := by
 have VA := hI va
 have VB := hI vb
 clear va vb
 obtain ⟨a0, a1, a2, a3, a4, a5, ea⟩ := cells7 (oa) p
 obtain ⟨b0, b1, b2, b3, b4, b5, eb⟩ := cells7 (ob) p'
 have T := Bx3.new w #[a0, a1, a2, a3, a4, a5, p] #[b0, b1, b2, b3, b4, b5, p'] #[.int .i64 0, .string ⟨#[]⟩, .string ⟨#[]⟩, .string ⟨#[]⟩, .string ⟨#[]⟩, .string ⟨#[]⟩, .slice none 0 0]
 rw [vO_cells ea, vO_cells eb]
 go_enter Tryz.func32, Tryz.ntmps32
 go_wp2_with fail
 generalize ((w.alloc (.cells #[a0, a1, a2, a3, a4, a5, p] 35)).alloc (.cells #[b0, b1, b2, b3, b4, b5, p'] 35)).alloc (.cells #[.int .i64 0, .string ⟨#[]⟩, .string ⟨#[]⟩, .string ⟨#[]⟩, .string ⟨#[]⟩, .string ⟨#[]⟩, .slice none 0 0] 35) = W at T ⊢
 have B0 : Hid (Bx W (w.heap.size) (cellsO (oa) p).toArray) := by rw [ea]; exact T.b0
 have K0 := hI (hp.below T.bel)
 have B1 : Hid (Bx W (w.heap.size + 1) (cellsO (ob) p').toArray) := by rw [eb]; exact T.b1
 have K1 := hI (hp'.below T.bel)
 have R0 := hI T.b2
 have HW := hI T.bel
 have HT := hI (ht.below T.bel)
 try rw [← vO_cells ea]
 try rw [← vO_cells eb]
 clear T ea eb hp hp' ht
 with_reducible refine (VA.out _ K0.out HT.out).mono ?_
 rintro e w1 ⟨rfl, hb⟩
 replace B0 := kB B0 hb
 replace K0 := kH K0 hb
 replace B1 := kB B1 hb
 replace K1 := kH K1 hb
 replace R0 := kB R0 hb
 replace HW := kW HW hb
 replace HT := kT HT hb
 clear hb
 go_wp2_with (first | (with_reducible refine lG (.tmp 2) B0.out ?_) | (with_reducible refine lG (.tmp 3) B1.out ?_))
 with_reducible refine (VB.out _ K1.out HT.out).mono ?_
 rintro e w2 ⟨rfl, hb⟩
 replace B0 := kB B0 hb
 replace K0 := kH K0 hb
 replace B1 := kB B1 hb
 replace K1 := kH K1 hb
 replace R0 := kB R0 hb
 replace HW := kW HW hb
 replace HT := kT HT hb
 clear hb
 go_wp2_with (first | (with_reducible refine lG (.tmp 2) B0.out ?_) | (with_reducible refine lG (.tmp 3) B1.out ?_))
 with_reducible refine (zeroR ob p' _ true hz).mono ?_
 rintro e w3 ⟨rfl, hb⟩
 replace B0 := kB B0 hb
 replace K0 := kH K0 hb
 replace B1 := kB B1 hb
 replace K1 := kH K1 hb
 replace R0 := kB R0 hb
 replace HW := kW HW hb
 replace HT := kT HT hb
 clear hb
 go_wp2_with (first | (with_reducible refine sB (.tmp 4) (.tmp 20) K0.out R0.out ?_) | (with_reducible refine lG (.tmp 2) B0.out ?_) | (with_reducible refine lG (.tmp 3) B1.out ?_))
 exact retHBs rfl rfl rfl R0.out rfl K0.out (by omega) HW.out
theorem addRFin (oa ob : Ob) (p p' : Value) (w : World) (s : Ob) (hz : ob.numIs 0 = false) (ia : oa.inf = false) (ib : ob.inf = false) (hp : Hd w oa p) (hp' : Hd w ob p') (ht : Tab w) (va : ∀ X, Hd X oa p → Tab X → Calls Tryz.prog 34 #[vO oa p] X (RetB X true)) (vb : ∀ X, Hd X ob p' → Tab X → Calls Tryz.prog 34 #[vO ob p'] X (RetB X true))
 (sm : ∀ X, Hd X oa p → Hd X ob p' → Tab X → Calls Tryz.prog 59 #[vO oa p, vO ob p'] X (RetH X s)) (kp : ∀ X q, Hd X (s) q → Calls Tryz.prog 58 #[vO (s) q] X (RetHB X (s) true)) :
 Calls Tryz.prog 32 #[vO oa p, vO ob p'] w (RetHB w (s) true) := by
 have VA := hI va
 have VB := hI vb
 have SM := hI sm
 have KP := hI kp
 clear va vb sm kp
 obtain ⟨a0, a1, a2, a3, a4, a5, ea⟩ := cells7 (oa) p
 obtain ⟨b0, b1, b2, b3, b4, b5, eb⟩ := cells7 (ob) p'
 have T := Bx3.new w #[a0, a1, a2, a3, a4, a5, p] #[b0, b1, b2, b3, b4, b5, p'] #[.int .i64 0, .string ⟨#[]⟩, .string ⟨#[]⟩, .string ⟨#[]⟩, .string ⟨#[]⟩, .string ⟨#[]⟩, .slice none 0 0]
 rw [vO_cells ea, vO_cells eb]
 go_enter Tryz.func32, Tryz.ntmps32
 go_wp2_with fail
 generalize ((w.alloc (.cells #[a0, a1, a2, a3, a4, a5, p] 35)).alloc (.cells #[b0, b1, b2, b3, b4, b5, p'] 35)).alloc (.cells #[.int .i64 0, .string ⟨#[]⟩, .string ⟨#[]⟩, .string ⟨#[]⟩, .string ⟨#[]⟩, .string ⟨#[]⟩, .slice none 0 0] 35) = W at T ⊢
 have B0 : Hid (Bx W (w.heap.size) (cellsO (oa) p).toArray) := by rw [ea]; exact T.b0
 have K0 := hI (hp.below T.bel)
 have B1 : Hid (Bx W (w.heap.size + 1) (cellsO (ob) p').toArray) := by rw [eb]; exact T.b1
 have K1 := hI (hp'.below T.bel)
 have R0 := hI T.b2
 have HW := hI T.bel
 have HT := hI (ht.below T.bel)
 try rw [← vO_cells ea]
 try rw [← vO_cells eb]
 clear T ea eb hp hp' ht
 with_reducible refine (VA.out _ K0.out HT.out).mono ?_
 rintro e w1 ⟨rfl, hb⟩
 replace B0 := kB B0 hb
 replace K0 := kH K0 hb
 replace B1 := kB B1 hb
 replace K1 := kH K1 hb
 replace R0 := kB R0 hb
 replace HW := kW HW hb
 replace HT := kT HT hb
 clear hb
 go_wp2_with (first | (with_reducible refine lG (.tmp 2) B0.out ?_) | (with_reducible refine lG (.tmp 3) B1.out ?_))
 with_reducible refine (VB.out _ K1.out HT.out).mono ?_
 rintro e w2 ⟨rfl, hb⟩
 replace B0 := kB B0 hb
 replace K0 := kH K0 hb
 replace B1 := kB B1 hb
 replace K1 := kH K1 hb
 replace R0 := kB R0 hb
 replace HW := kW HW hb
 replace HT := kT HT hb
 clear hb
 go_wp2_with (first | (with_reducible refine lG (.tmp 2) B0.out ?_) | (with_reducible refine lG (.tmp 3) B1.out ?_))
 with_reducible refine (zeroR ob p' _ false hz).mono ?_
 rintro e w3 ⟨rfl, hb⟩
 replace B0 := kB B0 hb
 replace K0 := kH K0 hb
 replace B1 := kB B1 hb
 replace K1 := kH K1 hb
 replace R0 := kB R0 hb
 replace HW := kW HW hb
 replace HT := kT HT hb
 clear hb
 go_wp2_with (first | (with_reducible refine lG (.tmp 2) B0.out ?_) | (with_reducible refine lG (.tmp 3) B1.out ?_))
 with_reducible refine (infR oa p _ false ia K0.out).mono ?_
 rintro e w4 ⟨rfl, hb⟩
 replace B0 := kB B0 hb
 replace K0 := kH K0 hb
 replace B1 := kB B1 hb
 replace K1 := kH K1 hb
 replace R0 := kB R0 hb
 replace HW := kW HW hb
 replace HT := kT HT hb
 clear hb
 go_wp2_with (first | (with_reducible refine lG (.tmp 2) B0.out ?_) | (with_reducible refine lG (.tmp 3) B1.out ?_))
 with_reducible refine (infR ob p' _ false ib K1.out).mono ?_
 rintro e w5 ⟨rfl, hb⟩
 replace B0 := kB B0 hb
 replace K0 := kH K0 hb
 replace B1 := kB B1 hb
 replace K1 := kH K1 hb
 replace R0 := kB R0 hb
 replace HW := kW HW hb
 replace HT := kT HT hb
 clear hb
 go_wp2_with (first | (with_reducible refine lG (.tmp 2) B0.out ?_) | (with_reducible refine lG (.tmp 3) B1.out ?_))
 with_reducible refine (SM.out _ K0.out K1.out HT.out).mono ?_
 rintro e w6 ⟨q, rfl, k, hb⟩
 replace B0 := kB B0 hb
 replace K0 := kH K0 hb
 replace B1 := kB B1 hb
 replace K1 := kH K1 hb
 replace R0 := kB R0 hb
 replace HW := kW HW hb
 replace HT := kT HT hb
 clear hb
 replace k := hI k
 go_wp2_with (first | (with_reducible refine lG (.tmp 2) B0.out ?_) | (with_reducible refine lG (.tmp 3) B1.out ?_))
 with_reducible refine (KP.out _ q k.out).mono ?_
 rintro e w7 ⟨q2, rfl, k2, hb⟩
 replace B0 := kB B0 hb
 replace K0 := kH K0 hb
 replace B1 := kB B1 hb
 replace K1 := kH K1 hb
 replace R0 := kB R0 hb
 replace HW := kW HW hb
 replace HT := kT HT hb
 replace k := kH k hb
 clear hb
 replace k2 := hI k2
 go_wp2_with (first | (with_reducible refine sB (.tmp 4) (.tmp 34) k2.out R0.out ?_) | (with_reducible refine lG (.tmp 2) B0.out ?_) | (with_reducible refine lG (.tmp 3) B1.out ?_))
 exact retHBs rfl rfl rfl R0.out rfl k2.out (by omega) HW.out
theorem addRLt1 (oa ob : Ob) (p p' : Value) (w : World) (e e' : Ob) (hz : ob.numIs 0 = false) (ia : oa.inf = true) (hp : Hd w oa p) (hp' : Hd w ob p') (ht : Tab w) (va : ∀ X, Hd X oa p → Tab X → Calls Tryz.prog 34 #[vO oa p] X (RetB X true)) (vb : ∀ X, Hd X ob p' → Tab X → Calls Tryz.prog 34 #[vO ob p'] X (RetB X true))
 (eA : ∀ X q, Hd X oa q → Tab X → Calls Tryz.prog 37 #[vO oa q] X (RetH X e)) (eB : ∀ X q, Hd X ob q → Tab X → Calls Tryz.prog 37 #[vO ob q] X (RetH X e')) (lS : ∀ X q t, Hd X e q → Hd X e' t → Tab X → Calls Tryz.prog 60 #[vO e q, vO e' t] X (RetB X true)) :
 Calls Tryz.prog 32 #[vO oa p, vO ob p'] w (RetHB w (ob) true) := by
 have VA := hI va
 have VB := hI vb
 have EA := hI eA
 have EB := hI eB
 have LS := hI lS
 clear va vb eA eB lS
 obtain ⟨a0, a1, a2, a3, a4, a5, ea⟩ := cells7 (oa) p
 obtain ⟨b0, b1, b2, b3, b4, b5, eb⟩ := cells7 (ob) p'
 have T := Bx3.new w #[a0, a1, a2, a3, a4, a5, p] #[b0, b1, b2, b3, b4, b5, p'] #[.int .i64 0, .string ⟨#[]⟩, .string ⟨#[]⟩, .string ⟨#[]⟩, .string ⟨#[]⟩, .string ⟨#[]⟩, .slice none 0 0]
 rw [vO_cells ea, vO_cells eb]
 go_enter Tryz.func32, Tryz.ntmps32
 go_wp2_with fail
 generalize ((w.alloc (.cells #[a0, a1, a2, a3, a4, a5, p] 35)).alloc (.cells #[b0, b1, b2, b3, b4, b5, p'] 35)).alloc (.cells #[.int .i64 0, .string ⟨#[]⟩, .string ⟨#[]⟩, .string ⟨#[]⟩, .string ⟨#[]⟩, .string ⟨#[]⟩, .slice none 0 0] 35) = W at T ⊢
 have B0 : Hid (Bx W (w.heap.size) (cellsO (oa) p).toArray) := by rw [ea]; exact T.b0
 have K0 := hI (hp.below T.bel)
 have B1 : Hid (Bx W (w.heap.size + 1) (cellsO (ob) p').toArray) := by rw [eb]; exact T.b1
 have K1 := hI (hp'.below T.bel)
 have R0 := hI T.b2
 have HW := hI T.bel
 have HT := hI (ht.below T.bel)
 try rw [← vO_cells ea]
 try rw [← vO_cells eb]
 clear T ea eb hp hp' ht
 with_reducible refine (VA.out _ K0.out HT.out).mono ?_
 rintro e w1 ⟨rfl, hb⟩
 replace B0 := kB B0 hb
 replace K0 := kH K0 hb
 replace B1 := kB B1 hb
 replace K1 := kH K1 hb
 replace R0 := kB R0 hb
 replace HW := kW HW hb
 replace HT := kT HT hb
 clear hb
 go_wp2_with (first | (with_reducible refine lG (.tmp 2) B0.out ?_) | (with_reducible refine lG (.tmp 3) B1.out ?_))
 with_reducible refine (VB.out _ K1.out HT.out).mono ?_
 rintro e w2 ⟨rfl, hb⟩
 replace B0 := kB B0 hb
 replace K0 := kH K0 hb
 replace B1 := kB B1 hb
 replace K1 := kH K1 hb
 replace R0 := kB R0 hb
 replace HW := kW HW hb
 replace HT := kT HT hb
 clear hb
 go_wp2_with (first | (with_reducible refine lG (.tmp 2) B0.out ?_) | (with_reducible refine lG (.tmp 3) B1.out ?_))
 with_reducible refine (zeroR ob p' _ false hz).mono ?_
 rintro e w3 ⟨rfl, hb⟩
 replace B0 := kB B0 hb
 replace K0 := kH K0 hb
 replace B1 := kB B1 hb
 replace K1 := kH K1 hb
 replace R0 := kB R0 hb
 replace HW := kW HW hb
 replace HT := kT HT hb
 clear hb
 go_wp2_with (first | (with_reducible refine lG (.tmp 2) B0.out ?_) | (with_reducible refine lG (.tmp 3) B1.out ?_))
 with_reducible refine (infR oa p _ true ia K0.out).mono ?_
 rintro e w4 ⟨rfl, hb⟩
 replace B0 := kB B0 hb
 replace K0 := kH K0 hb
 replace B1 := kB B1 hb
 replace K1 := kH K1 hb
 replace R0 := kB R0 hb
 replace HW := kW HW hb
 replace HT := kT HT hb
 clear hb
 go_wp2_with (first | (with_reducible refine lG (.tmp 2) B0.out ?_) | (with_reducible refine lG (.tmp 3) B1.out ?_))
 refine wp_region_grow (l := _) 5 (by kernel_rfl) (by kernel_rfl) (fun i => [37, 38, 39, 40, 41].getD i 0) (LR [LV (vO (oa) p), LH (e), LV (vO (ob) p'), LH (e'), LV (.bool true)]) (LR_mono ⟨mLV _, mLH _, mLV _, mLH _, mLV _, trivial⟩) (by
  intro i j hi hj h
  exact inj_getD [37, 38, 39, 40, 41] (by decide) i j hi hj h) (by
  intro i hi
  exact lt_getD 81 [37, 38, 39, 40, 41] (by decide) i hi) ?step ?done
 case step =>
  intro i hi a w9 v lo hi' hoth hb hw
  have sl2 : a.tmps[2]? = some (.pointer (some ⟨w.heap.size, 0, none⟩)) := (hoth 2 (fun j hj => ne_getD 2 _ (by decide) j hj)).trans rfl
  have sl3 : a.tmps[3]? = some (.pointer (some ⟨w.heap.size + 1, 0, none⟩)) := (hoth 3 (fun j hj => ne_getD 3 _ (by decide) j hj)).trans rfl
  match i, hi with
  | 0, _ =>
   exact gw_box rfl (wanted_plain rfl) (.tmp 2) rfl (eval_of sl2) (B0.out.keep hb) ⟨_, rfl, Below.refl _ _, rfl⟩
  | 1, _ =>
   obtain ⟨s0, r0, _⟩ := hw 0 (by omega) (by kernel_rfl)
   have e0 : v 0 = vO (oa) p := r0
   rw [e0] at s0
   refine gw_t rfl (wanted_plain rfl) 37 37 _ _ rfl (fun v w => by go_simp) s0 ?_
   with_reducible refine (EA.out w9 p (K0.out.below hb) (HT.out.below hb)).mono ?_
   rintro e w3 ⟨p, rfl, hp, hb3⟩
   exact ⟨_, rfl, _, rfl, hb3, p, rfl, hp⟩
  | 2, _ =>
   exact gw_box rfl (wanted_plain rfl) (.tmp 3) rfl (eval_of sl3) (B1.out.keep hb) ⟨_, rfl, Below.refl _ _, rfl⟩
  | 3, _ =>
   obtain ⟨s0, r0, _⟩ := hw 2 (by omega) (by kernel_rfl)
   have e0 : v 2 = vO (ob) p' := r0
   rw [e0] at s0
   refine gw_t rfl (wanted_plain rfl) 37 39 _ _ rfl (fun v w => by go_simp) s0 ?_
   with_reducible refine (EB.out w9 p' (K1.out.below hb) (HT.out.below hb)).mono ?_
   rintro e w3 ⟨p, rfl, hp, hb3⟩
   exact ⟨_, rfl, _, rfl, hb3, p, rfl, hp⟩
  | 4, _ =>
   obtain ⟨s0, r0, _⟩ := hw 1 (by omega) (by kernel_rfl)
   obtain ⟨qq0, e0, kk0⟩ : LH (e) (v 1) (lo 1) (hi' 1) w9 := r0
   rw [e0] at s0
   obtain ⟨s1, r1, _⟩ := hw 3 (by omega) (by kernel_rfl)
   obtain ⟨qq1, e1, kk1⟩ : LH (e') (v 3) (lo 3) (hi' 3) w9 := r1
   rw [e1] at s1
   refine gw_tt rfl (wanted_plain rfl) 60 38 40 _ _ _ rfl (fun v u w => by go_simp) s0 s1 ?_
   with_reducible refine (LS.out w9 qq0 qq1 kk0 kk1 (HT.out.below hb)).mono ?_
   rintro e w3 ⟨rfl, hb3⟩
   exact ⟨_, rfl, _, rfl, hb3, rfl⟩
 case done =>
  intro a w9 v lo hi' hdef hsz hoth hb hj hap
  obtain ⟨_, hv4, _, _⟩ := hj 4 (by omega)
  have ha := eq_puts hdef hsz hoth (fun i hi => (hj i hi).1)
  subst ha
  clear hj hoth hdef hsz hap
  change v 4 = _ at hv4
  simp only [puts, List.getD_cons_zero, List.getD_cons_succ, hv4]
  generalize v 0 = v0
  generalize v 1 = v1
  generalize v 2 = v2
  generalize v 3 = v3
  clear hv4
  simp only [Act.put, List.setIfInBounds_toArray, List.set_cons_zero, List.set_cons_succ]
  show wpList _ _ _ [_] _ _
  replace B0 := kB B0 hb
  replace K0 := kH K0 hb
  replace B1 := kB B1 hb
  replace K1 := kH K1 hb
  replace R0 := kB R0 hb
  replace HW := kW HW hb
  replace HT := kT HT hb
  clear hb
  go_wp2_with (first | (with_reducible refine sB (.tmp 4) (.tmp 42) K1.out R0.out ?_) | (with_reducible refine lG (.tmp 2) B0.out ?_) | (with_reducible refine lG (.tmp 3) B1.out ?_))
  exact retHBs rfl rfl rfl R0.out rfl K1.out (by omega) HW.out
theorem addRLt2 (oa ob : Ob) (p p' : Value) (w : World) (e e' : Ob) (hz : ob.numIs 0 = false) (ia : oa.inf = false) (ib : ob.inf = true) (hp : Hd w oa p) (hp' : Hd w ob p') (ht : Tab w) (va : ∀ X, Hd X oa p → Tab X → Calls Tryz.prog 34 #[vO oa p] X (RetB X true)) (vb : ∀ X, Hd X ob p' → Tab X → Calls Tryz.prog 34 #[vO ob p'] X (RetB X true))
 (eA : ∀ X q, Hd X oa q → Tab X → Calls Tryz.prog 37 #[vO oa q] X (RetH X e)) (eB : ∀ X q, Hd X ob q → Tab X → Calls Tryz.prog 37 #[vO ob q] X (RetH X e')) (lS : ∀ X q t, Hd X e q → Hd X e' t → Tab X → Calls Tryz.prog 60 #[vO e q, vO e' t] X (RetB X true)) :
 Calls Tryz.prog 32 #[vO oa p, vO ob p'] w (RetHB w (ob) true) := by
 have VA := hI va
 have VB := hI vb
 have EA := hI eA
 have EB := hI eB
 have LS := hI lS
 clear va vb eA eB lS
 obtain ⟨a0, a1, a2, a3, a4, a5, ea⟩ := cells7 (oa) p
 obtain ⟨b0, b1, b2, b3, b4, b5, eb⟩ := cells7 (ob) p'
 have T := Bx3.new w #[a0, a1, a2, a3, a4, a5, p] #[b0, b1, b2, b3, b4, b5, p'] #[.int .i64 0, .string ⟨#[]⟩, .string ⟨#[]⟩, .string ⟨#[]⟩, .string ⟨#[]⟩, .string ⟨#[]⟩, .slice none 0 0]
 rw [vO_cells ea, vO_cells eb]
 go_enter Tryz.func32, Tryz.ntmps32
 go_wp2_with fail
 generalize ((w.alloc (.cells #[a0, a1, a2, a3, a4, a5, p] 35)).alloc (.cells #[b0, b1, b2, b3, b4, b5, p'] 35)).alloc (.cells #[.int .i64 0, .string ⟨#[]⟩, .string ⟨#[]⟩, .string ⟨#[]⟩, .string ⟨#[]⟩, .string ⟨#[]⟩, .slice none 0 0] 35) = W at T ⊢
 have B0 : Hid (Bx W (w.heap.size) (cellsO (oa) p).toArray) := by rw [ea]; exact T.b0
 have K0 := hI (hp.below T.bel)
 have B1 : Hid (Bx W (w.heap.size + 1) (cellsO (ob) p').toArray) := by rw [eb]; exact T.b1
 have K1 := hI (hp'.below T.bel)
 have R0 := hI T.b2
 have HW := hI T.bel
 have HT := hI (ht.below T.bel)
 try rw [← vO_cells ea]
 try rw [← vO_cells eb]
 clear T ea eb hp hp' ht
 with_reducible refine (VA.out _ K0.out HT.out).mono ?_
 rintro e w1 ⟨rfl, hb⟩
 replace B0 := kB B0 hb
 replace K0 := kH K0 hb
 replace B1 := kB B1 hb
 replace K1 := kH K1 hb
 replace R0 := kB R0 hb
 replace HW := kW HW hb
 replace HT := kT HT hb
 clear hb
 go_wp2_with (first | (with_reducible refine lG (.tmp 2) B0.out ?_) | (with_reducible refine lG (.tmp 3) B1.out ?_))
 with_reducible refine (VB.out _ K1.out HT.out).mono ?_
 rintro e w2 ⟨rfl, hb⟩
 replace B0 := kB B0 hb
 replace K0 := kH K0 hb
 replace B1 := kB B1 hb
 replace K1 := kH K1 hb
 replace R0 := kB R0 hb
 replace HW := kW HW hb
 replace HT := kT HT hb
 clear hb
 go_wp2_with (first | (with_reducible refine lG (.tmp 2) B0.out ?_) | (with_reducible refine lG (.tmp 3) B1.out ?_))
 with_reducible refine (zeroR ob p' _ false hz).mono ?_
 rintro e w3 ⟨rfl, hb⟩
 replace B0 := kB B0 hb
 replace K0 := kH K0 hb
 replace B1 := kB B1 hb
 replace K1 := kH K1 hb
 replace R0 := kB R0 hb
 replace HW := kW HW hb
 replace HT := kT HT hb
 clear hb
 go_wp2_with (first | (with_reducible refine lG (.tmp 2) B0.out ?_) | (with_reducible refine lG (.tmp 3) B1.out ?_))
 with_reducible refine (infR oa p _ false ia K0.out).mono ?_
 rintro e w4 ⟨rfl, hb⟩
 replace B0 := kB B0 hb
 replace K0 := kH K0 hb
 replace B1 := kB B1 hb
 replace K1 := kH K1 hb
 replace R0 := kB R0 hb
 replace HW := kW HW hb
 replace HT := kT HT hb
 clear hb
 go_wp2_with (first | (with_reducible refine lG (.tmp 2) B0.out ?_) | (with_reducible refine lG (.tmp 3) B1.out ?_))
 with_reducible refine (infR ob p' _ true ib K1.out).mono ?_
 rintro e w5 ⟨rfl, hb⟩
 replace B0 := kB B0 hb
 replace K0 := kH K0 hb
 replace B1 := kB B1 hb
 replace K1 := kH K1 hb
 replace R0 := kB R0 hb
 replace HW := kW HW hb
 replace HT := kT HT hb
 clear hb
 go_wp2_with (first | (with_reducible refine lG (.tmp 2) B0.out ?_) | (with_reducible refine lG (.tmp 3) B1.out ?_))
 refine wp_region_grow (l := _) 5 (by kernel_rfl) (by kernel_rfl) (fun i => [37, 38, 39, 40, 41].getD i 0) (LR [LV (vO (oa) p), LH (e), LV (vO (ob) p'), LH (e'), LV (.bool true)]) (LR_mono ⟨mLV _, mLH _, mLV _, mLH _, mLV _, trivial⟩) (by
  intro i j hi hj h
  exact inj_getD [37, 38, 39, 40, 41] (by decide) i j hi hj h) (by
  intro i hi
  exact lt_getD 81 [37, 38, 39, 40, 41] (by decide) i hi) ?step ?done
 case step =>
  intro i hi a w9 v lo hi' hoth hb hw
  have sl2 : a.tmps[2]? = some (.pointer (some ⟨w.heap.size, 0, none⟩)) := (hoth 2 (fun j hj => ne_getD 2 _ (by decide) j hj)).trans rfl
  have sl3 : a.tmps[3]? = some (.pointer (some ⟨w.heap.size + 1, 0, none⟩)) := (hoth 3 (fun j hj => ne_getD 3 _ (by decide) j hj)).trans rfl
  match i, hi with
  | 0, _ =>
   exact gw_box rfl (wanted_plain rfl) (.tmp 2) rfl (eval_of sl2) (B0.out.keep hb) ⟨_, rfl, Below.refl _ _, rfl⟩
  | 1, _ =>
   obtain ⟨s0, r0, _⟩ := hw 0 (by omega) (by kernel_rfl)
   have e0 : v 0 = vO (oa) p := r0
   rw [e0] at s0
   refine gw_t rfl (wanted_plain rfl) 37 37 _ _ rfl (fun v w => by go_simp) s0 ?_
   with_reducible refine (EA.out w9 p (K0.out.below hb) (HT.out.below hb)).mono ?_
   rintro e w3 ⟨p, rfl, hp, hb3⟩
   exact ⟨_, rfl, _, rfl, hb3, p, rfl, hp⟩
  | 2, _ =>
   exact gw_box rfl (wanted_plain rfl) (.tmp 3) rfl (eval_of sl3) (B1.out.keep hb) ⟨_, rfl, Below.refl _ _, rfl⟩
  | 3, _ =>
   obtain ⟨s0, r0, _⟩ := hw 2 (by omega) (by kernel_rfl)
   have e0 : v 2 = vO (ob) p' := r0
   rw [e0] at s0
   refine gw_t rfl (wanted_plain rfl) 37 39 _ _ rfl (fun v w => by go_simp) s0 ?_
   with_reducible refine (EB.out w9 p' (K1.out.below hb) (HT.out.below hb)).mono ?_
   rintro e w3 ⟨p, rfl, hp, hb3⟩
   exact ⟨_, rfl, _, rfl, hb3, p, rfl, hp⟩
  | 4, _ =>
   obtain ⟨s0, r0, _⟩ := hw 1 (by omega) (by kernel_rfl)
   obtain ⟨qq0, e0, kk0⟩ : LH (e) (v 1) (lo 1) (hi' 1) w9 := r0
   rw [e0] at s0
   obtain ⟨s1, r1, _⟩ := hw 3 (by omega) (by kernel_rfl)
   obtain ⟨qq1, e1, kk1⟩ : LH (e') (v 3) (lo 3) (hi' 3) w9 := r1
   rw [e1] at s1
   refine gw_tt rfl (wanted_plain rfl) 60 38 40 _ _ _ rfl (fun v u w => by go_simp) s0 s1 ?_
   with_reducible refine (LS.out w9 qq0 qq1 kk0 kk1 (HT.out.below hb)).mono ?_
   rintro e w3 ⟨rfl, hb3⟩
   exact ⟨_, rfl, _, rfl, hb3, rfl⟩
 case done =>
  intro a w9 v lo hi' hdef hsz hoth hb hj hap
  obtain ⟨_, hv4, _, _⟩ := hj 4 (by omega)
  have ha := eq_puts hdef hsz hoth (fun i hi => (hj i hi).1)
  subst ha
  clear hj hoth hdef hsz hap
  change v 4 = _ at hv4
  simp only [puts, List.getD_cons_zero, List.getD_cons_succ, hv4]
  generalize v 0 = v0
  generalize v 1 = v1
  generalize v 2 = v2
  generalize v 3 = v3
  clear hv4
  simp only [Act.put, List.setIfInBounds_toArray, List.set_cons_zero, List.set_cons_succ]
  show wpList _ _ _ [_] _ _
  replace B0 := kB B0 hb
  replace K0 := kH K0 hb
  replace B1 := kB B1 hb
  replace K1 := kH K1 hb
  replace R0 := kB R0 hb
  replace HW := kW HW hb
  replace HT := kT HT hb
  clear hb
  go_wp2_with (first | (with_reducible refine sB (.tmp 4) (.tmp 42) K1.out R0.out ?_) | (with_reducible refine lG (.tmp 2) B0.out ?_) | (with_reducible refine lG (.tmp 3) B1.out ?_))
  exact retHBs rfl rfl rfl R0.out rfl K1.out (by omega) HW.out
theorem addREq (oa ob : Ob) (p p' : Value) (w : World) (e e' c c' r' s : Ob) (hz : ob.numIs 0 = false) (ia : oa.inf = true) (hp : Hd w oa p) (hp' : Hd w ob p') (ht : Tab w) (va : ∀ X, Hd X oa p → Tab X → Calls Tryz.prog 34 #[vO oa p] X (RetB X true)) (vb : ∀ X, Hd X ob p' → Tab X → Calls Tryz.prog 34 #[vO ob p'] X (RetB X true))
 (eA : ∀ X q, Hd X oa q → Tab X → Calls Tryz.prog 37 #[vO oa q] X (RetH X e)) (eB : ∀ X q, Hd X ob q → Tab X → Calls Tryz.prog 37 #[vO ob q] X (RetH X e')) (cA : ∀ X q, Hd X oa q → Tab X → Calls Tryz.prog 38 #[vO oa q] X (RetH X c)) (cB : ∀ X q, Hd X ob q → Tab X → Calls Tryz.prog 38 #[vO ob q] X (RetH X c')) (rB : ∀ X q, Hd X ob q → Tab X → Calls Tryz.prog 40 #[vO ob q] X (RetH X r')) (lS : ∀ X q t, Hd X e q → Hd X e' t → Tab X → Calls Tryz.prog 60 #[vO e q, vO e' t] X (RetB X false)) (qe : decide (e = e') = true)
 (sm : ∀ X q t, Hd X c q → Hd X c' t → Tab X → Calls Tryz.prog 59 #[vO c q, vO c' t] X (RetH X s)) (kp : ∀ X q, Hd X (.cons (.cons e s) r') q → Calls Tryz.prog 58 #[vO (.cons (.cons e s) r') q] X (RetHB X (.cons (.cons e s) r') true)) :
 Calls Tryz.prog 32 #[vO oa p, vO ob p'] w (RetHB w (.cons (.cons e s) r') true) := by
 have VA := hI va
 have VB := hI vb
 have EA := hI eA
 have EB := hI eB
 have CA := hI cA
 have CB := hI cB
 have RB := hI rB
 have LS := hI lS
 have SM := hI sm
 have KP := hI kp
 clear va vb eA eB cA cB rB lS sm kp
 obtain ⟨a0, a1, a2, a3, a4, a5, ea⟩ := cells7 (oa) p
 obtain ⟨b0, b1, b2, b3, b4, b5, eb⟩ := cells7 (ob) p'
 have T := Bx3.new w #[a0, a1, a2, a3, a4, a5, p] #[b0, b1, b2, b3, b4, b5, p'] #[.int .i64 0, .string ⟨#[]⟩, .string ⟨#[]⟩, .string ⟨#[]⟩, .string ⟨#[]⟩, .string ⟨#[]⟩, .slice none 0 0]
 rw [vO_cells ea, vO_cells eb]
 go_enter Tryz.func32, Tryz.ntmps32
 go_wp2_with fail
 generalize ((w.alloc (.cells #[a0, a1, a2, a3, a4, a5, p] 35)).alloc (.cells #[b0, b1, b2, b3, b4, b5, p'] 35)).alloc (.cells #[.int .i64 0, .string ⟨#[]⟩, .string ⟨#[]⟩, .string ⟨#[]⟩, .string ⟨#[]⟩, .string ⟨#[]⟩, .slice none 0 0] 35) = W at T ⊢
 have B0 : Hid (Bx W (w.heap.size) (cellsO (oa) p).toArray) := by rw [ea]; exact T.b0
 have K0 := hI (hp.below T.bel)
 have B1 : Hid (Bx W (w.heap.size + 1) (cellsO (ob) p').toArray) := by rw [eb]; exact T.b1
 have K1 := hI (hp'.below T.bel)
 have R0 := hI T.b2
 have HW := hI T.bel
 have HT := hI (ht.below T.bel)
 try rw [← vO_cells ea]
 try rw [← vO_cells eb]
 clear T ea eb hp hp' ht
 with_reducible refine (VA.out _ K0.out HT.out).mono ?_
 rintro e w1 ⟨rfl, hb⟩
 replace B0 := kB B0 hb
 replace K0 := kH K0 hb
 replace B1 := kB B1 hb
 replace K1 := kH K1 hb
 replace R0 := kB R0 hb
 replace HW := kW HW hb
 replace HT := kT HT hb
 clear hb
 go_wp2_with (first | (with_reducible refine lG (.tmp 2) B0.out ?_) | (with_reducible refine lG (.tmp 3) B1.out ?_))
 with_reducible refine (VB.out _ K1.out HT.out).mono ?_
 rintro e w2 ⟨rfl, hb⟩
 replace B0 := kB B0 hb
 replace K0 := kH K0 hb
 replace B1 := kB B1 hb
 replace K1 := kH K1 hb
 replace R0 := kB R0 hb
 replace HW := kW HW hb
 replace HT := kT HT hb
 clear hb
 go_wp2_with (first | (with_reducible refine lG (.tmp 2) B0.out ?_) | (with_reducible refine lG (.tmp 3) B1.out ?_))
 with_reducible refine (zeroR ob p' _ false hz).mono ?_
 rintro e w3 ⟨rfl, hb⟩
 replace B0 := kB B0 hb
 replace K0 := kH K0 hb
 replace B1 := kB B1 hb
 replace K1 := kH K1 hb
 replace R0 := kB R0 hb
 replace HW := kW HW hb
 replace HT := kT HT hb
 clear hb
 go_wp2_with (first | (with_reducible refine lG (.tmp 2) B0.out ?_) | (with_reducible refine lG (.tmp 3) B1.out ?_))
 with_reducible refine (infR oa p _ true ia K0.out).mono ?_
 rintro e w4 ⟨rfl, hb⟩
 replace B0 := kB B0 hb
 replace K0 := kH K0 hb
 replace B1 := kB B1 hb
 replace K1 := kH K1 hb
 replace R0 := kB R0 hb
 replace HW := kW HW hb
 replace HT := kT HT hb
 clear hb
 go_wp2_with (first | (with_reducible refine lG (.tmp 2) B0.out ?_) | (with_reducible refine lG (.tmp 3) B1.out ?_))
 refine wp_region_grow (l := _) 5 (by kernel_rfl) (by kernel_rfl) (fun i => [37, 38, 39, 40, 41].getD i 0) (LR [LV (vO (oa) p), LH (e), LV (vO (ob) p'), LH (e'), LV (.bool false)]) (LR_mono ⟨mLV _, mLH _, mLV _, mLH _, mLV _, trivial⟩) (by
  intro i j hi hj h
  exact inj_getD [37, 38, 39, 40, 41] (by decide) i j hi hj h) (by
  intro i hi
  exact lt_getD 81 [37, 38, 39, 40, 41] (by decide) i hi) ?step ?done
 case step =>
  intro i hi a w9 v lo hi' hoth hb hw
  have sl2 : a.tmps[2]? = some (.pointer (some ⟨w.heap.size, 0, none⟩)) := (hoth 2 (fun j hj => ne_getD 2 _ (by decide) j hj)).trans rfl
  have sl3 : a.tmps[3]? = some (.pointer (some ⟨w.heap.size + 1, 0, none⟩)) := (hoth 3 (fun j hj => ne_getD 3 _ (by decide) j hj)).trans rfl
  match i, hi with
  | 0, _ =>
   exact gw_box rfl (wanted_plain rfl) (.tmp 2) rfl (eval_of sl2) (B0.out.keep hb) ⟨_, rfl, Below.refl _ _, rfl⟩
  | 1, _ =>
   obtain ⟨s0, r0, _⟩ := hw 0 (by omega) (by kernel_rfl)
   have e0 : v 0 = vO (oa) p := r0
   rw [e0] at s0
   refine gw_t rfl (wanted_plain rfl) 37 37 _ _ rfl (fun v w => by go_simp) s0 ?_
   with_reducible refine (EA.out w9 p (K0.out.below hb) (HT.out.below hb)).mono ?_
   rintro e w3 ⟨p, rfl, hp, hb3⟩
   exact ⟨_, rfl, _, rfl, hb3, p, rfl, hp⟩
  | 2, _ =>
   exact gw_box rfl (wanted_plain rfl) (.tmp 3) rfl (eval_of sl3) (B1.out.keep hb) ⟨_, rfl, Below.refl _ _, rfl⟩
  | 3, _ =>
   obtain ⟨s0, r0, _⟩ := hw 2 (by omega) (by kernel_rfl)
   have e0 : v 2 = vO (ob) p' := r0
   rw [e0] at s0
   refine gw_t rfl (wanted_plain rfl) 37 39 _ _ rfl (fun v w => by go_simp) s0 ?_
   with_reducible refine (EB.out w9 p' (K1.out.below hb) (HT.out.below hb)).mono ?_
   rintro e w3 ⟨p, rfl, hp, hb3⟩
   exact ⟨_, rfl, _, rfl, hb3, p, rfl, hp⟩
  | 4, _ =>
   obtain ⟨s0, r0, _⟩ := hw 1 (by omega) (by kernel_rfl)
   obtain ⟨qq0, e0, kk0⟩ : LH (e) (v 1) (lo 1) (hi' 1) w9 := r0
   rw [e0] at s0
   obtain ⟨s1, r1, _⟩ := hw 3 (by omega) (by kernel_rfl)
   obtain ⟨qq1, e1, kk1⟩ : LH (e') (v 3) (lo 3) (hi' 3) w9 := r1
   rw [e1] at s1
   refine gw_tt rfl (wanted_plain rfl) 60 38 40 _ _ _ rfl (fun v u w => by go_simp) s0 s1 ?_
   with_reducible refine (LS.out w9 qq0 qq1 kk0 kk1 (HT.out.below hb)).mono ?_
   rintro e w3 ⟨rfl, hb3⟩
   exact ⟨_, rfl, _, rfl, hb3, rfl⟩
 case done =>
  intro a w9 v lo hi' hdef hsz hoth hb hj hap
  obtain ⟨_, hv4, _, _⟩ := hj 4 (by omega)
  have ha := eq_puts hdef hsz hoth (fun i hi => (hj i hi).1)
  subst ha
  clear hj hoth hdef hsz hap
  change v 4 = _ at hv4
  simp only [puts, List.getD_cons_zero, List.getD_cons_succ, hv4]
  generalize v 0 = v0
  generalize v 1 = v1
  generalize v 2 = v2
  generalize v 3 = v3
  clear hv4
  simp only [Act.put, List.setIfInBounds_toArray, List.set_cons_zero, List.set_cons_succ]
  show wpList _ _ _ [_] _ _
  replace B0 := kB B0 hb
  replace K0 := kH K0 hb
  replace B1 := kB B1 hb
  replace K1 := kH K1 hb
  replace R0 := kB R0 hb
  replace HW := kW HW hb
  replace HT := kT HT hb
  clear hb
  go_wp2_with (first | (with_reducible refine lG (.tmp 2) B0.out ?_) | (with_reducible refine lG (.tmp 3) B1.out ?_))
  refine wp_region_grow (l := _) 5 (by kernel_rfl) (by kernel_rfl) (fun i => [44, 45, 46, 47, 48].getD i 0) (LR [LV (vO (oa) p), LH (e), LV (vO (ob) p'), LH (e'), LV (.bool true)]) (LR_mono ⟨mLV _, mLH _, mLV _, mLH _, mLV _, trivial⟩) (by
   intro i j hi hj h
   exact inj_getD [44, 45, 46, 47, 48] (by decide) i j hi hj h) (by
   intro i hi
   exact lt_getD 81 [44, 45, 46, 47, 48] (by decide) i hi) ?step ?done
  case step =>
   intro i hi a w9 v lo hi' hoth hb hw
   have sl2 : a.tmps[2]? = some (.pointer (some ⟨w.heap.size, 0, none⟩)) := (hoth 2 (fun j hj => ne_getD 2 _ (by decide) j hj)).trans rfl
   have sl3 : a.tmps[3]? = some (.pointer (some ⟨w.heap.size + 1, 0, none⟩)) := (hoth 3 (fun j hj => ne_getD 3 _ (by decide) j hj)).trans rfl
   match i, hi with
   | 0, _ =>
    exact gw_box rfl (wanted_plain rfl) (.tmp 2) rfl (eval_of sl2) (B0.out.keep hb) ⟨_, rfl, Below.refl _ _, rfl⟩
   | 1, _ =>
    obtain ⟨s0, r0, _⟩ := hw 0 (by omega) (by kernel_rfl)
    have e0 : v 0 = vO (oa) p := r0
    rw [e0] at s0
    refine gw_t rfl (wanted_plain rfl) 37 44 _ _ rfl (fun v w => by go_simp) s0 ?_
    with_reducible refine (EA.out w9 p (K0.out.below hb) (HT.out.below hb)).mono ?_
    rintro e w3 ⟨p, rfl, hp, hb3⟩
    exact ⟨_, rfl, _, rfl, hb3, p, rfl, hp⟩
   | 2, _ =>
    exact gw_box rfl (wanted_plain rfl) (.tmp 3) rfl (eval_of sl3) (B1.out.keep hb) ⟨_, rfl, Below.refl _ _, rfl⟩
   | 3, _ =>
    obtain ⟨s0, r0, _⟩ := hw 2 (by omega) (by kernel_rfl)
    have e0 : v 2 = vO (ob) p' := r0
    rw [e0] at s0
    refine gw_t rfl (wanted_plain rfl) 37 46 _ _ rfl (fun v w => by go_simp) s0 ?_
    with_reducible refine (EB.out w9 p' (K1.out.below hb) (HT.out.below hb)).mono ?_
    rintro e w3 ⟨p, rfl, hp, hb3⟩
    exact ⟨_, rfl, _, rfl, hb3, p, rfl, hp⟩
   | 4, _ =>
    obtain ⟨s0, r0, _⟩ := hw 1 (by omega) (by kernel_rfl)
    obtain ⟨qq0, e0, kk0⟩ : LH (e) (v 1) (lo 1) (hi' 1) w9 := r0
    rw [e0] at s0
    obtain ⟨s1, r1, _⟩ := hw 3 (by omega) (by kernel_rfl)
    obtain ⟨qq1, e1, kk1⟩ : LH (e') (v 3) (lo 3) (hi' 3) w9 := r1
    rw [e1] at s1
    refine gw_tt rfl (wanted_plain rfl) 15 45 47 _ _ _ rfl (fun v u w => by go_simp) s0 s1 ?_
    with_reducible refine (equalH e e' qq0 qq1 w9 true qe kk0 kk1).mono ?_
    rintro e w3 ⟨rfl, hb3⟩
    exact ⟨_, rfl, _, rfl, hb3, rfl⟩
  case done =>
   intro a w9 v lo hi' hdef hsz hoth hb hj hap
   obtain ⟨_, hv4, _, _⟩ := hj 4 (by omega)
   have ha := eq_puts hdef hsz hoth (fun i hi => (hj i hi).1)
   subst ha
   clear hj hoth hdef hsz hap
   change v 4 = _ at hv4
   simp only [puts, List.getD_cons_zero, List.getD_cons_succ, hv4]
   generalize v 0 = v0
   generalize v 1 = v1
   generalize v 2 = v2
   generalize v 3 = v3
   clear hv4
   simp only [Act.put, List.setIfInBounds_toArray, List.set_cons_zero, List.set_cons_succ]
   show wpList _ _ _ [_] _ _
   replace B0 := kB B0 hb
   replace K0 := kH K0 hb
   replace B1 := kB B1 hb
   replace K1 := kH K1 hb
   replace R0 := kB R0 hb
   replace HW := kW HW hb
   replace HT := kT HT hb
   clear hb
   go_wp2_with (first | (with_reducible refine lG (.tmp 2) B0.out ?_) | (with_reducible refine lG (.tmp 3) B1.out ?_))
   refine wp_region_growR (l := _) 13 (by kernel_rfl) (by kernel_rfl) (fun i => [49, 50, 51, 52, 53, 54, 55, 56, 57, 58, 59, 60, 61].getD i 0) (LR [LV (vO (oa) p), LH (e), LV (vO (oa) p), LH (c), LV (vO (ob) p'), LH (c'), LH (s), LV (vO (ob) p'), LH (r'), LH (.cons (.cons e s) r'), LHB (.cons (.cons e s) r') true, LH (.cons (.cons e s) r'), LV (.bool true)]) (LR_mono ⟨mLV _, mLH _, mLV _, mLH _, mLV _, mLH _, mLH _, mLV _, mLH _, mLH _, mLHB _ _, mLH _, mLV _, trivial⟩) (by
    intro i j hi hj h
    exact inj_getD [49, 50, 51, 52, 53, 54, 55, 56, 57, 58, 59, 60, 61] (by decide) i j hi hj h) (by
    intro i hi
    exact lt_getD 81 [49, 50, 51, 52, 53, 54, 55, 56, 57, 58, 59, 60, 61] (by decide) i hi) [12] (by kernel_rfl) 11 (by omega) 4 (fun j hj => ne_getD 4 [49, 50, 51, 52, 53, 54, 55, 56, 57, 58, 59, 60, 61] (by decide) j hj) (w.heap.size + 1 + 1) _ rfl R0.out rfl (by kernel_rfl) _ rfl rfl rfl rfl
    (.cons (.cons e s) r') (fun _ _ _ _ h => h) ?step ?stepL ?done
   case step =>
    intro i hi a w9 v lo hi' hoth hb hw
    have sl2 : a.tmps[2]? = some (.pointer (some ⟨w.heap.size, 0, none⟩)) := (hoth 2 (fun j hj => ne_getD 2 _ (by decide) j hj)).trans rfl
    have sl3 : a.tmps[3]? = some (.pointer (some ⟨w.heap.size + 1, 0, none⟩)) := (hoth 3 (fun j hj => ne_getD 3 _ (by decide) j hj)).trans rfl
    match i, hi with
    | 0, _ =>
     exact gr_box rfl rfl (.tmp 2) rfl (eval_of sl2) (B0.out.keep hb) ⟨_, rfl, Below.refl _ _, rfl⟩
    | 1, _ =>
     obtain ⟨s0, r0, _⟩ := hw 0 (by omega) (by kernel_rfl)
     have e0 : v 0 = vO (oa) p := r0
     rw [e0] at s0
     refine gr_t rfl rfl 37 49 _ _ rfl (fun v w => by go_simp) s0 ?_
     with_reducible refine (EA.out w9 p (K0.out.below hb) (HT.out.below hb)).mono ?_
     rintro e w3 ⟨p, rfl, hp, hb3⟩
     exact ⟨_, rfl, _, rfl, hb3, p, rfl, hp⟩
    | 2, _ =>
     exact gr_box rfl rfl (.tmp 2) rfl (eval_of sl2) (B0.out.keep hb) ⟨_, rfl, Below.refl _ _, rfl⟩
    | 3, _ =>
     obtain ⟨s0, r0, _⟩ := hw 2 (by omega) (by kernel_rfl)
     have e0 : v 2 = vO (oa) p := r0
     rw [e0] at s0
     refine gr_t rfl rfl 38 51 _ _ rfl (fun v w => by go_simp) s0 ?_
     with_reducible refine (CA.out w9 p (K0.out.below hb) (HT.out.below hb)).mono ?_
     rintro e w3 ⟨p, rfl, hp, hb3⟩
     exact ⟨_, rfl, _, rfl, hb3, p, rfl, hp⟩
    | 4, _ =>
     exact gr_box rfl rfl (.tmp 3) rfl (eval_of sl3) (B1.out.keep hb) ⟨_, rfl, Below.refl _ _, rfl⟩
    | 5, _ =>
     obtain ⟨s0, r0, _⟩ := hw 4 (by omega) (by kernel_rfl)
     have e0 : v 4 = vO (ob) p' := r0
     rw [e0] at s0
     refine gr_t rfl rfl 38 53 _ _ rfl (fun v w => by go_simp) s0 ?_
     with_reducible refine (CB.out w9 p' (K1.out.below hb) (HT.out.below hb)).mono ?_
     rintro e w3 ⟨p, rfl, hp, hb3⟩
     exact ⟨_, rfl, _, rfl, hb3, p, rfl, hp⟩
    | 6, _ =>
     obtain ⟨s0, r0, _⟩ := hw 3 (by omega) (by kernel_rfl)
     obtain ⟨q0, e0, k0⟩ : LH (c) (v 3) (lo 3) (hi' 3) w9 := r0
     rw [e0] at s0
     obtain ⟨s1, r1, _⟩ := hw 5 (by omega) (by kernel_rfl)
     obtain ⟨q1, e1, k1⟩ : LH (c') (v 5) (lo 5) (hi' 5) w9 := r1
     rw [e1] at s1
     refine gr_tt rfl rfl 59 52 54 _ _ _ rfl (fun v u w => by go_simp) s0 s1 ?_
     with_reducible refine (SM.out w9 q0 q1 k0 k1 (HT.out.below hb)).mono ?_
     rintro e w3 ⟨p, rfl, hp, hb3⟩
     exact ⟨_, rfl, _, rfl, hb3, p, rfl, hp⟩
    | 7, _ =>
     exact gr_box rfl rfl (.tmp 3) rfl (eval_of sl3) (B1.out.keep hb) ⟨_, rfl, Below.refl _ _, rfl⟩
    | 8, _ =>
     obtain ⟨s0, r0, _⟩ := hw 7 (by omega) (by kernel_rfl)
     have e0 : v 7 = vO (ob) p' := r0
     rw [e0] at s0
     refine gr_t rfl rfl 40 56 _ _ rfl (fun v w => by go_simp) s0 ?_
     with_reducible refine (RB.out w9 p' (K1.out.below hb) (HT.out.below hb)).mono ?_
     rintro e w3 ⟨p, rfl, hp, hb3⟩
     exact ⟨_, rfl, _, rfl, hb3, p, rfl, hp⟩
    | 9, _ =>
     obtain ⟨s0, r0, _⟩ := hw 1 (by omega) (by kernel_rfl)
     obtain ⟨q0, e0, k0⟩ : LH (e) (v 1) (lo 1) (hi' 1) w9 := r0
     rw [e0] at s0
     obtain ⟨s1, r1, _⟩ := hw 6 (by omega) (by kernel_rfl)
     obtain ⟨q1, e1, k1⟩ : LH (s) (v 6) (lo 6) (hi' 6) w9 := r1
     rw [e1] at s1
     obtain ⟨s2, r2, _⟩ := hw 8 (by omega) (by kernel_rfl)
     obtain ⟨q2, e2, k2⟩ : LH (r') (v 8) (lo 8) (hi' 8) w9 := r2
     rw [e2] at s2
     refine gr_ttt rfl rfl 61 50 55 57 _ _ _ _ rfl (fun v u x w => by go_simp) s0 s1 s2 ?_
     with_reducible refine (powerR e s r' q0 q1 q2 w9 k0 k1 k2).mono ?_
     rintro e w3 ⟨p, rfl, hp, hb3⟩
     exact ⟨_, rfl, _, rfl, hb3, p, rfl, hp⟩
    | 10, _ =>
     obtain ⟨s0, r0, _⟩ := hw 9 (by omega) (by kernel_rfl)
     obtain ⟨q0, e0, k0⟩ : LH (.cons (.cons e s) r') (v 9) (lo 9) (hi' 9) w9 := r0
     rw [e0] at s0
     refine gr_t rfl rfl 58 58 _ _ rfl (fun v w => by go_simp) s0 ?_
     with_reducible refine (KP.out w9 q0 k0).mono ?_
     rintro e w3 ⟨p, rfl, hp, hb3⟩
     exact ⟨_, rfl, _, rfl, hb3, p, rfl, hp⟩
    | 11, _ =>
     obtain ⟨s0, r0, _⟩ := hw 10 (by omega) (by kernel_rfl)
     obtain ⟨q0, e0, k0⟩ : LHB (.cons (.cons e s) r') true (v 10) (lo 10) (hi' 10) w9 := r0
     rw [e0] at s0
     exact gr_ext2 rfl rfl 59 _ _ rfl s0 ⟨_, rfl, Below.refl _ _, q0, rfl, k0⟩
    | 12, _ =>
     obtain ⟨s0, r0, _⟩ := hw 10 (by omega) (by kernel_rfl)
     obtain ⟨q0, e0, k0⟩ : LHB (.cons (.cons e s) r') true (v 10) (lo 10) (hi' 10) w9 := r0
     rw [e0] at s0
     exact gr_ext2' rfl rfl 59 _ _ rfl s0 ⟨_, rfl, Below.refl _ _, rfl⟩
    | k + 13, h => exact absurd h (by omega)
   case stepL =>
    intro i hi hl a w1 w9 v lo hi' hw
    match i, hi with
    | 0, _ => exact absurd hl (by decide)
    | 1, _ => exact absurd hl (by decide)
    | 2, _ => exact absurd hl (by decide)
    | 3, _ => exact absurd hl (by decide)
    | 4, _ => exact absurd hl (by decide)
    | 5, _ => exact absurd hl (by decide)
    | 6, _ => exact absurd hl (by decide)
    | 7, _ => exact absurd hl (by decide)
    | 8, _ => exact absurd hl (by decide)
    | 9, _ => exact absurd hl (by decide)
    | 10, _ => exact absurd hl (by decide)
    | 11, _ => exact absurd hl (by decide)
    | 12, _ =>
     obtain ⟨s0, r0⟩ := hw 10 (by omega) (by kernel_rfl)
     obtain ⟨q0, e0, k0⟩ : LHB (.cons (.cons e s) r') true (v 10) (lo 10) (hi' 10) w1 := r0
     rw [e0] at s0
     exact gr_ext2' rfl rfl 59 _ _ rfl s0 ⟨_, rfl, rfl, rfl⟩
    | k + 13, h => exact absurd h (by omega)
   case done =>
    intro a w9 v lo hi' p8 hdef hsz hoth hb hj hap hv11 k8
    obtain ⟨_, hv12, _, _⟩ := hj 12 (by omega)
    change v 12 = _ at hv12
    have ha := eq_puts hdef hsz hoth (fun i hi => (hj i hi).1)
    subst ha
    clear hj hoth hdef hsz hap
    simp only [puts, List.getD_cons_zero, List.getD_cons_succ, hv11, hv12]
    generalize v 0 = v0
    generalize v 1 = v1
    generalize v 2 = v2
    generalize v 3 = v3
    generalize v 4 = v4
    generalize v 5 = v5
    generalize v 6 = v6
    generalize v 7 = v7
    generalize v 8 = v8
    generalize v 9 = v9
    generalize v 10 = v10
    clear hv11 hv12
    simp only [Act.put, List.setIfInBounds_toArray, List.set_cons_zero, List.set_cons_succ]
    show wpList _ _ _ [_] _ _
    replace B0 := kB B0 hb
    replace K0 := kH K0 hb
    replace B1 := kB B1 hb
    replace K1 := kH K1 hb
    replace R0 := kB R0 hb
    replace HW := kW HW hb
    replace HT := kT HT hb
    replace k8 := hI k8
    clear hb
    go_wp2_with (first | (with_reducible refine lG (.tmp 2) B0.out ?_) | (with_reducible refine lG (.tmp 3) B1.out ?_))
    exact retHBs rfl rfl rfl R0.out rfl k8.out (by omega) HW.out
theorem addRGt (oa ob : Ob) (p p' : Value) (w : World) (e e' c r s : Ob) (hz : ob.numIs 0 = false) (ia : oa.inf = true) (hp : Hd w oa p) (hp' : Hd w ob p') (ht : Tab w) (va : ∀ X, Hd X oa p → Tab X → Calls Tryz.prog 34 #[vO oa p] X (RetB X true)) (vb : ∀ X, Hd X ob p' → Tab X → Calls Tryz.prog 34 #[vO ob p'] X (RetB X true))
 (eA : ∀ X q, Hd X oa q → Tab X → Calls Tryz.prog 37 #[vO oa q] X (RetH X e)) (eB : ∀ X q, Hd X ob q → Tab X → Calls Tryz.prog 37 #[vO ob q] X (RetH X e')) (cA : ∀ X q, Hd X oa q → Tab X → Calls Tryz.prog 38 #[vO oa q] X (RetH X c)) (rA : ∀ X q, Hd X oa q → Tab X → Calls Tryz.prog 40 #[vO oa q] X (RetH X r)) (lS : ∀ X q t, Hd X e q → Hd X e' t → Tab X → Calls Tryz.prog 60 #[vO e q, vO e' t] X (RetB X false)) (qe : decide (e = e') = false)
 (iH : ∀ X q, Hd X r q → Hd X ob p' → Tab X → Calls Tryz.prog 32 #[vO r q, vO ob p'] X (RetHB X s true)) (kp : ∀ X q, Hd X (.cons (.cons e c) s) q → Calls Tryz.prog 58 #[vO (.cons (.cons e c) s) q] X (RetHB X (.cons (.cons e c) s) true)) :
 Calls Tryz.prog 32 #[vO oa p, vO ob p'] w (RetHB w (.cons (.cons e c) s) true) := by
 have VA := hI va
 have VB := hI vb
 have EA := hI eA
 have EB := hI eB
 have CA := hI cA
 have RA := hI rA
 have LS := hI lS
 have IH := hI iH
 have KP := hI kp
 clear va vb eA eB cA rA lS iH kp
 obtain ⟨a0, a1, a2, a3, a4, a5, ea⟩ := cells7 (oa) p
 obtain ⟨b0, b1, b2, b3, b4, b5, eb⟩ := cells7 (ob) p'
 have T := Bx3.new w #[a0, a1, a2, a3, a4, a5, p] #[b0, b1, b2, b3, b4, b5, p'] #[.int .i64 0, .string ⟨#[]⟩, .string ⟨#[]⟩, .string ⟨#[]⟩, .string ⟨#[]⟩, .string ⟨#[]⟩, .slice none 0 0]
 rw [vO_cells ea, vO_cells eb]
 go_enter Tryz.func32, Tryz.ntmps32
 go_wp2_with fail
 generalize ((w.alloc (.cells #[a0, a1, a2, a3, a4, a5, p] 35)).alloc (.cells #[b0, b1, b2, b3, b4, b5, p'] 35)).alloc (.cells #[.int .i64 0, .string ⟨#[]⟩, .string ⟨#[]⟩, .string ⟨#[]⟩, .string ⟨#[]⟩, .string ⟨#[]⟩, .slice none 0 0] 35) = W at T ⊢
 have B0 : Hid (Bx W (w.heap.size) (cellsO (oa) p).toArray) := by rw [ea]; exact T.b0
 have K0 := hI (hp.below T.bel)
 have B1 : Hid (Bx W (w.heap.size + 1) (cellsO (ob) p').toArray) := by rw [eb]; exact T.b1
 have K1 := hI (hp'.below T.bel)
 have R0 := hI T.b2
 have HW := hI T.bel
 have HT := hI (ht.below T.bel)
 try rw [← vO_cells ea]
 try rw [← vO_cells eb]
 clear T ea eb hp hp' ht
 with_reducible refine (VA.out _ K0.out HT.out).mono ?_
 rintro e w1 ⟨rfl, hb⟩
 replace B0 := kB B0 hb
 replace K0 := kH K0 hb
 replace B1 := kB B1 hb
 replace K1 := kH K1 hb
 replace R0 := kB R0 hb
 replace HW := kW HW hb
 replace HT := kT HT hb
 clear hb
 go_wp2_with (first | (with_reducible refine lG (.tmp 2) B0.out ?_) | (with_reducible refine lG (.tmp 3) B1.out ?_))
 with_reducible refine (VB.out _ K1.out HT.out).mono ?_
 rintro e w2 ⟨rfl, hb⟩
 replace B0 := kB B0 hb
 replace K0 := kH K0 hb
 replace B1 := kB B1 hb
 replace K1 := kH K1 hb
 replace R0 := kB R0 hb
 replace HW := kW HW hb
 replace HT := kT HT hb
 clear hb
 go_wp2_with (first | (with_reducible refine lG (.tmp 2) B0.out ?_) | (with_reducible refine lG (.tmp 3) B1.out ?_))
 with_reducible refine (zeroR ob p' _ false hz).mono ?_
 rintro e w3 ⟨rfl, hb⟩
 replace B0 := kB B0 hb
 replace K0 := kH K0 hb
 replace B1 := kB B1 hb
 replace K1 := kH K1 hb
 replace R0 := kB R0 hb
 replace HW := kW HW hb
 replace HT := kT HT hb
 clear hb
 go_wp2_with (first | (with_reducible refine lG (.tmp 2) B0.out ?_) | (with_reducible refine lG (.tmp 3) B1.out ?_))
 with_reducible refine (infR oa p _ true ia K0.out).mono ?_
 rintro e w4 ⟨rfl, hb⟩
 replace B0 := kB B0 hb
 replace K0 := kH K0 hb
 replace B1 := kB B1 hb
 replace K1 := kH K1 hb
 replace R0 := kB R0 hb
 replace HW := kW HW hb
 replace HT := kT HT hb
 clear hb
 go_wp2_with (first | (with_reducible refine lG (.tmp 2) B0.out ?_) | (with_reducible refine lG (.tmp 3) B1.out ?_))
 refine wp_region_grow (l := _) 5 (by kernel_rfl) (by kernel_rfl) (fun i => [37, 38, 39, 40, 41].getD i 0) (LR [LV (vO (oa) p), LH (e), LV (vO (ob) p'), LH (e'), LV (.bool false)]) (LR_mono ⟨mLV _, mLH _, mLV _, mLH _, mLV _, trivial⟩) (by
  intro i j hi hj h
  exact inj_getD [37, 38, 39, 40, 41] (by decide) i j hi hj h) (by
  intro i hi
  exact lt_getD 81 [37, 38, 39, 40, 41] (by decide) i hi) ?step ?done
 case step =>
  intro i hi a w9 v lo hi' hoth hb hw
  have sl2 : a.tmps[2]? = some (.pointer (some ⟨w.heap.size, 0, none⟩)) := (hoth 2 (fun j hj => ne_getD 2 _ (by decide) j hj)).trans rfl
  have sl3 : a.tmps[3]? = some (.pointer (some ⟨w.heap.size + 1, 0, none⟩)) := (hoth 3 (fun j hj => ne_getD 3 _ (by decide) j hj)).trans rfl
  match i, hi with
  | 0, _ =>
   exact gw_box rfl (wanted_plain rfl) (.tmp 2) rfl (eval_of sl2) (B0.out.keep hb) ⟨_, rfl, Below.refl _ _, rfl⟩
  | 1, _ =>
   obtain ⟨s0, r0, _⟩ := hw 0 (by omega) (by kernel_rfl)
   have e0 : v 0 = vO (oa) p := r0
   rw [e0] at s0
   refine gw_t rfl (wanted_plain rfl) 37 37 _ _ rfl (fun v w => by go_simp) s0 ?_
   with_reducible refine (EA.out w9 p (K0.out.below hb) (HT.out.below hb)).mono ?_
   rintro e w3 ⟨p, rfl, hp, hb3⟩
   exact ⟨_, rfl, _, rfl, hb3, p, rfl, hp⟩
  | 2, _ =>
   exact gw_box rfl (wanted_plain rfl) (.tmp 3) rfl (eval_of sl3) (B1.out.keep hb) ⟨_, rfl, Below.refl _ _, rfl⟩
  | 3, _ =>
   obtain ⟨s0, r0, _⟩ := hw 2 (by omega) (by kernel_rfl)
   have e0 : v 2 = vO (ob) p' := r0
   rw [e0] at s0
   refine gw_t rfl (wanted_plain rfl) 37 39 _ _ rfl (fun v w => by go_simp) s0 ?_
   with_reducible refine (EB.out w9 p' (K1.out.below hb) (HT.out.below hb)).mono ?_
   rintro e w3 ⟨p, rfl, hp, hb3⟩
   exact ⟨_, rfl, _, rfl, hb3, p, rfl, hp⟩
  | 4, _ =>
   obtain ⟨s0, r0, _⟩ := hw 1 (by omega) (by kernel_rfl)
   obtain ⟨qq0, e0, kk0⟩ : LH (e) (v 1) (lo 1) (hi' 1) w9 := r0
   rw [e0] at s0
   obtain ⟨s1, r1, _⟩ := hw 3 (by omega) (by kernel_rfl)
   obtain ⟨qq1, e1, kk1⟩ : LH (e') (v 3) (lo 3) (hi' 3) w9 := r1
   rw [e1] at s1
   refine gw_tt rfl (wanted_plain rfl) 60 38 40 _ _ _ rfl (fun v u w => by go_simp) s0 s1 ?_
   with_reducible refine (LS.out w9 qq0 qq1 kk0 kk1 (HT.out.below hb)).mono ?_
   rintro e w3 ⟨rfl, hb3⟩
   exact ⟨_, rfl, _, rfl, hb3, rfl⟩
 case done =>
  intro a w9 v lo hi' hdef hsz hoth hb hj hap
  obtain ⟨_, hv4, _, _⟩ := hj 4 (by omega)
  have ha := eq_puts hdef hsz hoth (fun i hi => (hj i hi).1)
  subst ha
  clear hj hoth hdef hsz hap
  change v 4 = _ at hv4
  simp only [puts, List.getD_cons_zero, List.getD_cons_succ, hv4]
  generalize v 0 = v0
  generalize v 1 = v1
  generalize v 2 = v2
  generalize v 3 = v3
  clear hv4
  simp only [Act.put, List.setIfInBounds_toArray, List.set_cons_zero, List.set_cons_succ]
  show wpList _ _ _ [_] _ _
  replace B0 := kB B0 hb
  replace K0 := kH K0 hb
  replace B1 := kB B1 hb
  replace K1 := kH K1 hb
  replace R0 := kB R0 hb
  replace HW := kW HW hb
  replace HT := kT HT hb
  clear hb
  go_wp2_with (first | (with_reducible refine lG (.tmp 2) B0.out ?_) | (with_reducible refine lG (.tmp 3) B1.out ?_))
  refine wp_region_grow (l := _) 5 (by kernel_rfl) (by kernel_rfl) (fun i => [44, 45, 46, 47, 48].getD i 0) (LR [LV (vO (oa) p), LH (e), LV (vO (ob) p'), LH (e'), LV (.bool false)]) (LR_mono ⟨mLV _, mLH _, mLV _, mLH _, mLV _, trivial⟩) (by
   intro i j hi hj h
   exact inj_getD [44, 45, 46, 47, 48] (by decide) i j hi hj h) (by
   intro i hi
   exact lt_getD 81 [44, 45, 46, 47, 48] (by decide) i hi) ?step ?done
  case step =>
   intro i hi a w9 v lo hi' hoth hb hw
   have sl2 : a.tmps[2]? = some (.pointer (some ⟨w.heap.size, 0, none⟩)) := (hoth 2 (fun j hj => ne_getD 2 _ (by decide) j hj)).trans rfl
   have sl3 : a.tmps[3]? = some (.pointer (some ⟨w.heap.size + 1, 0, none⟩)) := (hoth 3 (fun j hj => ne_getD 3 _ (by decide) j hj)).trans rfl
   match i, hi with
   | 0, _ =>
    exact gw_box rfl (wanted_plain rfl) (.tmp 2) rfl (eval_of sl2) (B0.out.keep hb) ⟨_, rfl, Below.refl _ _, rfl⟩
   | 1, _ =>
    obtain ⟨s0, r0, _⟩ := hw 0 (by omega) (by kernel_rfl)
    have e0 : v 0 = vO (oa) p := r0
    rw [e0] at s0
    refine gw_t rfl (wanted_plain rfl) 37 44 _ _ rfl (fun v w => by go_simp) s0 ?_
    with_reducible refine (EA.out w9 p (K0.out.below hb) (HT.out.below hb)).mono ?_
    rintro e w3 ⟨p, rfl, hp, hb3⟩
    exact ⟨_, rfl, _, rfl, hb3, p, rfl, hp⟩
   | 2, _ =>
    exact gw_box rfl (wanted_plain rfl) (.tmp 3) rfl (eval_of sl3) (B1.out.keep hb) ⟨_, rfl, Below.refl _ _, rfl⟩
   | 3, _ =>
    obtain ⟨s0, r0, _⟩ := hw 2 (by omega) (by kernel_rfl)
    have e0 : v 2 = vO (ob) p' := r0
    rw [e0] at s0
    refine gw_t rfl (wanted_plain rfl) 37 46 _ _ rfl (fun v w => by go_simp) s0 ?_
    with_reducible refine (EB.out w9 p' (K1.out.below hb) (HT.out.below hb)).mono ?_
    rintro e w3 ⟨p, rfl, hp, hb3⟩
    exact ⟨_, rfl, _, rfl, hb3, p, rfl, hp⟩
   | 4, _ =>
    obtain ⟨s0, r0, _⟩ := hw 1 (by omega) (by kernel_rfl)
    obtain ⟨qq0, e0, kk0⟩ : LH (e) (v 1) (lo 1) (hi' 1) w9 := r0
    rw [e0] at s0
    obtain ⟨s1, r1, _⟩ := hw 3 (by omega) (by kernel_rfl)
    obtain ⟨qq1, e1, kk1⟩ : LH (e') (v 3) (lo 3) (hi' 3) w9 := r1
    rw [e1] at s1
    refine gw_tt rfl (wanted_plain rfl) 15 45 47 _ _ _ rfl (fun v u w => by go_simp) s0 s1 ?_
    with_reducible refine (equalH e e' qq0 qq1 w9 false qe kk0 kk1).mono ?_
    rintro e w3 ⟨rfl, hb3⟩
    exact ⟨_, rfl, _, rfl, hb3, rfl⟩
  case done =>
   intro a w9 v lo hi' hdef hsz hoth hb hj hap
   obtain ⟨_, hv4, _, _⟩ := hj 4 (by omega)
   have ha := eq_puts hdef hsz hoth (fun i hi => (hj i hi).1)
   subst ha
   clear hj hoth hdef hsz hap
   change v 4 = _ at hv4
   simp only [puts, List.getD_cons_zero, List.getD_cons_succ, hv4]
   generalize v 0 = v0
   generalize v 1 = v1
   generalize v 2 = v2
   generalize v 3 = v3
   clear hv4
   simp only [Act.put, List.setIfInBounds_toArray, List.set_cons_zero, List.set_cons_succ]
   show wpList _ _ _ [_] _ _
   replace B0 := kB B0 hb
   replace K0 := kH K0 hb
   replace B1 := kB B1 hb
   replace K1 := kH K1 hb
   replace R0 := kB R0 hb
   replace HW := kW HW hb
   replace HT := kT HT hb
   clear hb
   go_wp2_with (first | (with_reducible refine lG (.tmp 2) B0.out ?_) | (with_reducible refine lG (.tmp 3) B1.out ?_))
   refine wp_region_growS (l := _) 8 (by kernel_rfl) (by kernel_rfl) (fun i => [63, 64, 65, 66, 62, 67, 68, 6].getD i 0) (LR [LV (vO (oa) p), LH (r), LV (vO (ob) p'), LHB (s) true, LHB (s) true, LH (s), LV (.bool true), LBx]) (LR_mono ⟨mLV _, mLH _, mLV _, mLHB _ _, mLHB _ _, mLH _, mLV _, mLBx, trivial⟩) (by
    intro i j hi hj h
    exact inj_getD [63, 64, 65, 66, 62, 67, 68, 6] (by decide) i j hi hj h) (by
    intro i hi
    exact lt_getD 81 [63, 64, 65, 66, 62, 67, 68, 6] (by decide) i hi) [6] (by kernel_rfl) 7 5 (by omega) (by omega) (by kernel_rfl) (by kernel_rfl) _ rfl rfl rfl rfl
    (fun _ _ _ _ h => h) (s) (fun _ _ _ _ h => h) ?step ?stepL ?done
   case step =>
    intro i hi a w9 v lo hi' hoth hb hw
    have sl2 : a.tmps[2]? = some (.pointer (some ⟨w.heap.size, 0, none⟩)) := (hoth 2 (fun j hj => ne_getD 2 _ (by decide) j hj)).trans rfl
    have sl3 : a.tmps[3]? = some (.pointer (some ⟨w.heap.size + 1, 0, none⟩)) := (hoth 3 (fun j hj => ne_getD 3 _ (by decide) j hj)).trans rfl
    match i, hi with
    | 0, _ =>
     exact gr_box rfl rfl (.tmp 2) rfl (eval_of sl2) (B0.out.keep hb) ⟨_, rfl, Below.refl _ _, rfl⟩
    | 1, _ =>
     obtain ⟨s0, r0, _⟩ := hw 0 (by omega) (by kernel_rfl)
     have e0 : v 0 = vO (oa) p := r0
     rw [e0] at s0
     refine gr_t rfl rfl 40 63 _ _ rfl (fun v w => by go_simp) s0 ?_
     with_reducible refine (RA.out w9 p (K0.out.below hb) (HT.out.below hb)).mono ?_
     rintro e w3 ⟨p, rfl, hp, hb3⟩
     exact ⟨_, rfl, _, rfl, hb3, p, rfl, hp⟩
    | 2, _ =>
     exact gr_box rfl rfl (.tmp 3) rfl (eval_of sl3) (B1.out.keep hb) ⟨_, rfl, Below.refl _ _, rfl⟩
    | 3, _ =>
     obtain ⟨s0, r0, _⟩ := hw 1 (by omega) (by kernel_rfl)
     obtain ⟨q0, e0, k0⟩ : LH (r) (v 1) (lo 1) (hi' 1) w9 := r0
     rw [e0] at s0
     obtain ⟨s1, r1, _⟩ := hw 2 (by omega) (by kernel_rfl)
     have e1 : v 2 = vO (ob) p' := r1
     rw [e1] at s1
     refine gr_tt rfl rfl 32 64 65 _ _ _ rfl (fun v u w => by go_simp) s0 s1 ?_
     with_reducible refine (IH.out w9 q0 k0 (K1.out.below hb) (HT.out.below hb)).mono ?_
     rintro e w3 ⟨p, rfl, hp, hb3⟩
     exact ⟨_, rfl, _, rfl, hb3, p, rfl, hp⟩
    | 4, _ =>
     obtain ⟨s0, r0, _⟩ := hw 3 (by omega) (by kernel_rfl)
     obtain ⟨q0, e0, k0⟩ : LHB (s) true (v 3) (lo 3) (hi' 3) w9 := r0
     rw [e0] at s0
     exact gr_move rfl rfl 66 _ rfl s0 ⟨_, rfl, Below.refl _ _, q0, rfl, k0⟩
    | 5, _ =>
     obtain ⟨s0, r0, _⟩ := hw 4 (by omega) (by kernel_rfl)
     obtain ⟨q0, e0, k0⟩ : LHB (s) true (v 4) (lo 4) (hi' 4) w9 := r0
     rw [e0] at s0
     exact gr_ext2 rfl rfl 62 _ _ rfl s0 ⟨_, rfl, Below.refl _ _, q0, rfl, k0⟩
    | 6, _ =>
     obtain ⟨s0, r0, _⟩ := hw 4 (by omega) (by kernel_rfl)
     obtain ⟨q0, e0, k0⟩ : LHB (s) true (v 4) (lo 4) (hi' 4) w9 := r0
     rw [e0] at s0
     exact gr_ext2' rfl rfl 62 _ _ rfl s0 ⟨_, rfl, Below.refl _ _, rfl⟩
    | 7, _ =>
     exact grow_allocO rfl rfl rfl ⟨_, rfl, Below.alloc (Below.refl _ _) (Nat.le_refl _) _, rfl, heap_alloc_new _ _, by simp⟩
   case stepL =>
    intro i hi hl a w1 w9 v lo hi' hw
    match i, hi with
    | 0, _ => exact absurd hl (by decide)
    | 1, _ => exact absurd hl (by decide)
    | 2, _ => exact absurd hl (by decide)
    | 3, _ => exact absurd hl (by decide)
    | 4, _ => exact absurd hl (by decide)
    | 5, _ => exact absurd hl (by decide)
    | 6, _ =>
     obtain ⟨s0, r0⟩ := hw 4 (by omega) (by kernel_rfl)
     obtain ⟨q0, e0, k0⟩ : LHB (s) true (v 4) (lo 4) (hi' 4) w1 := r0
     rw [e0] at s0
     exact gr_ext2' rfl rfl 62 _ _ rfl s0 ⟨_, rfl, rfl, rfl⟩
    | 7, _ => exact absurd hl (by decide)
   case done =>
    intro a w9 v lo hi' p7 hdef hsz hoth hb hj hap hv5 k7 hv7 B7
    obtain ⟨_, _, hlo7, _⟩ := hj 7 (by omega)
    obtain ⟨_, hv6, _, _⟩ := hj 6 (by omega)
    change v 6 = _ at hv6
    have ha := eq_puts hdef hsz hoth (fun i hi => (hj i hi).1)
    subst ha
    clear hj hoth hdef hsz hap
    have hX := below_setRowO hb hlo7 (cellsO (s) p7).toArray
    have kX := Hd.box k7 B7 rfl (cellsO (s) p7).toArray
    have bX := Bx.set (y := (cellsO (s) p7).toArray) B7
    generalize World.setRow w9 (lo 7) (cellsO (s) p7).toArray = X7 at hX kX bX ⊢
    clear hb k7 B7
    simp only [puts, List.getD_cons_zero, List.getD_cons_succ, hv5, hv7, hv6]
    generalize v 0 = v0
    generalize v 1 = v1
    generalize v 2 = v2
    generalize v 3 = v3
    generalize v 4 = v4
    clear hv5 hv7 hv6
    generalize lo 7 = g7 at *
    simp only [Act.put, List.setIfInBounds_toArray, List.set_cons_zero, List.set_cons_succ]
    show wpList _ _ _ [_] _ _
    have hb := hX
    clear hX
    replace B0 := kB B0 hb
    replace K0 := kH K0 hb
    replace B1 := kB B1 hb
    replace K1 := kH K1 hb
    replace R0 := kB R0 hb
    replace HW := kW HW hb
    replace HT := kT HT hb
    replace k7 := hI kX
    have G := hI bX
    clear hb kX bX
    go_wp2_with (first | (with_reducible refine lG (.tmp 2) B0.out ?_) | (with_reducible refine lG (.tmp 3) B1.out ?_) | (with_reducible refine lG (.tmp 6) G.out ?_))
    refine wp_region_growR (l := _) 9 (by kernel_rfl) (by kernel_rfl) (fun i => [72, 73, 74, 75, 76, 77, 78, 79, 80].getD i 0) (LR [LV (vO (oa) p), LH (e), LV (vO (oa) p), LH (c), LV (vO (s) p7), LH (.cons (.cons e c) s), LHB (.cons (.cons e c) s) true, LH (.cons (.cons e c) s), LV (.bool true)]) (LR_mono ⟨mLV _, mLH _, mLV _, mLH _, mLV _, mLH _, mLHB _ _, mLH _, mLV _, trivial⟩) (by
     intro i j hi hj h
     exact inj_getD [72, 73, 74, 75, 76, 77, 78, 79, 80] (by decide) i j hi hj h) (by
     intro i hi
     exact lt_getD 81 [72, 73, 74, 75, 76, 77, 78, 79, 80] (by decide) i hi) [8] (by kernel_rfl) 7 (by omega) 4 (fun j hj => ne_getD 4 [72, 73, 74, 75, 76, 77, 78, 79, 80] (by decide) j hj) (w.heap.size + 1 + 1) _ rfl R0.out rfl (by kernel_rfl) _ rfl rfl rfl rfl
     (.cons (.cons e c) s) (fun _ _ _ _ h => h) ?step ?stepL ?done
    case step =>
     intro i hi a w9 v lo hi' hoth hb hw
     have sl2 : a.tmps[2]? = some (.pointer (some ⟨w.heap.size, 0, none⟩)) := (hoth 2 (fun j hj => ne_getD 2 _ (by decide) j hj)).trans rfl
     have sl6 : a.tmps[6]? = some (.pointer (some ⟨g7, 0, none⟩)) := (hoth 6 (fun j hj => ne_getD 6 _ (by decide) j hj)).trans rfl
     match i, hi with
     | 0, _ =>
      exact gr_box rfl rfl (.tmp 2) rfl (eval_of sl2) (B0.out.keep hb) ⟨_, rfl, Below.refl _ _, rfl⟩
     | 1, _ =>
      obtain ⟨s0, r0, _⟩ := hw 0 (by omega) (by kernel_rfl)
      have e0 : v 0 = vO (oa) p := r0
      rw [e0] at s0
      refine gr_t rfl rfl 37 72 _ _ rfl (fun v w => by go_simp) s0 ?_
      with_reducible refine (EA.out w9 p (K0.out.below hb) (HT.out.below hb)).mono ?_
      rintro e w3 ⟨p, rfl, hp, hb3⟩
      exact ⟨_, rfl, _, rfl, hb3, p, rfl, hp⟩
     | 2, _ =>
      exact gr_box rfl rfl (.tmp 2) rfl (eval_of sl2) (B0.out.keep hb) ⟨_, rfl, Below.refl _ _, rfl⟩
     | 3, _ =>
      obtain ⟨s0, r0, _⟩ := hw 2 (by omega) (by kernel_rfl)
      have e0 : v 2 = vO (oa) p := r0
      rw [e0] at s0
      refine gr_t rfl rfl 38 74 _ _ rfl (fun v w => by go_simp) s0 ?_
      with_reducible refine (CA.out w9 p (K0.out.below hb) (HT.out.below hb)).mono ?_
      rintro e w3 ⟨p, rfl, hp, hb3⟩
      exact ⟨_, rfl, _, rfl, hb3, p, rfl, hp⟩
     | 4, _ =>
      exact gr_box rfl rfl (.tmp 6) rfl (eval_of sl6) (G.out.keep hb) ⟨_, rfl, Below.refl _ _, rfl⟩
     | 5, _ =>
      obtain ⟨s0, r0, _⟩ := hw 1 (by omega) (by kernel_rfl)
      obtain ⟨q0, e0, k0⟩ : LH (e) (v 1) (lo 1) (hi' 1) w9 := r0
      rw [e0] at s0
      obtain ⟨s1, r1, _⟩ := hw 3 (by omega) (by kernel_rfl)
      obtain ⟨q1, e1, k1⟩ : LH (c) (v 3) (lo 3) (hi' 3) w9 := r1
      rw [e1] at s1
      obtain ⟨s2, r2, _⟩ := hw 4 (by omega) (by kernel_rfl)
      have e2 : v 4 = vO (s) p7 := r2
      rw [e2] at s2
      refine gr_ttt rfl rfl 61 73 75 76 _ _ _ _ rfl (fun v u x w => by go_simp) s0 s1 s2 ?_
      with_reducible refine (powerR e c s q0 q1 p7 w9 k0 k1 (k7.out.below hb)).mono ?_
      rintro e w3 ⟨p, rfl, hp, hb3⟩
      exact ⟨_, rfl, _, rfl, hb3, p, rfl, hp⟩
     | 6, _ =>
      obtain ⟨s0, r0, _⟩ := hw 5 (by omega) (by kernel_rfl)
      obtain ⟨q0, e0, k0⟩ : LH (.cons (.cons e c) s) (v 5) (lo 5) (hi' 5) w9 := r0
      rw [e0] at s0
      refine gr_t rfl rfl 58 77 _ _ rfl (fun v w => by go_simp) s0 ?_
      with_reducible refine (KP.out w9 q0 k0).mono ?_
      rintro e w3 ⟨p, rfl, hp, hb3⟩
      exact ⟨_, rfl, _, rfl, hb3, p, rfl, hp⟩
     | 7, _ =>
      obtain ⟨s0, r0, _⟩ := hw 6 (by omega) (by kernel_rfl)
      obtain ⟨q0, e0, k0⟩ : LHB (.cons (.cons e c) s) true (v 6) (lo 6) (hi' 6) w9 := r0
      rw [e0] at s0
      exact gr_ext2 rfl rfl 78 _ _ rfl s0 ⟨_, rfl, Below.refl _ _, q0, rfl, k0⟩
     | 8, _ =>
      obtain ⟨s0, r0, _⟩ := hw 6 (by omega) (by kernel_rfl)
      obtain ⟨q0, e0, k0⟩ : LHB (.cons (.cons e c) s) true (v 6) (lo 6) (hi' 6) w9 := r0
      rw [e0] at s0
      exact gr_ext2' rfl rfl 78 _ _ rfl s0 ⟨_, rfl, Below.refl _ _, rfl⟩
    case stepL =>
     intro i hi hl a w1 w9 v lo hi' hw
     match i, hi with
     | 0, _ => exact absurd hl (by decide)
     | 1, _ => exact absurd hl (by decide)
     | 2, _ => exact absurd hl (by decide)
     | 3, _ => exact absurd hl (by decide)
     | 4, _ => exact absurd hl (by decide)
     | 5, _ => exact absurd hl (by decide)
     | 6, _ => exact absurd hl (by decide)
     | 7, _ => exact absurd hl (by decide)
     | 8, _ =>
      obtain ⟨s0, r0⟩ := hw 6 (by omega) (by kernel_rfl)
      obtain ⟨q0, e0, k0⟩ : LHB (.cons (.cons e c) s) true (v 6) (lo 6) (hi' 6) w1 := r0
      rw [e0] at s0
      exact gr_ext2' rfl rfl 78 _ _ rfl s0 ⟨_, rfl, rfl, rfl⟩
    case done =>
     intro a w9 v lo hi' p8 hdef hsz hoth hb hj hap hv7 k8
     obtain ⟨_, hv8, _, _⟩ := hj 8 (by omega)
     change v 8 = _ at hv8
     have ha := eq_puts hdef hsz hoth (fun i hi => (hj i hi).1)
     subst ha
     clear hj hoth hdef hsz hap
     simp only [puts, List.getD_cons_zero, List.getD_cons_succ, hv7, hv8]
     generalize v 0 = v0
     generalize v 1 = v1
     generalize v 2 = v2
     generalize v 3 = v3
     generalize v 4 = v4
     generalize v 5 = v5
     generalize v 6 = v6
     clear hv7 hv8
     simp only [Act.put, List.setIfInBounds_toArray, List.set_cons_zero, List.set_cons_succ]
     show wpList _ _ _ [_] _ _
     replace B0 := kB B0 hb
     replace K0 := kH K0 hb
     replace B1 := kB B1 hb
     replace K1 := kH K1 hb
     replace R0 := kB R0 hb
     replace HW := kW HW hb
     replace HT := kT HT hb
     replace k7 := kH k7 hb
     replace G := kB G hb
     replace k8 := hI k8
     clear hb
     go_wp2_with (first | (with_reducible refine lG (.tmp 2) B0.out ?_) | (with_reducible refine lG (.tmp 3) B1.out ?_) | (with_reducible refine lG (.tmp 6) G.out ?_))
     exact retHBs rfl rfl rfl R0.out rfl k8.out (by omega) HW.out
theorem On.ob_bd : ∀ {a : On} {K : Nat}, a.bd K → K ≤ 1000000000 → a.ob.bd 90
 | .fin n, K, h, hK => bd_int (n := (n : Int)) (by
  have h' : n ≤ K := h
  show (n : Int).natAbs < 10 ^ 90
  rw [Int.natAbs_natCast]
  exact Nat.lt_of_le_of_lt (Nat.le_trans h' hK) (by decide)) (by decide)
 | .pw e c r, K, h, hK => ⟨⟨On.ob_bd h.1 hK, bd_int (n := (c : Int)) (by
  have h' : c ≤ K := h.2.1
  rw [Int.natAbs_natCast]
  exact Nat.lt_of_le_of_lt (Nat.le_trans h' hK) (by decide)) (by decide)⟩, On.ob_bd h.2.2 hK⟩
theorem On.ob_nodes {a : On} {N : Nat} (h : a.nd ≤ N) (hN : N ≤ 3000) : a.ob.nodes ≤ 3000 := by rw [On.nd_ob]; omega
theorem addRE : ∀ (a b : On) (p p' : Value) (w : World) (K K' : Nat), a.nf → b.nf → a.bd K → b.bd K' → K + K' ≤ 1000000000 → a.nd + b.nd ≤ 3000 → Hd w a.ob p → Hd w b.ob p' → Tab w →
 Calls Tryz.prog 32 #[vO a.ob p, vO b.ob p'] w (RetHB w (addE a b).ob true) := by
 intro a
 induction a with
 | fin m =>
  intro b p p' w K K' na nb ha hb hK hN hp hp' ht
  have oa := On.ob_bd ha (by omega)
  have obb := On.ob_bd hb (by omega)
  have pos := b.nd_pos
  have n0 : (On.fin m).nd = 1 := rfl
  have va := fun X (h : Hd X (On.fin m).ob p) (hT : Tab X) => validRE (.fin m) p X na oa (On.ob_nodes (Nat.le_refl _) (by omega)) h hT
  have vb := fun X (h : Hd X b.ob p') (hT : Tab X) => validRE b p' X nb obb (On.ob_nodes (Nat.le_refl _) (by omega)) h hT
  have hz : b.ob.numIs 0 = decide (b = .fin 0) := On.numIs b 0
  by_cases h0 : b = .fin 0
  · rw [decide_eq_true h0] at hz
    have e : addE (.fin m) b = .fin m := by rw [h0]; exact addE_zero_right na
    rw [e]
    exact addRZero _ _ p p' w hz hp hp' ht va vb
  · rw [decide_eq_false h0] at hz
    cases b with
    | fin n =>
     have es : Ob.num ((m : Rat) + (n : Rat)) = (addE (.fin m) (.fin n)).ob := by rw [natAdd]; rfl
     rw [← es]
     exact addRFin _ _ p p' w _ hz rfl rfl hp hp' ht va vb (fun X h h' hT => sum2R (m : Rat) (n : Rat) p p' X oa obb h h' hT)
      (fun X q h => keptR _ q X (by rw [es]; exact On.ob_bd (addE_bd ha hb) hK) (by rw [es, On.nd_ob]; exact Nat.le_trans (addE_nd _ _) hN) h)
    | pw e c r =>
     have eA := fun X q (h : Hd X (On.fin m).ob q) (hT : Tab X) => expE (.fin m) q X h hT
     have eB := fun X q (h : Hd X (On.pw e c r).ob q) (hT : Tab X) => expE (.pw e c r) q X h hT
     exact addRLt2 _ _ p p' w _ _ hz rfl rfl hp hp' ht va vb eA eB (fun X q t h h' hT => by
      have hl := lessE (.fin 0) e q t X (On.exp_bd (a := .fin m) (by decide) oa) obb.1.1 h h' hT
      rw [decide_eq_true (cmpE_flip.1 (cmpE_pos nb.2.1))] at hl
      exact hl)
 | pw e c r ihe ihr =>
  intro b p p' w K K' na nb ha hb hK hN hp hp' ht
  have oa := On.ob_bd ha (by omega)
  have obb := On.ob_bd hb (by omega)
  have pos := b.nd_pos
  have nda : (On.pw e c r).nd = 3 + e.nd + r.nd := rfl
  have va := fun X (h : Hd X (On.pw e c r).ob p) (hT : Tab X) => validRE (.pw e c r) p X na oa (On.ob_nodes (Nat.le_refl _) (by omega)) h hT
  have vb := fun X (h : Hd X b.ob p') (hT : Tab X) => validRE b p' X nb obb (On.ob_nodes (Nat.le_refl _) (by omega)) h hT
  have hz : b.ob.numIs 0 = decide (b = .fin 0) := On.numIs b 0
  have hs := On.ob_bd (addE_bd ha hb) hK
  have hsn : (addE (.pw e c r) b).ob.nodes ≤ 3000 := On.ob_nodes (addE_nd _ _) hN
  by_cases h0 : b = .fin 0
  · rw [decide_eq_true h0] at hz
    have ee : addE (.pw e c r) b = .pw e c r := by rw [h0]; exact addE_zero_right na
    rw [ee]
    exact addRZero _ _ p p' w hz hp hp' ht va vb
  · rw [decide_eq_false h0] at hz
    have eA := fun X q (h : Hd X (On.pw e c r).ob q) (hT : Tab X) => expE (.pw e c r) q X h hT
    have eB := fun X q (h : Hd X b.ob q) (hT : Tab X) => expE b q X h hT
    have cA := fun X q (h : Hd X (On.pw e c r).ob q) (hT : Tab X) => coeE (.pw e c r) q X h hT
    have lS := fun X q t (h : Hd X (On.pw e c r).exp.ob q) (h' : Hd X b.exp.ob t) (hT : Tab X) => lessE (On.pw e c r).exp b.exp q t X oa.1.1 (On.exp_bd (by decide) obb) h h' hT
    rcases cmpE_ways e b.exp with hk | hk | hk
    · rw [addE_lt hk]
      rw [decide_eq_true (show cmpE (On.pw e c r).exp b.exp < 0 from hk)] at lS
      exact addRLt1 _ _ p p' w _ _ hz rfl hp hp' ht va vb eA eB lS
    · rw [decide_eq_false (show ¬ cmpE (On.pw e c r).exp b.exp < 0 by rw [show (On.pw e c r).exp = b.exp from hk, cmpE_self]; omega)] at lS
      rw [addE_eq hk] at hs hsn ⊢
      have es : Ob.num ((c : Rat) + (b.coef : Rat)) = .num ((c + b.coef : Nat) : Rat) := by rw [natAdd]
      show Calls _ _ _ _ (RetHB w (.cons (.cons e.ob (.num ((c + b.coef : Nat) : Rat))) b.rest.ob) true)
      rw [← es]
      exact addREq _ _ p p' w _ _ _ _ _ _ hz rfl hp hp' ht va vb eA eB cA (fun X q h hT => coeE b q X h hT) (fun X q h hT => rstE b q X h hT) lS (by rw [decide_eq_true_iff]; show e.ob = b.exp.ob; rw [hk])
       (fun X q t h h' hT => sum2R (c : Rat) (b.coef : Rat) q t X oa.1.2 (On.bd_coef' obb) h h' hT)
       (fun X q h => keptR _ q X (by rw [es]; exact hs) (by rw [es]; exact hsn) h)
    · rw [decide_eq_false (show ¬ cmpE (On.pw e c r).exp b.exp < 0 by show ¬ cmpE e b.exp < 0; omega)] at lS
      rw [addE_gt hk] at hs hsn ⊢
      exact addRGt _ _ p p' w _ _ _ _ _ hz rfl hp hp' ht va vb eA eB cA (fun X q h hT => rstE (.pw e c r) q X h hT) lS (by rw [decide_eq_false_iff_not]; intro h; have := On.ob_inj h; rw [this, cmpE_self] at hk; omega)
       (fun X q h h' hT => ihr b q p' X K K' na.2.2.2.1 nb ha.2.2 hb hK (by omega) h h' hT)
       (fun X q h => keptR _ q X hs hsn h)
theorem addPS {a b : On} {N L K N' L' K' : Nat} (sa : a.sm N L K) (sb : b.sm N' L' K') (hN : N + N' ≤ 3000) (hK : K + K' ≤ 1000000000) (p p' : Value) (w : World) (hp : Hd w a.ob p) (hp' : Hd w b.ob p') (ht : Tab w) :
 Calls Tryz.prog 13 #[vO a.ob p, vO b.ob p'] w (RetHB w (addE a b).ob true) := by
 have s := sa.add sb
 exact addH a b p p' w sa.nf sb.nf (On.ob_bd sa.bd (by omega)) (On.ob_bd sb.bd (by omega)) (On.ob_bd s.bd hK) (On.ob_nodes sa.nd (by omega)) (On.ob_nodes sb.nd (by omega)) (On.ob_nodes s.nd hN) hp hp' ht
theorem mulPS {a b : On} {N L K N' L' K' : Nat} (sa : a.sm N L K) (sb : b.sm N' L' K') (h1 : 1 ≤ K) (h1' : 1 ≤ K') (hN : N + N' + L' * N ≤ 3000) (hK : K * K' + K + K' ≤ 1000000000) (p p' : Value) (w : World) (hp : Hd w a.ob p) (hp' : Hd w b.ob p') (ht : Tab w) :
 Calls Tryz.prog 14 #[vO a.ob p, vO b.ob p'] w (RetHB w (mulE a b).ob true) := by
 have s := sa.mul sb h1 h1'
 exact mulH a b p p' w sa.nf sb.nf (On.ob_bd sa.bd (by omega)) (On.ob_bd sb.bd (by omega)) (On.ob_bd s.bd hK) (On.ob_nodes sa.nd (by omega)) (On.ob_nodes sb.nd (by omega)) (On.ob_nodes s.nd hN) hp hp' ht
theorem addRS {a b : On} {N L K N' L' K' : Nat} (sa : a.sm N L K) (sb : b.sm N' L' K') (hN : N + N' ≤ 3000) (hK : K + K' ≤ 1000000000) (p p' : Value) (w : World) (hp : Hd w a.ob p) (hp' : Hd w b.ob p') (ht : Tab w) :
 Calls Tryz.prog 32 #[vO a.ob p, vO b.ob p'] w (RetHB w (addE a b).ob true) :=
 addRE a b p p' w K K' sa.nf sb.nf sa.bd sb.bd hK (by have := sa.nd; have := sb.nd; omega) hp hp' ht
theorem natRO (n : Nat) (hn : n ≤ 1000000) (w : World) (ht : Tab w) :
 Calls Tryz.prog 31 #[.int .i64 n] w (RetH w (On.fin n).ob) := by
 show Calls Tryz.prog 31 #[.int .i64 n] w (RetH w (.num (((n : Nat) : Int) : Rat)))
 have hmax : max (n : Int) 0 = n := by omega
 have T := Bx1.new w #[.int .i64 0, .string ⟨#[]⟩, .string ⟨#[]⟩, .string ⟨#[]⟩, .string ⟨#[]⟩, .string ⟨#[]⟩, .slice none 0 0]
 go_enter Tryz.func31, Tryz.ntmps31
 go_wp2_with fail
 generalize w.alloc (.cells #[.int .i64 0, .string ⟨#[]⟩, .string ⟨#[]⟩, .string ⟨#[]⟩, .string ⟨#[]⟩, .string ⟨#[]⟩, .slice none 0 0] 35) = W at T ⊢
 have R0 := hI T.b0
 have HW := hI T.bel
 have HT := hI (ht.below T.bel)
 clear T   ht
 go_wp2_with fail
 with_reducible refine ((intO n _ (Has _) (In.has _) (i64_small (by omega)) HT.out).mono fun _ _ h => h.h (In.has _)).mono ?_
 rintro e w1 ⟨q, rfl, kq, hb⟩
 replace R0 := kB R0 hb
 replace HW := kW HW hb
 replace HT := kT HT hb
 clear hb
 replace kq := hI kq
 go_wp2_with ((with_reducible refine storeB (w1 := w1) (g := w.heap.size) (b := .num (((n : Nat) : Int) : Rat)) (p := q) (.tmp 2) (.tmp 5) ?_ ?_ ?_ ?_ kq.out R0.out ?_); rfl; rfl; rfl; rfl)
 exact retHs rfl rfl R0.out rfl kq.out (by omega) HW.out
theorem natPO (n : Nat) (hn : n ≤ 1000000) (w : World) (ht : Tab w) :
 Calls Tryz.prog 11 #[.int .i64 n] w (RetH w (On.fin n).ob) := by
 show Calls Tryz.prog 11 #[.int .i64 n] w (RetH w (.num (((n : Nat) : Int) : Rat)))
 have hmax : max (n : Int) 0 = n := by omega
 have T := Bx1.new w #[.int .i64 0, .string ⟨#[]⟩, .string ⟨#[]⟩, .string ⟨#[]⟩, .string ⟨#[]⟩, .string ⟨#[]⟩, .slice none 0 0]
 go_enter Tryz.func11, Tryz.ntmps11
 go_wp2_with fail
 generalize w.alloc (.cells #[.int .i64 0, .string ⟨#[]⟩, .string ⟨#[]⟩, .string ⟨#[]⟩, .string ⟨#[]⟩, .string ⟨#[]⟩, .slice none 0 0] 35) = W at T ⊢
 have R0 := hI T.b0
 have HW := hI T.bel
 have HT := hI (ht.below T.bel)
 clear T   ht
 go_wp2_with fail
 with_reducible refine ((intP n _ (Has _) (i64_small (by omega)) HT.out).mono fun _ _ h => h.h (In.has _)).mono ?_
 rintro e w1 ⟨q, rfl, kq, hb⟩
 replace R0 := kB R0 hb
 replace HW := kW HW hb
 replace HT := kT HT hb
 clear hb
 replace kq := hI kq
 go_wp2_with ((with_reducible refine storeB (w1 := w1) (g := w.heap.size) (b := .num (((n : Nat) : Int) : Rat)) (p := q) (.tmp 2) (.tmp 5) ?_ ?_ ?_ ?_ kq.out R0.out ?_); rfl; rfl; rfl; rfl)
 exact retHs rfl rfl R0.out rfl kq.out (by omega) HW.out
def fewSd : List Sd → Bool
 | [] => true
 | r :: rs => (smallV r 12).isSome && fewSd rs
theorem fewSd_drop {l : List Sd} {i : Nat} (hi : i < l.length) : fewSd (l.drop i) = ((smallV l[i] 12).isSome && fewSd (l.drop (i + 1))) := by
 rw [List.drop_eq_getElem_cons hi]
 conv => lhs; unfold fewSd
theorem fewSd_mem : ∀ {l : List Sd} {r : Sd}, fewSd l = true → r ∈ l → r.ok ∧ r.cnt ≤ 12
 | x :: xs, r, h, hr => by
  unfold fewSd at h
  rw [Bool.and_eq_true] at h
  rcases List.mem_cons.1 hr with e | e
  · rw [e]
    obtain ⟨k, hk⟩ := Option.isSome_iff_exists.1 h.1
    have := smallV_ok x 12 k hk
    exact ⟨this.1, by omega⟩
  · exact fewSd_mem h.2 e
def FwW (W wr : World) (l : List Sd) (i : Nat) (r : Bool) : Prop := fewSd (l.drop i) = r ∧ Below W.heap.size W wr

theorem fewSdO (l : List Sd) (b o c : Nat) (w : World) (S : Nat → Prop) (hS : In S w) (hl : l.length ≤ c) (hc : c ≤ 100) (hcn : ∀ r ∈ l, r.cnt ≤ 1048576) (hb : S b) (hs : SdsAt w S b o l) :
 Calls Tryz.prog 5 #[.slice (some ⟨b, o, none⟩) l.length c] w (fun e w' => e = .returned (.bool (fewSd l)) ∧ Below w.heap.size w w') := by
 have HS := hI hs
 clear hs
 have HCM : Hid (∀ i (hi : i < l.length), l[i].cnt ≤ 1048576) := fun i hi => hcn _ (List.getElem_mem hi)
 clear hcn
 obtain ⟨L, hL⟩ : ∃ L, l.length = L := ⟨_, rfl⟩
 rw [hL] at hl ⊢
 have HL := hI hL
 clear hL
 have H0 : Hid (fewSd (l.drop 0) = fewSd l) := by show _ = _; rw [List.drop_zero]
 generalize hR : fewSd l = R at H0 ⊢
 clear hR
 have ha0 : b < w.heap.size := hS b hb
 go_enter Tryz.func5, Tryz.ntmps5
 go_wp2_with fail
 go_loopw [3] (fun v wr => ∃ (i : Nat), i ≤ L ∧ v = .int .i64 i ∧ Hid (FwW w wr l i R)) (fun v _ => L - (intOf v).toNat)
 case atStart => exact ⟨0, Nat.zero_le _, rfl, ⟨H0.out, Below.refl _ _⟩⟩
 case round =>
  obtain ⟨i, hi, rfl, hE⟩ := hrel
  obtain ⟨wo, rfl⟩ : ∃ wo : World, wo = wr := ⟨_, rfl⟩
  obtain ⟨hv, hb1⟩ := hE.out
  clear hE
  have HV := hI hv
  clear hv
  by_cases hiL : i < L
  · have hil : i < l.length := by rw [HL.out]; exact hiL
    obtain ⟨cs, hcs, hcell⟩ := HS.out.get hil
    have hcs' := hcs.below hS hb1
    have step := fewSd_drop hil
    have hci := HCM.out i hil
    obtain ⟨z0, z1, rfl⟩ : ∃ z0 z1, cs = [z0, z1] := by
     generalize l[i] = r at hcs
     cases r with
     | mk n l => unfold SdAt at hcs; obtain ⟨A, c, e, _⟩ := hcs; exact ⟨_, _, e⟩
    have l0 := (hb1.cell (p := ⟨b, o + i * 2 + 0, none⟩) ha0).trans (hcell 0 z0 rfl)
    have l1 := (hb1.cell (p := ⟨b, o + i * 2 + 1, none⟩) ha0).trans (hcell 1 z1 rfl)
    rw [Nat.add_zero] at l0
    have call := hI (smallO l[i] [z0, z1] 12 wo S hci (hS.later hb1.size) hcs' (by omega) (by omega))
    have ST' := hI step
    clear hcell hcs hcs' hci step
    generalize smallV l[i] 12 = sv at call ST'
    go_wp2_with fail
    refine call.out.mono ?_
    rintro e w3 ⟨x, rfl, hx, hb3⟩
    have hbe := hI (hb1.trans (hb3.mono hb1.size))
    clear l0 l1 hb1 hb3 call hx
    cases sv with
    | none =>
     have hr : Hid (R = false) := by show _ = _; rw [← HV.out, ST'.out]; rfl
     clear ST'
     go_wp2
     go_ret
     exact ⟨by rw [hr.out]; rfl, hbe.out⟩
    | some k =>
     have hst : Hid (fewSd (l.drop (i + 1)) = R) := by
      show _ = _
      rw [← HV.out, ST'.out]
      rfl
     clear ST'
     go_wp2
     go_roundw
     case rel => exact ⟨i + 1, by omega, by go_num, ⟨hst.out, hbe.out⟩⟩
     case measure => simp [intOf]; omega
  · have hiL' : i = L := by omega
    have hr : Hid (R = true) := by
     show _ = _
     rw [← HV.out, List.drop_eq_nil_of_le (by rw [HL.out]; omega)]
     rfl
    have hbx := hI hb1
    clear hb1 hiL'
    go_wp2
    go_ret
    exact ⟨by rw [hr.out]; rfl, hbx.out⟩
def Cl (W : World) (b k : Nat) (v : Value) : Prop := W.cell? ⟨b, k, none⟩ = some v ∧ b < W.heap.size
theorem Cl.below {W W' : World} {B b k : Nat} {v : Value} (h : Cl W b k v) (hb : Below B W W') (hB : b < B) : Cl W' b k v := ⟨(hb.cell (p := ⟨b, k, none⟩) hB).trans h.1, Nat.lt_of_lt_of_le h.2 hb.size⟩
theorem Cl.keep {W W' : World} {b k : Nat} {v : Value} (h : Cl W b k v) (hb : Below W.heap.size W W') : Cl W' b k v := h.below hb h.2
section
variable {Q : Exit → Act → World → Prop} {ops : Array Oper} {K : Act → World → Prop} {a : Act} {w : World} {i : Nat} {o : Oper}
theorem gr_sd (ho : ops[i]? = some o) (hg : o.guard = none) (s : Tmp) (b j : Nat) (hop : o.op = Op.fieldAddr 24 (.tmp s) 1) (hx : a.tmps[s]? = some (.pointer (some ⟨b, j, none⟩))) (hK : K (a.put o.dst (.pointer (some ⟨b, j + 1, none⟩))) w) : wpOp Tryz.prog ops Q i K a w :=
 wpOp_step ho fun K' hK' => by
  rw [if_pos (wanted_plain hg)]
  unfold Oper.wp
  simp only [execOp, hop]
  go_simp
  exact hK' _ _ hK
theorem gr_sd0 (ho : ops[i]? = some o) (hg : o.guard = none) (s : Tmp) (b j : Nat) (hop : o.op = Op.fieldAddr 24 (.tmp s) 0) (hx : a.tmps[s]? = some (.pointer (some ⟨b, j, none⟩))) (hK : K (a.put o.dst (.pointer (some ⟨b, j, none⟩))) w) : wpOp Tryz.prog ops Q i K a w :=
 wpOp_step ho fun K' hK' => by
  rw [if_pos (wanted_plain hg)]
  unfold Oper.wp
  simp only [execOp, hop]
  go_simp
  exact hK' _ _ hK
theorem gr_sdL (ho : ops[i]? = some o) (hg : o.guard = none) (s : Tmp) (b j : Nat) (v : Value) (hop : o.op = Op.load 22 (.tmp s)) (hx : a.tmps[s]? = some (.pointer (some ⟨b, j, none⟩))) (hc : w.cell? ⟨b, j, none⟩ = some v) (hK : K (a.put o.dst v) w) : wpOp Tryz.prog ops Q i K a w :=
 wpOp_step ho fun K' hK' => by
  rw [if_pos (wanted_plain hg)]
  unfold Oper.wp
  simp only [execOp, hop]
  go_simp
  exact hK' _ _ hK
theorem gr_sdI (ho : ops[i]? = some o) (hg : o.guard = none) (s : Tmp) (b j : Nat) (v : Value) (hop : o.op = Op.load 3 (.tmp s)) (hx : a.tmps[s]? = some (.pointer (some ⟨b, j, none⟩))) (hc : w.cell? ⟨b, j, none⟩ = some v) (hK : K (a.put o.dst v) w) : wpOp Tryz.prog ops Q i K a w :=
 wpOp_step ho fun K' hK' => by
  rw [if_pos (wanted_plain hg)]
  unfold Oper.wp
  simp only [execOp, hop]
  go_simp
  exact hK' _ _ hK
theorem gr_sdA (ho : ops[i]? = some o) (hg : o.guard = none) (s t : Tmp) (b j n c k : Nat) (hk : k < n) (hop : o.op = Op.indexAddr 22 (.tmp s) (.tmp t)) (hx : a.tmps[s]? = some (.slice (some ⟨b, j, none⟩) n c)) (hy : a.tmps[t]? = some (.int .i64 k)) (hK : K (a.put o.dst (.pointer (some ⟨b, j + k * 2, none⟩))) w) : wpOp Tryz.prog ops Q i K a w :=
 wpOp_step ho fun K' hK' => by
  rw [if_pos (wanted_plain hg)]
  unfold Oper.wp
  simp only [execOp, hop]
  go_simp
  exact hK' _ _ hK
theorem gr_1add (ho : ops[i]? = some o) (hg : o.guard = none) (s : Tmp) (k : Nat) (hk : k ≤ 1000) (hop : o.op = Op.binOp BinOp.add 3 (.const (.int .i64 1)) (.tmp s) 3) (hx : a.tmps[s]? = some (.int .i64 k)) (hK : K (a.put o.dst (.int .i64 ((1 + k : Nat) : Int))) w) : wpOp Tryz.prog ops Q i K a w :=
 wpOp_step ho fun K' hK' => by
  have hK2 : K (a.put o.dst (.int .i64 (1 + (k : Int)))) w := by rw [show (1 + (k : Int)) = ((1 + k : Nat) : Int) from by omega]; exact hK
  have hw : IntKind.i64.wrap (1 + (k : Int)) = 1 + (k : Int) := wrap_small (by omega)
  rw [if_pos (wanted_plain hg)]
  unfold Oper.wp
  simp only [execOp, hop]
  go_simp
  exact hK' _ _ hK2
end
theorem loadCl {ops : Array Oper} {rest : List Oper} {o : Oper} {a : Act} {w : World} {Q : Exit → Act → World → Prop} {b k : Nat} {v : Value} (hx : ∃ s, o.op = .load 22 (.tmp s) ∧ a.tmps[s]? = some (.pointer (some ⟨b, k, none⟩))) (hgd : o.guard = none) (hc : Cl w b k v)
 (h : wpList Tryz.prog ops Q rest (a.put o.dst v) w) : wpList Tryz.prog ops Q (o :: rest) a w := by
 obtain ⟨x, ho, hx⟩ := hx
 have hc := hc.1
 unfold wpList
 rw [if_pos (wanted_plain hgd)]
 refine .inl ?_
 unfold Oper.wp
 simp only [execOp, ho]
 go_simp
 exact h
theorem storeBO {ops : Array Oper} {rest : List Oper} {o : Oper} {a : Act} {w : World} {Q : Exit → Act → World → Prop} {g : Nat} {b b' : Ob} {p p' : Value} {w1 : World} (x y : Operand) (ho : o.op = .store 35 x y) (hgd : o.guard = none)
 (hx : a.eval x = .pointer (some ⟨g, 0, none⟩)) (hy : a.eval y = vO b p) (hp : Hd w1 b p) (hg : Bx w g (cellsO b' p').toArray)
 (h : wpList Tryz.prog ops Q rest (a.put o.dst undef) (w.setRow g (cellsO b p).toArray)) : wpList Tryz.prog ops Q (o :: rest) a w := by
 obtain ⟨x0, x1, x2, x3, x4, x5, e⟩ := cells7 b' p'
 rw [e] at hg
 exact storeB x y ho hgd hx hy hp hg h
theorem modT (n m : Int) (w : World) (hn : I64 n) (hm : 0 < m) (hm' : m ≤ 100000) :
 Calls Tryz.prog 19 #[.int .i64 n, .int .i64 m] w (RetI w (((n % m).toNat : Nat) : Int)) := by
 refine (modO n m w hn.1 hn.2 hm hm').mono ?_
 rintro e w' ⟨rfl, rfl⟩
 have := Int.emod_nonneg n (show m ≠ 0 by omega)
 exact ⟨by rw [Int.toNat_of_nonneg this], Below.refl _ _⟩
theorem natInt (n : Nat) (hn : n ≤ 1000000) (w : World) (ht : Tab w) :
 Calls Tryz.prog 20 #[.int .i64 n] w (RetH w (On.fin n).ob) :=
 (intO n w (Has w) (In.has w) (i64_small (by omega)) ht).mono fun _ _ h => h.h (In.has w)
theorem powRS {e r : On} {c N L K : Nat} (sp : (On.pw e c r).sm N L K) (hN : N ≤ 3000) (hK : K ≤ 1000000000) (pe pc pr : Value) (w : World) (he : Hd w e.ob pe) (hc : Hd w (On.fin c).ob pc) (hr : Hd w r.ob pr) (ht : Tab w) :
 Calls Tryz.prog 33 #[vO e.ob pe, vO (On.fin c).ob pc, vO r.ob pr] w (RetHB w (On.pw e c r).ob true) :=
 powerR_true e.ob (On.fin c).ob r.ob pe pc pr w he hc hr ht (fun X q h hT => validRE (.pw e c r) q X sp.nf (On.ob_bd sp.bd hK) (On.ob_nodes sp.nd hN) h hT)
theorem natR0 (w : World) (ht : Tab w) : Calls Tryz.prog 31 #[.int .i64 0] w (RetH w (On.fin 0).ob) := natRO 0 (by omega) w ht
theorem natR1 (w : World) (ht : Tab w) : Calls Tryz.prog 31 #[.int .i64 1] w (RetH w (On.fin 1).ob) := natRO 1 (by omega) w ht
theorem Sd.oks_mem : ∀ {l : List Sd} {r : Sd}, Sd.oks l → r ∈ l → r.ok
 | x :: xs, r, h, hr => by
  unfold Sd.oks at h
  rcases List.mem_cons.1 hr with e | e
  · rw [e]; exact h.1
  · exact Sd.oks_mem h.2 e
theorem Sd.oks_drop : ∀ (i : Nat) {l : List Sd}, Sd.oks l → Sd.oks (l.drop i)
 | 0, l, h => h
 | i + 1, [], h => h
 | i + 1, x :: xs, h => by
  unfold Sd.oks at h
  exact Sd.oks_drop i h.2
theorem Sd.cnts_drop : ∀ (i : Nat) (l : List Sd), Sd.cnts (l.drop i) ≤ Sd.cnts l
 | 0, l => Nat.le_refl _
 | i + 1, [] => Nat.le_refl _
 | i + 1, x :: xs => by
  rw [Sd.cnts]
  have := Sd.cnts_drop i xs
  show Sd.cnts (xs.drop i) ≤ _
  omega
def MdW (w wr : World) (g : Nat) (s : Value) (o : On) : Prop := Below w.heap.size w wr ∧ Cl wr w.heap.size 1 s ∧ Bx wr (w.heap.size + 1) zeroC ∧ ∃ q, Bx wr g (cellsO o.ob q).toArray ∧ Hd wr o.ob q

theorem madeCore (n : Int) (l : List Sd) (A : Option Addr) (c L m5 : Nat) (w : World) (S : Nat → Prop) (hS : In S w) (hL : l.length = L) (hc : L ≤ c) (hL3 : L ≤ 3) (h5 : m5 ≤ 4) (hok : Sd.oks l) (hcn : Sd.cnts l ≤ 100)
 (hA : 0 < l.length → ∃ b o, A = some ⟨b, o, none⟩ ∧ S b ∧ SdsAt w S b o l) (ht : Tab w) (hM : ∀ X, Calls Tryz.prog 19 #[.int .i64 n, .int .i64 5] X (RetI X (m5 : Int)))
 (ih : ∀ r ∈ l, ∀ (cs : List Value) (w : World), In S w → SdAt w S r cs → Tab w → Calls Tryz.prog 9 #[.agg cs.toArray] w (RetH w (madeE r).ob)) :
 Calls Tryz.prog 9 #[.agg #[.int .i64 n, .slice A L c]] w (RetH w (madesE l (.fin m5)).ob) := by
 have M5 := hI hM
 have HI := hI ih
 have HA := hI hA
 have HL := hI hL
 have OK := hI hok
 have HC := hI hcn
 clear hM ih hA hL hok hcn
 have T := Bx1.new (w.alloc (.cells #[.int .i64 n, .slice A L c] 24)) #[.int .i64 0, .string ⟨#[]⟩, .string ⟨#[]⟩, .string ⟨#[]⟩, .string ⟨#[]⟩, .string ⟨#[]⟩, .slice none 0 0]
 have hs0 : (w.alloc (.cells #[.int .i64 n, .slice A L c] 24)).heap.size = w.heap.size + 1 := by simp
 have hW0 : Below w.heap.size w (w.alloc (.cells #[.int .i64 n, .slice A L c] 24)) := Below.alloc (Below.refl _ _) (Nat.le_refl _) _
 have c0 : Cl (w.alloc (.cells #[.int .i64 n, .slice A L c] 24)) w.heap.size 0 (.int .i64 n) := ⟨by rw [cell_of_row _ _ _ _ _ _ (heap_alloc_new w _)]; rfl, by rw [hs0]; omega⟩
 have c1 : Cl (w.alloc (.cells #[.int .i64 n, .slice A L c] 24)) w.heap.size 1 (.slice A L c) := ⟨by rw [cell_of_row _ _ _ _ _ _ (heap_alloc_new w _)]; rfl, by rw [hs0]; omega⟩
 replace c0 := c0.keep T.bel
 replace c1 := c1.keep T.bel
 have R0 := T.b0
 have hW := hW0.trans (T.bel.mono (Nat.le_of_lt (by rw [hs0]; omega)))
 rw [hs0] at R0
 go_enter Tryz.func9, Tryz.ntmps9
 go_upto_region 1 with fail
 generalize (w.alloc (.cells #[.int .i64 n, .slice A L c] 24)).alloc (.cells #[.int .i64 0, .string ⟨#[]⟩, .string ⟨#[]⟩, .string ⟨#[]⟩, .string ⟨#[]⟩, .string ⟨#[]⟩, .slice none 0 0] 35) = W at c0 c1 R0 hW ⊢
 clear T hW0 hs0
 have d0 := c0.1
 have HT := hI (ht.below hW)
 have HW := hI hW
 have C1 := hI c1
 replace R0 := hI R0
 clear hW c1 c0
 go_wp2_with ((with_reducible refine loadCl ?_ ?_ C1.out ?_); exact ⟨_, rfl, rfl⟩; rfl)
 clear d0
 with_reducible refine (M5.out _).mono ?_
 rintro e w1 ⟨rfl, hb⟩
 replace HW := kW HW hb
 replace HT := kT HT hb
 replace R0 := kB R0 hb
 replace C1 := hI (C1.out.keep hb)
 clear hb
 go_wp2_with ((with_reducible refine loadCl ?_ ?_ C1.out ?_); exact ⟨_, rfl, rfl⟩; rfl)
 with_reducible refine (natRO m5 (by omega) _ HT.out).mono ?_
 rintro e w2 ⟨q0, rfl, k0, hb⟩
 replace HW := kW HW hb
 replace HT := kT HT hb
 replace R0 := kB R0 hb
 replace C1 := hI (C1.out.keep hb)
 clear hb
 replace k0 := hI k0
 have hgl := R0.out.lt
 have T := hI (Bx1.new w2 #[.int .i64 0, .string ⟨#[]⟩, .string ⟨#[]⟩, .string ⟨#[]⟩, .string ⟨#[]⟩, .string ⟨#[]⟩, .slice none 0 0])
 go_wp2_with (first | (with_reducible refine sB (.tmp 3) (.tmp 14) k0.out T.out.b0 ?_; have P := Pt1.new (w := w2) (o := On.ob (.fin m5)) (p := q0) (z := #[.int .i64 0, .string ⟨#[]⟩, .string ⟨#[]⟩, .string ⟨#[]⟩, .string ⟨#[]⟩, .string ⟨#[]⟩, .slice none 0 0]); generalize World.setRow (w2.alloc (.cells #[.int .i64 0, .string ⟨#[]⟩, .string ⟨#[]⟩, .string ⟨#[]⟩, .string ⟨#[]⟩, .string ⟨#[]⟩, .slice none 0 0] 35)) w2.heap.size (cellsO (On.ob (.fin m5)) q0).toArray = X2 at P ⊢; have hb := P.bel; replace HW := kW HW hb; replace HT := kT HT hb; replace R0 := kB R0 hb; replace k0 := kH k0 hb; replace C1 := hI (C1.out.keep hb); have G3 := hI P.b0; clear P hb T) | (with_reducible refine lG (.tmp 3) G3.out ?_) | ((with_reducible refine loadCl ?_ ?_ C1.out ?_); exact ⟨_, rfl, rfl⟩; rfl))
 generalize w2.heap.size = g at *
 have ST0 : Hid (MdW w X2 g (.slice A L c) (madesE (l.drop L) (.fin m5))) := by
  rw [show l.drop L = [] from by rw [← HL.out, List.drop_length]]
  unfold madesE
  have hc1 := C1.out
  exact ⟨HW.out, hc1, R0.out, q0, G3.out, k0.out⟩
 clear C1 HT HW R0 G3 k0
 go_loopw [4] (fun v wr => ∃ (j : Nat) (z : Int), j ≤ L ∧ z = (j : Int) - 1 ∧ v = .int .i64 z ∧ Hid (MdW w wr g (.slice A L c) (madesE (l.drop j) (.fin m5)))) (fun v _ => (intOf v + 1).toNat)
 case atStart => exact ⟨L, (L : Int) - 1, Nat.le_refl _, rfl, rfl, ST0⟩
 case round =>
  obtain ⟨j, z, hj, hz, rfl, hE⟩ := hrel
  obtain ⟨wo, rfl⟩ : ∃ wo : World, wo = wr := ⟨_, rfl⟩
  obtain ⟨hb0, hc1, hr0, q, hg3, hko⟩ := hE.out
  clear hE ST0
  have HW := hI hb0
  have HT := hI (ht.below hb0)
  have R0 := hI (show Bx wo (w.heap.size + 1) #[.int .i64 0, .string ⟨#[]⟩, .string ⟨#[]⟩, .string ⟨#[]⟩, .string ⟨#[]⟩, .string ⟨#[]⟩, .slice none 0 0] from hr0)
  have G3 := hI hg3
  have kO := hI hko
  clear hr0 hg3 hko
  by_cases hj0 : 0 < j
  · obtain ⟨ix, rfl⟩ : ∃ ix, j = ix + 1 := ⟨j - 1, by omega⟩
    obtain rfl : z = (ix : Int) := by omega
    have hiL : ix < L := by omega
    clear hz hj hj0
    have hil : ix < l.length := by rw [HL.out]; exact hiL
    obtain ⟨b, o, rfl, hb, hrs⟩ := HA.out (by omega)
    have C1 := hI hc1
    clear hc1
    obtain ⟨cs, hcs, hcell⟩ := hrs.get hil
    have hcs' := hcs.below hS hb0
    have ha0 : b < w.heap.size := hS b hb
    have call := hI (HI.out l[ix] (List.getElem_mem hil) cs wo (hS.later hb0.size) hcs' HT.out)
    have okr := Sd.oks_mem OK.out (List.getElem_mem hil)
    have ct := Sd.cnt_mem (List.getElem_mem hil)
    have ok' := Sd.oks_drop (ix + 1) OK.out
    have ct' := Sd.cnts_drop (ix + 1) l
    have hC := HC.out
    have step := madesE_cons l[ix] (l.drop (ix + 1)) (.fin m5)
    rw [← List.drop_eq_getElem_cons hil] at step
    generalize l[ix] = r at *
    obtain ⟨n1, l1⟩ := r
    unfold SdAt at hcs
    obtain ⟨A1, c1, rfl, hn1, _, _, _⟩ := hcs
    have D0 := hI (show Cl w b (o + ix * 2) (.int .i64 n1) from ⟨hcell 0 _ rfl, ha0⟩)
    have x0 := (hb0.cell (p := ⟨b, o + ix * 2 + 0, none⟩) ha0).trans (hcell 0 _ rfl)
    have x1 := (hb0.cell (p := ⟨b, o + ix * 2 + 1, none⟩) ha0).trans (hcell 1 _ rfl)
    replace D0 := hI (D0.out.keep hb0)
    rw [Nat.add_zero] at x0
    obtain ⟨k, hk⟩ : ∃ k : Nat, (n1 % 3).toNat = k := ⟨_, rfl⟩
    have MD : Hid (∀ X, Calls Tryz.prog 19 #[.int .i64 n1, .int .i64 3] X (RetI X (k : Int))) := by
     rw [← hk]
     exact fun X => modT n1 3 X hn1 (by omega) (by omega)
    have hk2 : k ≤ 1000 := by omega
    have hk3 : k ≤ 2 := by omega
    have sE := (madeE_sm _ okr).more (N' := 400) (L' := 3) (K' := 700) (by omega) (Nat.le_refl _) (by omega)
    have sO := (madesE_sm _ ok' (.fin m5) ⟨trivial, Nat.le_refl 1, Nat.le_refl 0, h5⟩).more (N' := 401) (L' := 3) (K' := 707) (by omega) (by rw [List.length_drop, HL.out]; omega) (by rw [List.length_drop, HL.out]; omega)
    replace step : madesE (l.drop ix) (.fin m5) = addE (.pw (addE (madeE (Sd.mk n1 l1)) (.fin 1)) (1 + (n1 % 3).toNat) (.fin 0)) (madesE (l.drop (ix + 1)) (.fin m5)) := step
    rw [hk] at step
    clear hcell hcs' hb0 okr ct ok' ct' hC hn1 hk hrs
    generalize madeE (Sd.mk n1 l1) = E at *
    generalize madesE (l.drop (ix + 1)) (.fin m5) = O at *
    have s1 : (On.fin 1).sm 1 0 1 := ⟨trivial, Nat.le_refl 1, Nat.le_refl 0, Nat.le_refl 1⟩
    have sE1 := sE.add s1
    have sP : (On.pw (addE E (.fin 1)) (1 + k) (.fin 0)).sm 500 1 1000 := ⟨pw_nf sE1.nf (addE_one_nz _) (by omega), by
     have := sE1.nd
     show 3 + (addE E (.fin 1)).nd + 1 ≤ 500
     omega, Nat.le_refl 1, ⟨sE1.bd.more (by omega), by omega, Nat.zero_le _⟩⟩
    have AD : Hid (∀ X q t, Hd X E.ob q → Hd X (On.fin 1).ob t → Tab X → Calls Tryz.prog 32 #[vO E.ob q, vO (On.fin 1).ob t] X (RetHB X (addE E (.fin 1)).ob true)) := fun X q t h h' hT => addRS sE s1 (by omega) (by omega) q t X h h' hT
    have PW : Hid (∀ X q t u, Hd X (addE E (.fin 1)).ob q → Hd X (On.fin (1 + k)).ob t → Hd X (On.fin 0).ob u → Tab X → Calls Tryz.prog 33 #[vO (addE E (.fin 1)).ob q, vO (On.fin (1 + k)).ob t, vO (On.fin 0).ob u] X (RetHB X (On.pw (addE E (.fin 1)) (1 + k) (.fin 0)).ob true)) := fun X q t u h h' h'' hT => powRS sP (by omega) (by omega) q t u X h h' h'' hT
    have AD2 : Hid (∀ X q t, Hd X (On.pw (addE E (.fin 1)) (1 + k) (.fin 0)).ob q → Hd X O.ob t → Tab X → Calls Tryz.prog 32 #[vO (On.pw (addE E (.fin 1)) (1 + k) (.fin 0)).ob q, vO O.ob t] X (RetHB X (addE (On.pw (addE E (.fin 1)) (1 + k) (.fin 0)) O).ob true)) := fun X q t h h' hT => addRS sP sO (by omega) (by omega) q t X h h' hT
    have STP := hI step
    clear step sE sO s1 sE1 sP
    generalize hso : addE (On.pw (addE E (.fin 1)) (1 + k) (.fin 0)) O = S1 at *
    clear hso
    have HSO : Hid (∃ so, S1.ob = so) := ⟨_, rfl⟩
    obtain ⟨so, hso⟩ := HSO.out
    clear HSO
    have STO : Hid (so = (madesE (l.drop ix) (.fin m5)).ob) := by show _ = _; rw [STP.out, hso]
    rw [hso] at AD2
    clear hso
    generalize (On.pw (addE E (.fin 1)) (1 + k) (.fin 0)).ob = po at *
    generalize (addE E (.fin 1)).ob = e1 at *
    generalize E.ob = me at *
    generalize O.ob = oo at *
    replace call : Hid (Calls Tryz.prog 9 #[.agg #[.int .i64 n1, .slice A1 l1.length c1]] wo (RetH wo me)) := call
    go_wp2_with (first | (with_reducible refine lG (.tmp 3) G3.out ?_) | ((with_reducible refine loadCl ?_ ?_ C1.out ?_); exact ⟨_, rfl, rfl⟩; rfl) | ((with_reducible refine loadCl ?_ ?_ D0.out ?_); exact ⟨_, rfl, rfl⟩; rfl))
    clear x0 x1
    with_reducible refine (call.out).mono ?_
    rintro e w11 ⟨qm, rfl, km, hb⟩
    replace HW := kW HW hb
    replace HT := kT HT hb
    replace R0 := kB R0 hb
    replace G3 := kB G3 hb
    replace kO := kH kO hb
    replace C1 := hI (C1.out.keep hb)
    replace D0 := hI (D0.out.keep hb)
    clear hb
    replace km := hI km
    go_wp2_with (first | (with_reducible refine lG (.tmp 3) G3.out ?_) | ((with_reducible refine loadCl ?_ ?_ C1.out ?_); exact ⟨_, rfl, rfl⟩; rfl) | ((with_reducible refine loadCl ?_ ?_ D0.out ?_); exact ⟨_, rfl, rfl⟩; rfl))
    with_reducible refine (natR1 _ HT.out).mono ?_
    rintro e w12 ⟨qn, rfl, kn, hb⟩
    replace HW := kW HW hb
    replace HT := kT HT hb
    replace R0 := kB R0 hb
    replace G3 := kB G3 hb
    replace kO := kH kO hb
    replace km := kH km hb
    replace C1 := hI (C1.out.keep hb)
    replace D0 := hI (D0.out.keep hb)
    clear hb
    replace kn := hI kn
    go_wp2_with (first | (with_reducible refine lG (.tmp 3) G3.out ?_) | ((with_reducible refine loadCl ?_ ?_ C1.out ?_); exact ⟨_, rfl, rfl⟩; rfl) | ((with_reducible refine loadCl ?_ ?_ D0.out ?_); exact ⟨_, rfl, rfl⟩; rfl))
    with_reducible refine (AD.out _ _ _ km.out kn.out HT.out).mono ?_
    rintro e w13 ⟨qe, rfl, ke, hb⟩
    replace HW := kW HW hb
    replace HT := kT HT hb
    replace R0 := kB R0 hb
    replace G3 := kB G3 hb
    replace kO := kH kO hb
    replace km := kH km hb
    replace kn := kH kn hb
    replace C1 := hI (C1.out.keep hb)
    replace D0 := hI (D0.out.keep hb)
    clear hb
    replace ke := hI ke
    have T := hI (Bx1.new w13 #[.int .i64 0, .string ⟨#[]⟩, .string ⟨#[]⟩, .string ⟨#[]⟩, .string ⟨#[]⟩, .string ⟨#[]⟩, .slice none 0 0])
    go_wp2_with (first | (with_reducible refine sB (.tmp 5) (.tmp 32) ke.out T.out.b0 ?_; have P := Pt1.new (w := w13) (o := e1) (p := qe) (z := #[.int .i64 0, .string ⟨#[]⟩, .string ⟨#[]⟩, .string ⟨#[]⟩, .string ⟨#[]⟩, .string ⟨#[]⟩, .slice none 0 0]); generalize World.setRow (w13.alloc (.cells #[.int .i64 0, .string ⟨#[]⟩, .string ⟨#[]⟩, .string ⟨#[]⟩, .string ⟨#[]⟩, .string ⟨#[]⟩, .slice none 0 0] 35)) w13.heap.size (cellsO (e1) qe).toArray = X13 at P ⊢; have hb := P.bel; replace HW := kW HW hb; replace HT := kT HT hb; replace R0 := kB R0 hb; replace G3 := kB G3 hb; replace kO := kH kO hb; replace km := kH km hb; replace kn := kH kn hb; replace ke := kH ke hb; replace C1 := hI (C1.out.keep hb); replace D0 := hI (D0.out.keep hb); have G5 := hI P.b0; clear P hb T) | (with_reducible refine lG (.tmp 3) G3.out ?_) | (with_reducible refine lG (.tmp 5) G5.out ?_) | ((with_reducible refine loadCl ?_ ?_ C1.out ?_); exact ⟨_, rfl, rfl⟩; rfl) | ((with_reducible refine loadCl ?_ ?_ D0.out ?_); exact ⟨_, rfl, rfl⟩; rfl))
    refine wp_region_growS (l := _) 16 (by kernel_rfl) (by kernel_rfl) (fun i => [35, 36, 37, 38, 39, 40, 41, 42, 43, 44, 45, 46, 34, 47, 48, 7].getD i 0) (LR [LV (vO (e1) qe), LV (.pointer (some ⟨w.heap.size, 1, none⟩)), LV (.slice (some ⟨b, o, none⟩) L c), LV (.int .i64 (ix : Int)), LV (.pointer (some ⟨b, o + ix * 2, none⟩)), LV (.pointer (some ⟨b, o + ix * 2, none⟩)), LV (.int .i64 n1), LV (.int .i64 ((k : Int))), LV (.int .i64 ((1 + k : Nat) : Int)), LH (On.ob (.fin (1 + k))), LH (On.ob (.fin 0)), LHB (po) true, LHB (po) true, LH (po), LV (.bool true), LBx]) (LR_mono ⟨mLV _, mLV _, mLV _, mLV _, mLV _, mLV _, mLV _, mLV _, mLV _, mLH _, mLH _, mLHB _ _, mLHB _ _, mLH _, mLV _, mLBx, trivial⟩) (by
     intro i j hi hj h
     exact inj_getD [35, 36, 37, 38, 39, 40, 41, 42, 43, 44, 45, 46, 34, 47, 48, 7] (by decide) i j hi hj h) (by
     intro i hi
     exact lt_getD 58 [35, 36, 37, 38, 39, 40, 41, 42, 43, 44, 45, 46, 34, 47, 48, 7] (by decide) i hi) [14] (by kernel_rfl) 15 13 (by omega) (by omega) (by kernel_rfl) (by kernel_rfl) _ rfl rfl rfl rfl
     (fun _ _ _ _ h => h) (po) (fun _ _ _ _ h => h) ?step ?stepL ?done
    case step =>
     intro i hi a w9 v lo hi' hoth hb hw
     have sl5 : a.tmps[5]? = some (.pointer (some ⟨w13.heap.size, 0, none⟩)) := (hoth 5 (fun j hj => ne_getD 5 _ (by decide) j hj)).trans rfl
     have sl1 : a.tmps[1]? = some (.pointer (some ⟨w.heap.size, 0, none⟩)) := (hoth 1 (fun j hj => ne_getD 1 _ (by decide) j hj)).trans rfl
     have sl4 : a.tmps[4]? = some (.int .i64 (ix : Int)) := (hoth 4 (fun j hj => ne_getD 4 _ (by decide) j hj)).trans rfl
     match i, hi with
     | 0, _ =>
      exact gr_box rfl rfl (.tmp 5) rfl (eval_of sl5) (G5.out.keep hb) ⟨_, rfl, Below.refl _ _, rfl⟩
     | 1, _ =>
      exact gr_sd rfl rfl 1 w.heap.size 0 rfl sl1 ⟨_, rfl, Below.refl _ _, rfl⟩
     | 2, _ =>
      obtain ⟨s0, r0, _⟩ := hw 1 (by omega) (by kernel_rfl)
      have e0 : v 1 = (.pointer (some ⟨w.heap.size, 1, none⟩)) := r0
      rw [e0] at s0
      exact gr_sdL rfl rfl 36 w.heap.size 1 _ rfl s0 (C1.out.keep hb).1 ⟨_, rfl, Below.refl _ _, rfl⟩
     | 3, _ =>
      exact gr_move rfl rfl 4 _ rfl sl4 ⟨_, rfl, Below.refl _ _, rfl⟩
     | 4, _ =>
      obtain ⟨s0, r0, _⟩ := hw 2 (by omega) (by kernel_rfl)
      have e0 : v 2 = (.slice (some ⟨b, o, none⟩) L c) := r0
      rw [e0] at s0
      obtain ⟨s1, r1, _⟩ := hw 3 (by omega) (by kernel_rfl)
      have e1 : v 3 = (.int .i64 (ix : Int)) := r1
      rw [e1] at s1
      exact gr_sdA rfl rfl 37 38 b o L c ix hiL rfl s0 s1 ⟨_, rfl, Below.refl _ _, rfl⟩
     | 5, _ =>
      obtain ⟨s0, r0, _⟩ := hw 4 (by omega) (by kernel_rfl)
      have e0 : v 4 = (.pointer (some ⟨b, o + ix * 2, none⟩)) := r0
      rw [e0] at s0
      exact gr_sd0 rfl rfl 39 b (o + ix * 2) rfl s0 ⟨_, rfl, Below.refl _ _, rfl⟩
     | 6, _ =>
      obtain ⟨s0, r0, _⟩ := hw 5 (by omega) (by kernel_rfl)
      have e0 : v 5 = (.pointer (some ⟨b, o + ix * 2, none⟩)) := r0
      rw [e0] at s0
      exact gr_sdI rfl rfl 40 b (o + ix * 2) _ rfl s0 (D0.out.keep hb).1 ⟨_, rfl, Below.refl _ _, rfl⟩
     | 7, _ =>
      obtain ⟨s0, r0, _⟩ := hw 6 (by omega) (by kernel_rfl)
      have e0 : v 6 = .int .i64 n1 := r0
      rw [e0] at s0
      refine gr_tc rfl rfl 19 41 _ _ _ rfl (fun v u w => by go_simp) s0 ?_
      with_reducible refine (MD.out w9).mono ?_
      rintro e w3 ⟨rfl, hb3⟩
      exact ⟨_, rfl, _, rfl, hb3, rfl⟩
     | 8, _ =>
      obtain ⟨s0, r0, _⟩ := hw 7 (by omega) (by kernel_rfl)
      have e0 : v 7 = (.int .i64 ((k : Int))) := r0
      rw [e0] at s0
      exact gr_1add rfl rfl 42 k hk2 rfl s0 ⟨_, rfl, Below.refl _ _, rfl⟩
     | 9, _ =>
      obtain ⟨s0, r0, _⟩ := hw 8 (by omega) (by kernel_rfl)
      have e0 : v 8 = .int .i64 ((1 + k : Nat) : Int) := r0
      rw [e0] at s0
      refine gr_t rfl rfl 20 43 _ _ rfl (fun v w => by go_simp) s0 ?_
      with_reducible refine (natInt (1 + k) (by omega) w9 (HT.out.below hb)).mono ?_
      rintro e w3 ⟨p, rfl, hp, hb3⟩
      exact ⟨_, rfl, _, rfl, hb3, p, rfl, hp⟩
     | 10, _ =>
      refine gr_c rfl rfl 31  _ _ rfl (fun v w => by go_simp)  ?_
      with_reducible refine (natR0 w9 (HT.out.below hb)).mono ?_
      rintro e w3 ⟨p, rfl, hp, hb3⟩
      exact ⟨_, rfl, _, rfl, hb3, p, rfl, hp⟩
     | 11, _ =>
      obtain ⟨s0, r0, _⟩ := hw 0 (by omega) (by kernel_rfl)
      have e0 : v 0 = vO (e1) qe := r0
      rw [e0] at s0
      obtain ⟨s1, r1, _⟩ := hw 9 (by omega) (by kernel_rfl)
      obtain ⟨q1, e1, k1⟩ : LH (On.ob (.fin (1 + k))) (v 9) (lo 9) (hi' 9) w9 := r1
      rw [e1] at s1
      obtain ⟨s2, r2, _⟩ := hw 10 (by omega) (by kernel_rfl)
      obtain ⟨q2, e2, k2⟩ : LH (On.ob (.fin 0)) (v 10) (lo 10) (hi' 10) w9 := r2
      rw [e2] at s2
      refine gr_ttt rfl rfl 33 35 44 45 _ _ _ _ rfl (fun v u x w => by go_simp) s0 s1 s2 ?_
      with_reducible refine (PW.out w9 qe q1 q2 (ke.out.below hb) k1 k2 (HT.out.below hb)).mono ?_
      rintro e w3 ⟨p, rfl, hp, hb3⟩
      exact ⟨_, rfl, _, rfl, hb3, p, rfl, hp⟩
     | 12, _ =>
      obtain ⟨s0, r0, _⟩ := hw 11 (by omega) (by kernel_rfl)
      obtain ⟨q0, e0, k0⟩ : LHB (po) true (v 11) (lo 11) (hi' 11) w9 := r0
      rw [e0] at s0
      exact gr_move rfl rfl 46 _ rfl s0 ⟨_, rfl, Below.refl _ _, q0, rfl, k0⟩
     | 13, _ =>
      obtain ⟨s0, r0, _⟩ := hw 12 (by omega) (by kernel_rfl)
      obtain ⟨q0, e0, k0⟩ : LHB (po) true (v 12) (lo 12) (hi' 12) w9 := r0
      rw [e0] at s0
      exact gr_ext2 rfl rfl 34 _ _ rfl s0 ⟨_, rfl, Below.refl _ _, q0, rfl, k0⟩
     | 14, _ =>
      obtain ⟨s0, r0, _⟩ := hw 12 (by omega) (by kernel_rfl)
      obtain ⟨q0, e0, k0⟩ : LHB (po) true (v 12) (lo 12) (hi' 12) w9 := r0
      rw [e0] at s0
      exact gr_ext2' rfl rfl 34 _ _ rfl s0 ⟨_, rfl, Below.refl _ _, rfl⟩
     | 15, _ =>
      exact grow_allocO rfl rfl rfl ⟨_, rfl, Below.alloc (Below.refl _ _) (Nat.le_refl _) _, rfl, heap_alloc_new _ _, by simp⟩
     | k + 16, h => exact absurd h (by omega)
    case stepL =>
     intro i hi hl a w1 w9 v lo hi' hw
     match i, hi with
     | 0, _ => exact absurd hl (by decide)
     | 1, _ => exact absurd hl (by decide)
     | 2, _ => exact absurd hl (by decide)
     | 3, _ => exact absurd hl (by decide)
     | 4, _ => exact absurd hl (by decide)
     | 5, _ => exact absurd hl (by decide)
     | 6, _ => exact absurd hl (by decide)
     | 7, _ => exact absurd hl (by decide)
     | 8, _ => exact absurd hl (by decide)
     | 9, _ => exact absurd hl (by decide)
     | 10, _ => exact absurd hl (by decide)
     | 11, _ => exact absurd hl (by decide)
     | 12, _ => exact absurd hl (by decide)
     | 13, _ => exact absurd hl (by decide)
     | 14, _ =>
      obtain ⟨s0, r0⟩ := hw 12 (by omega) (by kernel_rfl)
      obtain ⟨q0, e0, k0⟩ : LHB (po) true (v 12) (lo 12) (hi' 12) w1 := r0
      rw [e0] at s0
      exact gr_ext2' rfl rfl 34 _ _ rfl s0 ⟨_, rfl, rfl, rfl⟩
     | 15, _ => exact absurd hl (by decide)
     | k + 16, h => exact absurd h (by omega)
    case done =>
     intro a w9 v lo hi' p13 hdef hsz hoth hb hj hap hv13 k13 hv15 B15
     obtain ⟨_, _, hlo15, _⟩ := hj 15 (by omega)
     obtain ⟨_, hv14, _, _⟩ := hj 14 (by omega)
     change v 14 = _ at hv14
     have ha := eq_puts hdef hsz hoth (fun i hi => (hj i hi).1)
     subst ha
     clear hj hoth hdef hsz hap
     have hX := below_setRowO hb hlo15 (cellsO (po) p13).toArray
     have kX := Hd.box k13 B15 rfl (cellsO (po) p13).toArray
     have bX := Bx.set (y := (cellsO (po) p13).toArray) B15
     generalize World.setRow w9 (lo 15) (cellsO (po) p13).toArray = X20 at hX kX bX ⊢
     clear hb k13 B15
     simp only [puts, List.getD_cons_zero, List.getD_cons_succ, hv13, hv15, hv14]
     generalize v 0 = v0
     generalize v 1 = v1
     generalize v 2 = v2
     generalize v 3 = v3
     generalize v 4 = v4
     generalize v 5 = v5
     generalize v 6 = v6
     generalize v 7 = v7
     generalize v 8 = v8
     generalize v 9 = v9
     generalize v 10 = v10
     generalize v 11 = v11
     generalize v 12 = v12
     clear hv13 hv15 hv14
     generalize lo 15 = g15 at *
     simp only [Act.put, List.setIfInBounds_toArray, List.set_cons_zero, List.set_cons_succ]
     show wpList _ _ _ [_] _ _
     have hb := hX
     clear hX
     replace HW := kW HW hb
     replace HT := kT HT hb
     replace R0 := kB R0 hb
     replace G3 := kB G3 hb
     replace kO := kH kO hb
     replace km := kH km hb
     replace kn := kH kn hb
     replace ke := kH ke hb
     replace G5 := kB G5 hb
     replace C1 := hI (C1.out.keep hb)
     replace D0 := hI (D0.out.keep hb)
     replace k13 := hI kX
     have G7 := hI bX
     clear hb kX bX
     go_wp2_with (first | (with_reducible refine lG (.tmp 3) G3.out ?_) | (with_reducible refine lG (.tmp 5) G5.out ?_) | (with_reducible refine lG (.tmp 7) G7.out ?_) | ((with_reducible refine loadCl ?_ ?_ C1.out ?_); exact ⟨_, rfl, rfl⟩; rfl) | ((with_reducible refine loadCl ?_ ?_ D0.out ?_); exact ⟨_, rfl, rfl⟩; rfl))
     with_reducible refine (AD2.out _ _ _ k13.out kO.out HT.out).mono ?_
     rintro e w14 ⟨qs, rfl, ks, hb⟩
     replace HW := kW HW hb
     replace HT := kT HT hb
     replace R0 := kB R0 hb
     replace G3 := kB G3 hb
     replace kO := kH kO hb
     replace km := kH km hb
     replace kn := kH kn hb
     replace ke := kH ke hb
     replace G5 := kB G5 hb
     replace k13 := kH k13 hb
     replace G7 := kB G7 hb
     replace C1 := hI (C1.out.keep hb)
     replace D0 := hI (D0.out.keep hb)
     clear hb
     replace ks := hI ks
     have T := hI (Bx1.new w14 #[.int .i64 0, .string ⟨#[]⟩, .string ⟨#[]⟩, .string ⟨#[]⟩, .string ⟨#[]⟩, .string ⟨#[]⟩, .slice none 0 0])
     go_wp2_with (first | (with_reducible refine sB (.tmp 9) (.tmp 53) ks.out T.out.b0 ?_; have P := Pt1.new (w := w14) (o := so) (p := qs) (z := #[.int .i64 0, .string ⟨#[]⟩, .string ⟨#[]⟩, .string ⟨#[]⟩, .string ⟨#[]⟩, .string ⟨#[]⟩, .slice none 0 0]); generalize World.setRow (w14.alloc (.cells #[.int .i64 0, .string ⟨#[]⟩, .string ⟨#[]⟩, .string ⟨#[]⟩, .string ⟨#[]⟩, .string ⟨#[]⟩, .slice none 0 0] 35)) w14.heap.size (cellsO (so) qs).toArray = X14 at P ⊢; have hb := P.bel; replace HW := kW HW hb; replace HT := kT HT hb; replace R0 := kB R0 hb; replace G3 := kB G3 hb; replace kO := kH kO hb; replace km := kH km hb; replace kn := kH kn hb; replace ke := kH ke hb; replace G5 := kB G5 hb; replace k13 := kH k13 hb; replace G7 := kB G7 hb; replace ks := kH ks hb; replace C1 := hI (C1.out.keep hb); replace D0 := hI (D0.out.keep hb); have G9 := hI P.b0; clear P hb T) | ((with_reducible refine storeBO (w1 := X14) (g := g) (b := so) (p := qs) (.tmp 3) (.tmp 56) ?_ ?_ ?_ ?_ ks.out G3.out ?_); rfl; rfl; rfl; rfl) | (with_reducible refine lG (.tmp 3) G3.out ?_) | (with_reducible refine lG (.tmp 5) G5.out ?_) | (with_reducible refine lG (.tmp 7) G7.out ?_) | (with_reducible refine lG (.tmp 9) G9.out ?_) | ((with_reducible refine loadCl ?_ ?_ C1.out ?_); exact ⟨_, rfl, rfl⟩; rfl) | ((with_reducible refine loadCl ?_ ?_ D0.out ?_); exact ⟨_, rfl, rfl⟩; rfl))
     go_roundw
     case rel =>
      have hlt := G3.out.lt
      have hbg : Below g X14 (World.setRow X14 g (cellsO so qs).toArray) := below_setRowO (Below.refl _ _) (Nat.le_refl _) _
      exact ⟨ix, (ix : Int) - 1, by omega, rfl, rfl, by show MdW _ _ _ _ _; unfold MdW; rw [← STO.out]; exact ⟨HW.out.trans (hbg.mono (by omega)), C1.out.below hbg (by omega), R0.out.below hbg (by omega), qs, Bx.set G3.out, ks.out.box G3.out (by rw [List.size_toArray, cellsO_length]) _⟩⟩
     case measure => simp [intOf] <;> omega
  · obtain rfl : j = 0 := by omega
    have hz0 : z < 0 := by omega
    rw [List.drop_zero] at G3 kO
    go_wp2_with (first | (with_reducible refine sB (.tmp 2) (.tmp 57) kO.out R0.out ?_) | (with_reducible refine lG (.tmp 3) G3.out ?_))
    exact retHs rfl rfl R0.out rfl kO.out (by omega) HW.out
theorem madeO : ∀ (r : Sd) (cs : List Value) (w : World) (S : Nat → Prop), r.ok → r.cnt ≤ 100 → In S w → SdAt w S r cs → Tab w → Calls Tryz.prog 9 #[.agg cs.toArray] w (RetH w (madeE r).ob) := by
 intro r
 induction r using Sd.ind with
 | h n l ih =>
  intro cs w S hok hcn hS h ht
  have hcnt : (Sd.mk n l).cnt = 1 + Sd.cnts l := by unfold Sd.cnt; rfl
  rw [hcnt] at hcn
  unfold Sd.ok at hok
  unfold SdAt at h
  obtain ⟨A, c, rfl, hn, hc, hc', hA⟩ := h
  have e : madeE (.mk n l) = madesE l (.fin (n % 5).toNat) := by rw [madeE]
  rw [e]
  exact madeCore n l A c l.length (n % 5).toNat w S hS rfl hc hok.1 (by omega) hok.2 (by omega) hA ht (fun X => modT n 5 X hn (by omega) (by omega))
   (fun r hr cs w hS h ht => ih r hr cs w S (Sd.oks_mem hok.2 hr) (by have := Sd.cnt_mem hr; omega) hS h ht)
theorem madeFew {l : List Sd} {r : Sd} (hf : fewSd l = true) (hr : r ∈ l) : (madeE r).sm 45 3 84 := by
 have h := fewSd_mem hf hr
 exact (madeE_sm r h.1).more (by omega) (Nat.le_refl _) (by omega)
def RetPS (w : World) (S : Nat → Prop) (o0 o1 o2 : Ob) (e : Ending) (w' : World) : Prop :=
 ∃ p0 p1 p2, e = .returned (.tuple #[vO o0 p0, vO o1 p1, vO o2 p2]) ∧ Pair w' S o0 p0 ∧ Pair w' S o1 p1 ∧ Pair w' S o2 p2 ∧ Below w.heap.size w w'
theorem retPS {fn : Func} {r0 r1 r2 : Tmp} {tmps : Array Value} {w0 w : World} {S : Nat → Prop} {g0 g1 g2 : Nat} {o0 o1 o2 : Ob} {p0 p1 p2 : Value} (h : fn.results = #[.cell r0 35, .cell r1 35, .cell r2 35])
 (h0 : tmps.getD r0 undef = .pointer (some ⟨g0, 0, none⟩)) (h1 : tmps.getD r1 undef = .pointer (some ⟨g1, 0, none⟩)) (h2 : tmps.getD r2 undef = .pointer (some ⟨g2, 0, none⟩))
 (b0 : Bx w g0 (cellsO o0 p0).toArray) (b1 : Bx w g1 (cellsO o1 p1).toArray) (b2 : Bx w g2 (cellsO o2 p2).toArray)
 (k0 : Pair w S o0 p0) (k1 : Pair w S o1 p1) (k2 : Pair w S o2 p2) (hb : Below w0.heap.size w0 w) : bodyPost Tryz.prog fn (RetPS w0 S o0 o1 o2) Exit.ret ⟨tmps, []⟩ w :=
 bodyPost_ret (results_ccc h tmps w g0 g1 g2 _ _ _ h0 h1 h2 b0 b1 b2 (by rw [List.size_toArray, cellsO_length]) (by rw [List.size_toArray, cellsO_length]) (by rw [List.size_toArray, cellsO_length])) rfl ⟨p0, p1, p2, rfl, k0, k1, k2, hb⟩
theorem partsS (e c r : Ob) (p : Value) (w : World) (S : Nat → Prop) (hS : ∀ b, S b → b < w.heap.size) (h : Pair w S (.cons (.cons e c) r) p) :
 Calls Tryz.prog 55 #[vO (.cons (.cons e c) r) p] w (RetPS w S e c r) := by
 obtain ⟨b, o, cp, pa, pd, rfl, hc, hA, hD⟩ := Pair.parts h
 obtain ⟨b', o', cp', pe, pc, rfl, hc', hE, hC⟩ := Pair.parts hA.2.2
 have hb : b < w.heap.size := hS _ hD.1.1
 have hb' : b' < w.heap.size := hS _ hE.1.1
 have HS := hI hS
 have F : Hid (∀ w, Calls Tryz.prog 54 #[vO (.cons (.cons e c) r) (.slice (some ⟨b, o, none⟩) 2 cp)] w (RetB w false)) := fun w => isFinRaw 4 ⟨#[]⟩ ⟨#[]⟩ ⟨#[]⟩ ⟨#[]⟩ ⟨#[]⟩ _ w
 have T := Bx4.new w (cellsO (.cons (.cons e c) r) (.slice (some ⟨b, o, none⟩) 2 cp)).toArray zeroC zeroC zeroC
 unfold zeroC at T
 change Calls _ _ #[.agg (cellsO (.cons (.cons e c) r) (.slice (some ⟨b, o, none⟩) 2 cp)).toArray] _ _
 unfold cellsO e0 at T ⊢
 go_enter Tryz.func55, Tryz.ntmps55
 go_wp2_with fail
 generalize (((w.alloc (.cells #[.int .i64 4, .string ⟨#[]⟩, .string ⟨#[]⟩, .string ⟨#[]⟩, .string ⟨#[]⟩, .string ⟨#[]⟩, .slice (some ⟨b, o, none⟩) 2 cp] 35)).alloc (.cells #[.int .i64 0, .string ⟨#[]⟩, .string ⟨#[]⟩, .string ⟨#[]⟩, .string ⟨#[]⟩, .string ⟨#[]⟩, .slice none 0 0] 35)).alloc (.cells #[.int .i64 0, .string ⟨#[]⟩, .string ⟨#[]⟩, .string ⟨#[]⟩, .string ⟨#[]⟩, .string ⟨#[]⟩, .slice none 0 0] 35)).alloc (.cells #[.int .i64 0, .string ⟨#[]⟩, .string ⟨#[]⟩, .string ⟨#[]⟩, .string ⟨#[]⟩, .string ⟨#[]⟩, .slice none 0 0] 35) = W at T ⊢
 obtain ⟨c0, c1, c2, c3, c4, c5, c6⟩ := T.b0.c
 have HT := hI T
 have HE := hI hE
 have HC := hI hC
 have HD := hI hD
 have HA := hI hA.last
 clear T hE hC hD hA
 go_wp2_with fail
 refine (F.out _).mono ?_
 rintro e1 w1 ⟨rfl, hb1⟩
 have hB := chain2 HT.out.bel hb1 (Nat.le_refl _)
 have HB := hI hB
 have xA := HE.out.below (B := w.heap.size) HS.out hB
 have xP := xA.2.2.hd (fun b hb => Nat.lt_of_lt_of_le (HS.out b hb) hB.size)
 obtain ⟨x0, x1, x2, x3, x4, x5, ee', i0, i1, i2, i3, i4, i5, i6⟩ := xA.cells
 obtain ⟨x6, x7, x8, x9, x10, x11, x12, x13, x14, ee, rfl⟩ := cells_open xP
 rw [ee] at ee'
 simp only [List.cons.injEq, and_true] at ee'
 obtain ⟨rfl, rfl, rfl, rfl, rfl, rfl⟩ := ee'
 have yA := HC.out.below (B := w.heap.size) HS.out hB
 have yP := yA.2.2.hd (fun b hb => Nat.lt_of_lt_of_le (HS.out b hb) hB.size)
 obtain ⟨y0, y1, y2, y3, y4, y5, ec', j0, j1, j2, j3, j4, j5, j6⟩ := yA.cells
 obtain ⟨y6, y7, y8, y9, y10, y11, y12, y13, y14, ec, rfl⟩ := cells_open yP
 rw [ec] at ec'
 simp only [List.cons.injEq, and_true] at ec'
 obtain ⟨rfl, rfl, rfl, rfl, rfl, rfl⟩ := ec'
 have zA := HD.out.below (B := w.heap.size) HS.out hB
 have zP := zA.2.2.hd (fun b hb => Nat.lt_of_lt_of_le (HS.out b hb) hB.size)
 obtain ⟨z0, z1, z2, z3, z4, z5, er', k0, k1, k2, k3, k4, k5, k6⟩ := zA.cells
 obtain ⟨z6, z7, z8, z9, z10, z11, z12, z13, z14, er, rfl⟩ := cells_open zP
 rw [er] at er'
 simp only [List.cons.injEq, and_true] at er'
 obtain ⟨rfl, rfl, rfl, rfl, rfl, rfl⟩ := er'
 have l6 : w1.cell? ⟨b, o + 6, none⟩ = some (.slice (some ⟨b', o', none⟩) 2 cp') := (hB.cell (p := ⟨b, o + 6, none⟩) hb).trans HA.out
 obtain ⟨_, _, _, _, _, _, d6⟩ := (HT.out.b0.keep hb1).c
 have g1 := hI (HT.out.b1.keep hb1)
 have g2 := hI (HT.out.b2.keep hb1)
 have g3 := hI (HT.out.b3.keep hb1)
 have n1 : ¬ b = w.heap.size + 1 := by omega
 obtain ⟨⟨m0, m1, m2, m3, m4, m5, m6⟩, m7⟩ := row7 (w := w1) g1.out
 have mf0 := m7 0
 have mf1 := m7 1
 have mf2 := m7 2
 have mf3 := m7 3
 have mf4 := m7 4
 have mf5 := m7 5
 have mf6 := m7 6
 clear m7
 obtain ⟨⟨md0, md1, md2, md3, md4, md5, md6⟩, m7⟩ := row7 (w := w1.drew) g1.out
 have mfd0 := m7 0
 have mfd1 := m7 1
 have mfd2 := m7 2
 have mfd3 := m7 3
 have mfd4 := m7 4
 have mfd5 := m7 5
 have mfd6 := m7 6
 clear m7
 obtain ⟨⟨q0, q1, q2, q3, q4, q5, q6⟩, q7⟩ := row7 (w := w1) g2.out
 have qf0 := q7 0
 have qf1 := q7 1
 have qf2 := q7 2
 have qf3 := q7 3
 have qf4 := q7 4
 have qf5 := q7 5
 have qf6 := q7 6
 clear q7
 obtain ⟨⟨qd0, qd1, qd2, qd3, qd4, qd5, qd6⟩, q7⟩ := row7 (w := w1.drew) g2.out
 have qfd0 := q7 0
 have qfd1 := q7 1
 have qfd2 := q7 2
 have qfd3 := q7 3
 have qfd4 := q7 4
 have qfd5 := q7 5
 have qfd6 := q7 6
 clear q7
 obtain ⟨⟨t0, t1, t2, t3, t4, t5, t6⟩, t7⟩ := row7 (w := w1) g3.out
 have tf0 := t7 0
 have tf1 := t7 1
 have tf2 := t7 2
 have tf3 := t7 3
 have tf4 := t7 4
 have tf5 := t7 5
 have tf6 := t7 6
 clear t7
 obtain ⟨⟨td0, td1, td2, td3, td4, td5, td6⟩, t7⟩ := row7 (w := w1.drew) g3.out
 have tfd0 := t7 0
 have tfd1 := t7 1
 have tfd2 := t7 2
 have tfd3 := t7 3
 have tfd4 := t7 4
 have tfd5 := t7 5
 have tfd6 := t7 6
 clear t7
 clear hb1 hB c0 c1 c2 c3 c4 c5 c6
 go_wp2_with fail
 go_region
 go_wp2_with fail
 rw [setRow7 (show w1.heap[w.heap.size + 1]? = some _ from g1.out) rfl]
 rw [setRow7 (show (w1.setRow _ _).heap[w.heap.size + 1 + 1]? = some _ from g2.out.other (by omega)) rfl]
 rw [setRow7 (show ((w1.setRow _ _).setRow _ _).heap[w.heap.size + 1 + 1 + 1]? = some _ from (g3.out.other (by omega)).other (by omega)) rfl]
 have hX : Below w.heap.size w1 (((w1.setRow (w.heap.size + 1) #[.int .i64 x6, .string x7, .string x8, .string x9, .string x10, .string x11, .slice x12 x13 x14]).setRow (w.heap.size + 1 + 1) #[.int .i64 y6, .string y7, .string y8, .string y9, .string y10, .string y11, .slice y12 y13 y14]).setRow (w.heap.size + 1 + 1 + 1) #[.int .i64 z6, .string z7, .string z8, .string z9, .string z10, .string z11, .slice z12 z13 z14]) :=
  below_setRowO (below_setRowO (below_setRowO (Below.refl _ _) (by omega) _) (by omega) _) (by omega) _
 have hY := hI (HB.out.trans hX)
 clear hX
 exact retPS (o0 := e) (o1 := c) (o2 := r) rfl rfl rfl rfl (g0 := w.heap.size + 1) (g1 := w.heap.size + 1 + 1) (g2 := w.heap.size + 1 + 1 + 1)
  (p0 := .slice x12 x13 x14) (p1 := .slice y12 y13 y14) (p2 := .slice z12 z13 z14)
  (by rw [ee]; exact (g1.out.set.other (by omega)).other (by omega)) (by rw [ec]; exact ((g2.out.other (by omega)).set).other (by omega)) (by rw [er]; exact ((g3.out.other (by omega)).other (by omega)).set)
  (HE.out.2.2.below HS.out hY.out.drew) (HC.out.2.2.below HS.out hY.out.drew) (HD.out.2.2.below HS.out hY.out.drew) hY.out.drew
end Go.Proofs.YtocbedijpomemaaGreatDoor
