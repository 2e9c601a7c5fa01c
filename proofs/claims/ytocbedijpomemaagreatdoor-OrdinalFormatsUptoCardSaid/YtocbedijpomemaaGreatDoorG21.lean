/- The program's sum, Add. -/
import Derived.Test.YtocbedijpomemaaGreatDoorG19
import Derived.Test.YtocbedijpomemaaGreatDoorG20
import Derived.IntWalk
namespace Go.Proofs.YtocbedijpomemaaGreatDoor
open Go Go.RowKit
set_option linter.unusedVariables false
set_option maxHeartbeats 32000000
set_option maxRecDepth 100000
theorem sumH (x y : Rat) (p p' : Value) (w : World) (hx : Bd 90 x) (hy : Bd 90 y) (hp : Hd w (.num x) p) (hp' : Hd w (.num y) p') (ht : Tab w) :
 Calls Tryz.prog 67 #[vO (.num x) p, vO (.num y) p'] w (RetH w (.num (x + y))) :=
 (sumP 90 (by decide) (.num x) (.num y) p p' w (Has w) hp.pair hp'.pair hx hy ht).mono fun _ _ h => h.h
theorem sumZero (a b : Ob) (p p' : Value) (w : World) (hz : b.numIs 0 = true) (hp : Hd w a p) (hp' : Hd w b p') (ht : Tab w) :
 Calls Tryz.prog 44 #[vO a p, vO b p'] w (RetH w a) := by
 have HZ := hI hz
 clear hz
 obtain ⟨a0, a1, a2, a3, a4, a5, ea⟩ := cells7 (a) p
 obtain ⟨b0, b1, b2, b3, b4, b5, eb⟩ := cells7 (b) p'
 have T := Bx3.new w #[a0, a1, a2, a3, a4, a5, p] #[b0, b1, b2, b3, b4, b5, p'] #[.int .i64 0, .string ⟨#[]⟩, .string ⟨#[]⟩, .string ⟨#[]⟩, .string ⟨#[]⟩, .string ⟨#[]⟩, .slice none 0 0]
 rw [vO_cells ea, vO_cells eb]
 go_enter Tryz.func44, Tryz.ntmps44
 go_wp2_with fail
 generalize ((w.alloc (.cells #[a0, a1, a2, a3, a4, a5, p] 35)).alloc (.cells #[b0, b1, b2, b3, b4, b5, p'] 35)).alloc (.cells #[.int .i64 0, .string ⟨#[]⟩, .string ⟨#[]⟩, .string ⟨#[]⟩, .string ⟨#[]⟩, .string ⟨#[]⟩, .slice none 0 0] 35) = W at T ⊢
 have B0 : Hid (Bx W (w.heap.size) (cellsO (a) p).toArray) := by rw [ea]; exact T.b0
 have K0 := hI (hp.below T.bel)
 have B1 : Hid (Bx W (w.heap.size + 1) (cellsO (b) p').toArray) := by rw [eb]; exact T.b1
 have K1 := hI (hp'.below T.bel)
 have R0 := hI T.b2
 have HW := hI T.bel
 have HT := hI (ht.below T.bel)
 try rw [← vO_cells ea]
 try rw [← vO_cells eb]
 clear T ea eb hp hp' ht
 with_reducible refine (isZeroH b p' _ true HZ.out).mono ?_
 rintro e w1 ⟨rfl, hb⟩
 replace B0 := kB B0 hb
 replace K0 := kH K0 hb
 replace B1 := kB B1 hb
 replace K1 := kH K1 hb
 replace R0 := kB R0 hb
 replace HW := kW HW hb
 replace HT := kT HT hb
 clear hb
 go_wp2_with (first | (with_reducible refine sB (.tmp 4) (.tmp 14) K0.out R0.out ?_) | (with_reducible refine lG (.tmp 2) B0.out ?_) | (with_reducible refine lG (.tmp 3) B1.out ?_))
 exact retHs rfl rfl R0.out rfl K0.out (by omega) HW.out
theorem sumLt (a b : Ob) (p p' : Value) (w : World) (hz : b.numIs 0 = false) (hp : Hd w a p) (hp' : Hd w b p') (ht : Tab w) (e c r e' c' r' : Ob) (pA : ∀ X, Hd X a p → Tab X → Calls Tryz.prog 55 #[vO a p] X (RetP X e c r)) (pB : ∀ X, Hd X b p' → Tab X → Calls Tryz.prog 55 #[vO b p'] X (RetP X e' c' r')) (k : Int)
 (cM : ∀ X q t, Hd X e q → Hd X e' t → Tab X → Calls Tryz.prog 46 #[vO e q, vO e' t] X (RetI X k)) (hk : k < 0) :
 Calls Tryz.prog 44 #[vO a p, vO b p'] w (RetH w b) := by
 have HK := hI hk
 clear hk
 have PA := hI pA
 have PB := hI pB
 have CM := hI cM
 clear pA pB cM
 have HZ := hI hz
 clear hz
 obtain ⟨a0, a1, a2, a3, a4, a5, ea⟩ := cells7 (a) p
 obtain ⟨b0, b1, b2, b3, b4, b5, eb⟩ := cells7 (b) p'
 have T := Bx3.new w #[a0, a1, a2, a3, a4, a5, p] #[b0, b1, b2, b3, b4, b5, p'] #[.int .i64 0, .string ⟨#[]⟩, .string ⟨#[]⟩, .string ⟨#[]⟩, .string ⟨#[]⟩, .string ⟨#[]⟩, .slice none 0 0]
 rw [vO_cells ea, vO_cells eb]
 go_enter Tryz.func44, Tryz.ntmps44
 go_wp2_with fail
 generalize ((w.alloc (.cells #[a0, a1, a2, a3, a4, a5, p] 35)).alloc (.cells #[b0, b1, b2, b3, b4, b5, p'] 35)).alloc (.cells #[.int .i64 0, .string ⟨#[]⟩, .string ⟨#[]⟩, .string ⟨#[]⟩, .string ⟨#[]⟩, .string ⟨#[]⟩, .slice none 0 0] 35) = W at T ⊢
 have B0 : Hid (Bx W (w.heap.size) (cellsO (a) p).toArray) := by rw [ea]; exact T.b0
 have K0 := hI (hp.below T.bel)
 have B1 : Hid (Bx W (w.heap.size + 1) (cellsO (b) p').toArray) := by rw [eb]; exact T.b1
 have K1 := hI (hp'.below T.bel)
 have R0 := hI T.b2
 have HW := hI T.bel
 have HT := hI (ht.below T.bel)
 try rw [← vO_cells ea]
 try rw [← vO_cells eb]
 clear T ea eb hp hp' ht
 with_reducible refine (isZeroH b p' _ false HZ.out).mono ?_
 rintro e w1 ⟨rfl, hb⟩
 replace B0 := kB B0 hb
 replace K0 := kH K0 hb
 replace B1 := kB B1 hb
 replace K1 := kH K1 hb
 replace R0 := kB R0 hb
 replace HW := kW HW hb
 replace HT := kT HT hb
 clear hb
 go_wp2_with (first | (with_reducible refine lG (.tmp 2) B0.out ?_) | (with_reducible refine lG (.tmp 3) B1.out ?_))
 with_reducible refine (PA.out _ K0.out HT.out).mono ?_
 rintro e w2 ⟨q0, q1, q2, rfl, k0, k1, k2, hb⟩
 replace B0 := kB B0 hb
 replace K0 := kH K0 hb
 replace B1 := kB B1 hb
 replace K1 := kH K1 hb
 replace R0 := kB R0 hb
 replace HW := kW HW hb
 replace HT := kT HT hb
 clear hb
 replace k0 := hI k0
 replace k1 := hI k1
 replace k2 := hI k2
 have T := hI (Bx3.new w2 #[.int .i64 0, .string ⟨#[]⟩, .string ⟨#[]⟩, .string ⟨#[]⟩, .string ⟨#[]⟩, .string ⟨#[]⟩, .slice none 0 0] #[.int .i64 0, .string ⟨#[]⟩, .string ⟨#[]⟩, .string ⟨#[]⟩, .string ⟨#[]⟩, .string ⟨#[]⟩, .slice none 0 0] #[.int .i64 0, .string ⟨#[]⟩, .string ⟨#[]⟩, .string ⟨#[]⟩, .string ⟨#[]⟩, .string ⟨#[]⟩, .slice none 0 0])
 try unfold zeroC at T
 go_wp2_with (first | (with_reducible refine sB (.tmp 5) (.tmp 18) k0.out T.out.b0 ?_) | (with_reducible refine sB (.tmp 6) (.tmp 19) k1.out T.out.n1 ?_) | (with_reducible refine sB (.tmp 7) (.tmp 20) k2.out T.out.n2 ?_; have P := Pt3.new (w := w2) (o0 := e) (o1 := c) (o2 := r) (p0 := q0) (p1 := q1) (p2 := q2) (z0 := #[.int .i64 0, .string ⟨#[]⟩, .string ⟨#[]⟩, .string ⟨#[]⟩, .string ⟨#[]⟩, .string ⟨#[]⟩, .slice none 0 0]) (z1 := #[.int .i64 0, .string ⟨#[]⟩, .string ⟨#[]⟩, .string ⟨#[]⟩, .string ⟨#[]⟩, .string ⟨#[]⟩, .slice none 0 0]) (z2 := #[.int .i64 0, .string ⟨#[]⟩, .string ⟨#[]⟩, .string ⟨#[]⟩, .string ⟨#[]⟩, .string ⟨#[]⟩, .slice none 0 0]); generalize World.setRow (World.setRow (World.setRow (((w2.alloc (.cells #[.int .i64 0, .string ⟨#[]⟩, .string ⟨#[]⟩, .string ⟨#[]⟩, .string ⟨#[]⟩, .string ⟨#[]⟩, .slice none 0 0] 35)).alloc (.cells #[.int .i64 0, .string ⟨#[]⟩, .string ⟨#[]⟩, .string ⟨#[]⟩, .string ⟨#[]⟩, .string ⟨#[]⟩, .slice none 0 0] 35)).alloc (.cells #[.int .i64 0, .string ⟨#[]⟩, .string ⟨#[]⟩, .string ⟨#[]⟩, .string ⟨#[]⟩, .string ⟨#[]⟩, .slice none 0 0] 35)) (w2.heap.size) (cellsO (e) q0).toArray) (w2.heap.size + 1) (cellsO (c) q1).toArray) (w2.heap.size + 1 + 1) (cellsO (r) q2).toArray = X2 at P ⊢; have hb := P.bel; replace B0 := kB B0 hb; replace K0 := kH K0 hb; replace B1 := kB B1 hb; replace K1 := kH K1 hb; replace R0 := kB R0 hb; replace HW := kW HW hb; replace HT := kT HT hb; replace k0 := kH k0 hb; replace k1 := kH k1 hb; replace k2 := kH k2 hb; have D0 := hI P.b0; have D1 := hI P.b1; have D2 := hI P.b2; clear P hb T) | (with_reducible refine lG (.tmp 2) B0.out ?_) | (with_reducible refine lG (.tmp 3) B1.out ?_) | (with_reducible refine lG (.tmp 5) D0.out ?_) | (with_reducible refine lG (.tmp 6) D1.out ?_) | (with_reducible refine lG (.tmp 7) D2.out ?_))
 with_reducible refine (PB.out _ K1.out HT.out).mono ?_
 rintro e w3 ⟨t0, t1, t2, rfl, l0, l1, l2, hb⟩
 replace B0 := kB B0 hb
 replace K0 := kH K0 hb
 replace B1 := kB B1 hb
 replace K1 := kH K1 hb
 replace R0 := kB R0 hb
 replace HW := kW HW hb
 replace HT := kT HT hb
 replace k0 := kH k0 hb
 replace k1 := kH k1 hb
 replace k2 := kH k2 hb
 replace D0 := kB D0 hb
 replace D1 := kB D1 hb
 replace D2 := kB D2 hb
 clear hb
 replace l0 := hI l0
 replace l1 := hI l1
 replace l2 := hI l2
 have T := hI (Bx3.new w3 #[.int .i64 0, .string ⟨#[]⟩, .string ⟨#[]⟩, .string ⟨#[]⟩, .string ⟨#[]⟩, .string ⟨#[]⟩, .slice none 0 0] #[.int .i64 0, .string ⟨#[]⟩, .string ⟨#[]⟩, .string ⟨#[]⟩, .string ⟨#[]⟩, .string ⟨#[]⟩, .slice none 0 0] #[.int .i64 0, .string ⟨#[]⟩, .string ⟨#[]⟩, .string ⟨#[]⟩, .string ⟨#[]⟩, .string ⟨#[]⟩, .slice none 0 0])
 try unfold zeroC at T
 go_wp2_with (first | (with_reducible refine sB (.tmp 8) (.tmp 24) l0.out T.out.b0 ?_) | (with_reducible refine sB (.tmp 9) (.tmp 25) l1.out T.out.n1 ?_) | (with_reducible refine sB (.tmp 10) (.tmp 26) l2.out T.out.n2 ?_; have P := Pt3.new (w := w3) (o0 := e') (o1 := c') (o2 := r') (p0 := t0) (p1 := t1) (p2 := t2) (z0 := #[.int .i64 0, .string ⟨#[]⟩, .string ⟨#[]⟩, .string ⟨#[]⟩, .string ⟨#[]⟩, .string ⟨#[]⟩, .slice none 0 0]) (z1 := #[.int .i64 0, .string ⟨#[]⟩, .string ⟨#[]⟩, .string ⟨#[]⟩, .string ⟨#[]⟩, .string ⟨#[]⟩, .slice none 0 0]) (z2 := #[.int .i64 0, .string ⟨#[]⟩, .string ⟨#[]⟩, .string ⟨#[]⟩, .string ⟨#[]⟩, .string ⟨#[]⟩, .slice none 0 0]); generalize World.setRow (World.setRow (World.setRow (((w3.alloc (.cells #[.int .i64 0, .string ⟨#[]⟩, .string ⟨#[]⟩, .string ⟨#[]⟩, .string ⟨#[]⟩, .string ⟨#[]⟩, .slice none 0 0] 35)).alloc (.cells #[.int .i64 0, .string ⟨#[]⟩, .string ⟨#[]⟩, .string ⟨#[]⟩, .string ⟨#[]⟩, .string ⟨#[]⟩, .slice none 0 0] 35)).alloc (.cells #[.int .i64 0, .string ⟨#[]⟩, .string ⟨#[]⟩, .string ⟨#[]⟩, .string ⟨#[]⟩, .string ⟨#[]⟩, .slice none 0 0] 35)) (w3.heap.size) (cellsO (e') t0).toArray) (w3.heap.size + 1) (cellsO (c') t1).toArray) (w3.heap.size + 1 + 1) (cellsO (r') t2).toArray = X3 at P ⊢; have hb := P.bel; replace B0 := kB B0 hb; replace K0 := kH K0 hb; replace B1 := kB B1 hb; replace K1 := kH K1 hb; replace R0 := kB R0 hb; replace HW := kW HW hb; replace HT := kT HT hb; replace k0 := kH k0 hb; replace k1 := kH k1 hb; replace k2 := kH k2 hb; replace D0 := kB D0 hb; replace D1 := kB D1 hb; replace D2 := kB D2 hb; replace l0 := kH l0 hb; replace l1 := kH l1 hb; replace l2 := kH l2 hb; have E0 := hI P.b0; have E1 := hI P.b1; have E2 := hI P.b2; clear P hb T) | (with_reducible refine lG (.tmp 2) B0.out ?_) | (with_reducible refine lG (.tmp 3) B1.out ?_) | (with_reducible refine lG (.tmp 5) D0.out ?_) | (with_reducible refine lG (.tmp 6) D1.out ?_) | (with_reducible refine lG (.tmp 7) D2.out ?_) | (with_reducible refine lG (.tmp 8) E0.out ?_) | (with_reducible refine lG (.tmp 9) E1.out ?_) | (with_reducible refine lG (.tmp 10) E2.out ?_))
 with_reducible refine (CM.out _ q0 t0 k0.out l0.out HT.out).mono ?_
 rintro e w4 ⟨rfl, hb⟩
 replace B0 := kB B0 hb
 replace K0 := kH K0 hb
 replace B1 := kB B1 hb
 replace K1 := kH K1 hb
 replace R0 := kB R0 hb
 replace HW := kW HW hb
 replace HT := kT HT hb
 replace k0 := kH k0 hb
 replace k1 := kH k1 hb
 replace k2 := kH k2 hb
 replace D0 := kB D0 hb
 replace D1 := kB D1 hb
 replace D2 := kB D2 hb
 replace l0 := kH l0 hb
 replace l1 := kH l1 hb
 replace l2 := kH l2 hb
 replace E0 := hI (E0.out.keep hb)
 replace E1 := hI (E1.out.keep hb)
 replace E2 := hI (E2.out.keep hb)
 clear hb
 have hk0 : k < 0 := HK.out
 go_wp2_with (first | (with_reducible refine sB (.tmp 4) (.tmp 33) K1.out R0.out ?_) | (with_reducible refine lG (.tmp 2) B0.out ?_) | (with_reducible refine lG (.tmp 3) B1.out ?_) | (with_reducible refine lG (.tmp 5) D0.out ?_) | (with_reducible refine lG (.tmp 6) D1.out ?_) | (with_reducible refine lG (.tmp 7) D2.out ?_) | (with_reducible refine lG (.tmp 8) E0.out ?_) | (with_reducible refine lG (.tmp 9) E1.out ?_) | (with_reducible refine lG (.tmp 10) E2.out ?_))
 exact retHs rfl rfl R0.out rfl K1.out (by omega) HW.out
theorem sumGt (a b : Ob) (p p' : Value) (w : World) (hz : b.numIs 0 = false) (hp : Hd w a p) (hp' : Hd w b p') (ht : Tab w) (e c r e' c' r' : Ob) (pA : ∀ X, Hd X a p → Tab X → Calls Tryz.prog 55 #[vO a p] X (RetP X e c r)) (pB : ∀ X, Hd X b p' → Tab X → Calls Tryz.prog 55 #[vO b p'] X (RetP X e' c' r')) (k : Int)
 (cM : ∀ X q t, Hd X e q → Hd X e' t → Tab X → Calls Tryz.prog 46 #[vO e q, vO e' t] X (RetI X k)) (hk : 0 < k) (s : Ob)
 (iH : ∀ X q t, Hd X r q → Hd X b t → Tab X → Calls Tryz.prog 44 #[vO r q, vO b t] X (RetH X s)) :
 Calls Tryz.prog 44 #[vO a p, vO b p'] w (RetH w (.cons (.cons e c) s)) := by
 have HK := hI hk
 clear hk
 have IH := hI iH
 clear iH
 have PA := hI pA
 have PB := hI pB
 have CM := hI cM
 clear pA pB cM
 have HZ := hI hz
 clear hz
 obtain ⟨a0, a1, a2, a3, a4, a5, ea⟩ := cells7 (a) p
 obtain ⟨b0, b1, b2, b3, b4, b5, eb⟩ := cells7 (b) p'
 have T := Bx3.new w #[a0, a1, a2, a3, a4, a5, p] #[b0, b1, b2, b3, b4, b5, p'] #[.int .i64 0, .string ⟨#[]⟩, .string ⟨#[]⟩, .string ⟨#[]⟩, .string ⟨#[]⟩, .string ⟨#[]⟩, .slice none 0 0]
 rw [vO_cells ea, vO_cells eb]
 go_enter Tryz.func44, Tryz.ntmps44
 go_wp2_with fail
 generalize ((w.alloc (.cells #[a0, a1, a2, a3, a4, a5, p] 35)).alloc (.cells #[b0, b1, b2, b3, b4, b5, p'] 35)).alloc (.cells #[.int .i64 0, .string ⟨#[]⟩, .string ⟨#[]⟩, .string ⟨#[]⟩, .string ⟨#[]⟩, .string ⟨#[]⟩, .slice none 0 0] 35) = W at T ⊢
 have B0 : Hid (Bx W (w.heap.size) (cellsO (a) p).toArray) := by rw [ea]; exact T.b0
 have K0 := hI (hp.below T.bel)
 have B1 : Hid (Bx W (w.heap.size + 1) (cellsO (b) p').toArray) := by rw [eb]; exact T.b1
 have K1 := hI (hp'.below T.bel)
 have R0 := hI T.b2
 have HW := hI T.bel
 have HT := hI (ht.below T.bel)
 try rw [← vO_cells ea]
 try rw [← vO_cells eb]
 clear T ea eb hp hp' ht
 with_reducible refine (isZeroH b p' _ false HZ.out).mono ?_
 rintro e w1 ⟨rfl, hb⟩
 replace B0 := kB B0 hb
 replace K0 := kH K0 hb
 replace B1 := kB B1 hb
 replace K1 := kH K1 hb
 replace R0 := kB R0 hb
 replace HW := kW HW hb
 replace HT := kT HT hb
 clear hb
 go_wp2_with (first | (with_reducible refine lG (.tmp 2) B0.out ?_) | (with_reducible refine lG (.tmp 3) B1.out ?_))
 with_reducible refine (PA.out _ K0.out HT.out).mono ?_
 rintro e w2 ⟨q0, q1, q2, rfl, k0, k1, k2, hb⟩
 replace B0 := kB B0 hb
 replace K0 := kH K0 hb
 replace B1 := kB B1 hb
 replace K1 := kH K1 hb
 replace R0 := kB R0 hb
 replace HW := kW HW hb
 replace HT := kT HT hb
 clear hb
 replace k0 := hI k0
 replace k1 := hI k1
 replace k2 := hI k2
 have T := hI (Bx3.new w2 #[.int .i64 0, .string ⟨#[]⟩, .string ⟨#[]⟩, .string ⟨#[]⟩, .string ⟨#[]⟩, .string ⟨#[]⟩, .slice none 0 0] #[.int .i64 0, .string ⟨#[]⟩, .string ⟨#[]⟩, .string ⟨#[]⟩, .string ⟨#[]⟩, .string ⟨#[]⟩, .slice none 0 0] #[.int .i64 0, .string ⟨#[]⟩, .string ⟨#[]⟩, .string ⟨#[]⟩, .string ⟨#[]⟩, .string ⟨#[]⟩, .slice none 0 0])
 try unfold zeroC at T
 go_wp2_with (first | (with_reducible refine sB (.tmp 5) (.tmp 18) k0.out T.out.b0 ?_) | (with_reducible refine sB (.tmp 6) (.tmp 19) k1.out T.out.n1 ?_) | (with_reducible refine sB (.tmp 7) (.tmp 20) k2.out T.out.n2 ?_; have P := Pt3.new (w := w2) (o0 := e) (o1 := c) (o2 := r) (p0 := q0) (p1 := q1) (p2 := q2) (z0 := #[.int .i64 0, .string ⟨#[]⟩, .string ⟨#[]⟩, .string ⟨#[]⟩, .string ⟨#[]⟩, .string ⟨#[]⟩, .slice none 0 0]) (z1 := #[.int .i64 0, .string ⟨#[]⟩, .string ⟨#[]⟩, .string ⟨#[]⟩, .string ⟨#[]⟩, .string ⟨#[]⟩, .slice none 0 0]) (z2 := #[.int .i64 0, .string ⟨#[]⟩, .string ⟨#[]⟩, .string ⟨#[]⟩, .string ⟨#[]⟩, .string ⟨#[]⟩, .slice none 0 0]); generalize World.setRow (World.setRow (World.setRow (((w2.alloc (.cells #[.int .i64 0, .string ⟨#[]⟩, .string ⟨#[]⟩, .string ⟨#[]⟩, .string ⟨#[]⟩, .string ⟨#[]⟩, .slice none 0 0] 35)).alloc (.cells #[.int .i64 0, .string ⟨#[]⟩, .string ⟨#[]⟩, .string ⟨#[]⟩, .string ⟨#[]⟩, .string ⟨#[]⟩, .slice none 0 0] 35)).alloc (.cells #[.int .i64 0, .string ⟨#[]⟩, .string ⟨#[]⟩, .string ⟨#[]⟩, .string ⟨#[]⟩, .string ⟨#[]⟩, .slice none 0 0] 35)) (w2.heap.size) (cellsO (e) q0).toArray) (w2.heap.size + 1) (cellsO (c) q1).toArray) (w2.heap.size + 1 + 1) (cellsO (r) q2).toArray = X2 at P ⊢; have hb := P.bel; replace B0 := kB B0 hb; replace K0 := kH K0 hb; replace B1 := kB B1 hb; replace K1 := kH K1 hb; replace R0 := kB R0 hb; replace HW := kW HW hb; replace HT := kT HT hb; replace k0 := kH k0 hb; replace k1 := kH k1 hb; replace k2 := kH k2 hb; have D0 := hI P.b0; have D1 := hI P.b1; have D2 := hI P.b2; clear P hb T) | (with_reducible refine lG (.tmp 2) B0.out ?_) | (with_reducible refine lG (.tmp 3) B1.out ?_) | (with_reducible refine lG (.tmp 5) D0.out ?_) | (with_reducible refine lG (.tmp 6) D1.out ?_) | (with_reducible refine lG (.tmp 7) D2.out ?_))
 with_reducible refine (PB.out _ K1.out HT.out).mono ?_
 rintro e w3 ⟨t0, t1, t2, rfl, l0, l1, l2, hb⟩
 replace B0 := kB B0 hb
 replace K0 := kH K0 hb
 replace B1 := kB B1 hb
 replace K1 := kH K1 hb
 replace R0 := kB R0 hb
 replace HW := kW HW hb
 replace HT := kT HT hb
 replace k0 := kH k0 hb
 replace k1 := kH k1 hb
 replace k2 := kH k2 hb
 replace D0 := kB D0 hb
 replace D1 := kB D1 hb
 replace D2 := kB D2 hb
 clear hb
 replace l0 := hI l0
 replace l1 := hI l1
 replace l2 := hI l2
 have T := hI (Bx3.new w3 #[.int .i64 0, .string ⟨#[]⟩, .string ⟨#[]⟩, .string ⟨#[]⟩, .string ⟨#[]⟩, .string ⟨#[]⟩, .slice none 0 0] #[.int .i64 0, .string ⟨#[]⟩, .string ⟨#[]⟩, .string ⟨#[]⟩, .string ⟨#[]⟩, .string ⟨#[]⟩, .slice none 0 0] #[.int .i64 0, .string ⟨#[]⟩, .string ⟨#[]⟩, .string ⟨#[]⟩, .string ⟨#[]⟩, .string ⟨#[]⟩, .slice none 0 0])
 try unfold zeroC at T
 go_wp2_with (first | (with_reducible refine sB (.tmp 8) (.tmp 24) l0.out T.out.b0 ?_) | (with_reducible refine sB (.tmp 9) (.tmp 25) l1.out T.out.n1 ?_) | (with_reducible refine sB (.tmp 10) (.tmp 26) l2.out T.out.n2 ?_; have P := Pt3.new (w := w3) (o0 := e') (o1 := c') (o2 := r') (p0 := t0) (p1 := t1) (p2 := t2) (z0 := #[.int .i64 0, .string ⟨#[]⟩, .string ⟨#[]⟩, .string ⟨#[]⟩, .string ⟨#[]⟩, .string ⟨#[]⟩, .slice none 0 0]) (z1 := #[.int .i64 0, .string ⟨#[]⟩, .string ⟨#[]⟩, .string ⟨#[]⟩, .string ⟨#[]⟩, .string ⟨#[]⟩, .slice none 0 0]) (z2 := #[.int .i64 0, .string ⟨#[]⟩, .string ⟨#[]⟩, .string ⟨#[]⟩, .string ⟨#[]⟩, .string ⟨#[]⟩, .slice none 0 0]); generalize World.setRow (World.setRow (World.setRow (((w3.alloc (.cells #[.int .i64 0, .string ⟨#[]⟩, .string ⟨#[]⟩, .string ⟨#[]⟩, .string ⟨#[]⟩, .string ⟨#[]⟩, .slice none 0 0] 35)).alloc (.cells #[.int .i64 0, .string ⟨#[]⟩, .string ⟨#[]⟩, .string ⟨#[]⟩, .string ⟨#[]⟩, .string ⟨#[]⟩, .slice none 0 0] 35)).alloc (.cells #[.int .i64 0, .string ⟨#[]⟩, .string ⟨#[]⟩, .string ⟨#[]⟩, .string ⟨#[]⟩, .string ⟨#[]⟩, .slice none 0 0] 35)) (w3.heap.size) (cellsO (e') t0).toArray) (w3.heap.size + 1) (cellsO (c') t1).toArray) (w3.heap.size + 1 + 1) (cellsO (r') t2).toArray = X3 at P ⊢; have hb := P.bel; replace B0 := kB B0 hb; replace K0 := kH K0 hb; replace B1 := kB B1 hb; replace K1 := kH K1 hb; replace R0 := kB R0 hb; replace HW := kW HW hb; replace HT := kT HT hb; replace k0 := kH k0 hb; replace k1 := kH k1 hb; replace k2 := kH k2 hb; replace D0 := kB D0 hb; replace D1 := kB D1 hb; replace D2 := kB D2 hb; replace l0 := kH l0 hb; replace l1 := kH l1 hb; replace l2 := kH l2 hb; have E0 := hI P.b0; have E1 := hI P.b1; have E2 := hI P.b2; clear P hb T) | (with_reducible refine lG (.tmp 2) B0.out ?_) | (with_reducible refine lG (.tmp 3) B1.out ?_) | (with_reducible refine lG (.tmp 5) D0.out ?_) | (with_reducible refine lG (.tmp 6) D1.out ?_) | (with_reducible refine lG (.tmp 7) D2.out ?_) | (with_reducible refine lG (.tmp 8) E0.out ?_) | (with_reducible refine lG (.tmp 9) E1.out ?_) | (with_reducible refine lG (.tmp 10) E2.out ?_))
 with_reducible refine (CM.out _ q0 t0 k0.out l0.out HT.out).mono ?_
 rintro e w4 ⟨rfl, hb⟩
 replace B0 := kB B0 hb
 replace K0 := kH K0 hb
 replace B1 := kB B1 hb
 replace K1 := kH K1 hb
 replace R0 := kB R0 hb
 replace HW := kW HW hb
 replace HT := kT HT hb
 replace k0 := kH k0 hb
 replace k1 := kH k1 hb
 replace k2 := kH k2 hb
 replace D0 := kB D0 hb
 replace D1 := kB D1 hb
 replace D2 := kB D2 hb
 replace l0 := kH l0 hb
 replace l1 := kH l1 hb
 replace l2 := kH l2 hb
 replace E0 := hI (E0.out.keep hb)
 replace E1 := hI (E1.out.keep hb)
 replace E2 := hI (E2.out.keep hb)
 clear hb
 have hk0 : ¬ k < 0 := by have := HK.out; omega
 have hk1 : 0 < k := HK.out
 go_wp2_with (first | (with_reducible refine lG (.tmp 2) B0.out ?_) | (with_reducible refine lG (.tmp 3) B1.out ?_) | (with_reducible refine lG (.tmp 5) D0.out ?_) | (with_reducible refine lG (.tmp 6) D1.out ?_) | (with_reducible refine lG (.tmp 7) D2.out ?_) | (with_reducible refine lG (.tmp 8) E0.out ?_) | (with_reducible refine lG (.tmp 9) E1.out ?_) | (with_reducible refine lG (.tmp 10) E2.out ?_))
 refine wp_region_grow (l := _) 6 (by kernel_rfl) (by kernel_rfl) (fun i => [37, 38, 39, 40, 41, 42].getD i 0) (LR [LV (vO (e) q0), LV (vO (c) q1), LV (vO (r) q2), LV (vO (b) p'), LH (s), LH (.cons (.cons e c) s)]) (LR_mono ⟨mLV _, mLV _, mLV _, mLV _, mLH _, mLH _, trivial⟩) (by
  intro i j hi hj h
  exact inj_getD [37, 38, 39, 40, 41, 42] (by decide) i j hi hj h) (by
  intro i hi
  exact lt_getD 55 [37, 38, 39, 40, 41, 42] (by decide) i hi) ?step ?done
 case step =>
  intro i hi a w9 v lo hi' hoth hb hw
  have sl5 : a.tmps[5]? = some (.pointer (some ⟨w2.heap.size, 0, none⟩)) := (hoth 5 (fun j hj => ne_getD 5 _ (by decide) j hj)).trans rfl
  have sl6 : a.tmps[6]? = some (.pointer (some ⟨w2.heap.size + 1, 0, none⟩)) := (hoth 6 (fun j hj => ne_getD 6 _ (by decide) j hj)).trans rfl
  have sl7 : a.tmps[7]? = some (.pointer (some ⟨w2.heap.size + 1 + 1, 0, none⟩)) := (hoth 7 (fun j hj => ne_getD 7 _ (by decide) j hj)).trans rfl
  have sl3 : a.tmps[3]? = some (.pointer (some ⟨w.heap.size + 1, 0, none⟩)) := (hoth 3 (fun j hj => ne_getD 3 _ (by decide) j hj)).trans rfl
  match i, hi with
  | 0, _ =>
   exact gr_box rfl rfl (.tmp 5) rfl (eval_of sl5) (D0.out.keep hb) ⟨_, rfl, Below.refl _ _, rfl⟩
  | 1, _ =>
   exact gr_box rfl rfl (.tmp 6) rfl (eval_of sl6) (D1.out.keep hb) ⟨_, rfl, Below.refl _ _, rfl⟩
  | 2, _ =>
   exact gr_box rfl rfl (.tmp 7) rfl (eval_of sl7) (D2.out.keep hb) ⟨_, rfl, Below.refl _ _, rfl⟩
  | 3, _ =>
   exact gr_box rfl rfl (.tmp 3) rfl (eval_of sl3) (B1.out.keep hb) ⟨_, rfl, Below.refl _ _, rfl⟩
  | 4, _ =>
   obtain ⟨s0, r0, _⟩ := hw 2 (by omega) (by kernel_rfl)
   have e0 : v 2 = vO (r) q2 := r0
   rw [e0] at s0
   obtain ⟨s1, r1, _⟩ := hw 3 (by omega) (by kernel_rfl)
   have e1 : v 3 = vO (b) p' := r1
   rw [e1] at s1
   refine gr_tt rfl rfl 44 39 40 _ _ _ rfl (fun v u w => by go_simp) s0 s1 ?_
   refine (IH.out w9 q2 p' (k2.out.below hb) (K1.out.below hb) (HT.out.below hb)).mono ?_
   rintro e w3 ⟨p, rfl, hp, hb3⟩
   exact ⟨_, rfl, _, rfl, hb3, p, rfl, hp⟩
  | 5, _ =>
   obtain ⟨s0, r0, _⟩ := hw 0 (by omega) (by kernel_rfl)
   have e0 : v 0 = vO (e) q0 := r0
   rw [e0] at s0
   obtain ⟨s1, r1, _⟩ := hw 1 (by omega) (by kernel_rfl)
   have e1 : v 1 = vO (c) q1 := r1
   rw [e1] at s1
   obtain ⟨s2, r2, _⟩ := hw 4 (by omega) (by kernel_rfl)
   obtain ⟨q2, e2, k2⟩ : LH (s) (v 4) (lo 4) (hi' 4) w9 := r2
   rw [e2] at s2
   refine gr_ttt rfl rfl 42 37 38 41 _ _ _ _ rfl (fun v u x w => by go_simp) s0 s1 s2 ?_
   refine (powerP e c s q0 q1 q2 w9 (k0.out.below hb) (k1.out.below hb) k2).mono ?_
   rintro e w3 ⟨p, rfl, hp, hb3⟩
   exact ⟨_, rfl, _, rfl, hb3, p, rfl, hp⟩
 case done =>
  intro a w9 v lo hi' hdef hsz hoth hb hj hap
  obtain ⟨_, ⟨p5, hv5, k5⟩, hlo5, hhi5⟩ := hj 5 (by omega)
  have ha := eq_puts hdef hsz hoth (fun i hi => (hj i hi).1)
  subst ha
  clear hj hoth hdef hsz hap
  simp only [puts, List.getD_cons_zero, List.getD_cons_succ, hv5]
  generalize v 0 = v0
  generalize v 1 = v1
  generalize v 2 = v2
  generalize v 3 = v3
  generalize v 4 = v4
  clear hv5
  simp only [Act.put, List.setIfInBounds_toArray, List.set_cons_zero, List.set_cons_succ]
  show wpList _ _ _ [_] _ _
  replace B0 := kB B0 hb
  replace K0 := kH K0 hb
  replace B1 := kB B1 hb
  replace K1 := kH K1 hb
  replace R0 := kB R0 hb
  replace HW := kW HW hb
  replace HT := kT HT hb
  replace k0 := kH k0 hb
  replace k1 := kH k1 hb
  replace k2 := kH k2 hb
  replace D0 := kB D0 hb
  replace D1 := kB D1 hb
  replace D2 := kB D2 hb
  replace l0 := kH l0 hb
  replace l1 := kH l1 hb
  replace l2 := kH l2 hb
  replace E0 := hI (E0.out.keep hb)
  replace E1 := hI (E1.out.keep hb)
  replace E2 := hI (E2.out.keep hb)
  clear hb
  replace k5 := hI k5
  go_wp2_with (first | (with_reducible refine sB (.tmp 4) (.tmp 42) k5.out R0.out ?_) | (with_reducible refine lG (.tmp 2) B0.out ?_) | (with_reducible refine lG (.tmp 3) B1.out ?_) | (with_reducible refine lG (.tmp 5) D0.out ?_) | (with_reducible refine lG (.tmp 6) D1.out ?_) | (with_reducible refine lG (.tmp 7) D2.out ?_) | (with_reducible refine lG (.tmp 8) E0.out ?_) | (with_reducible refine lG (.tmp 9) E1.out ?_) | (with_reducible refine lG (.tmp 10) E2.out ?_))
  exact retHs rfl rfl R0.out rfl k5.out (by omega) HW.out
theorem sumFin (a b : Ob) (p p' : Value) (w : World) (hz : b.numIs 0 = false) (hp : Hd w a p) (hp' : Hd w b p') (ht : Tab w) (e c r e' c' r' : Ob) (pA : ∀ X, Hd X a p → Tab X → Calls Tryz.prog 55 #[vO a p] X (RetP X e c r)) (pB : ∀ X, Hd X b p' → Tab X → Calls Tryz.prog 55 #[vO b p'] X (RetP X e' c' r')) (k : Int)
 (cM : ∀ X q t, Hd X e q → Hd X e' t → Tab X → Calls Tryz.prog 46 #[vO e q, vO e' t] X (RetI X k)) (hk : k = 0) (hf : a.isNum = true) (s : Ob)
 (sM : ∀ X, Hd X a p → Hd X b p' → Tab X → Calls Tryz.prog 67 #[vO a p, vO b p'] X (RetH X s)) :
 Calls Tryz.prog 44 #[vO a p, vO b p'] w (RetH w s) := by
 have HF := hI hf
 have SM := hI sM
 clear hf sM
 have PA := hI pA
 have PB := hI pB
 have CM := hI cM
 clear pA pB cM
 have HZ := hI hz
 clear hz
 obtain ⟨a0, a1, a2, a3, a4, a5, ea⟩ := cells7 (a) p
 obtain ⟨b0, b1, b2, b3, b4, b5, eb⟩ := cells7 (b) p'
 have T := Bx3.new w #[a0, a1, a2, a3, a4, a5, p] #[b0, b1, b2, b3, b4, b5, p'] #[.int .i64 0, .string ⟨#[]⟩, .string ⟨#[]⟩, .string ⟨#[]⟩, .string ⟨#[]⟩, .string ⟨#[]⟩, .slice none 0 0]
 rw [vO_cells ea, vO_cells eb]
 go_enter Tryz.func44, Tryz.ntmps44
 go_wp2_with fail
 generalize ((w.alloc (.cells #[a0, a1, a2, a3, a4, a5, p] 35)).alloc (.cells #[b0, b1, b2, b3, b4, b5, p'] 35)).alloc (.cells #[.int .i64 0, .string ⟨#[]⟩, .string ⟨#[]⟩, .string ⟨#[]⟩, .string ⟨#[]⟩, .string ⟨#[]⟩, .slice none 0 0] 35) = W at T ⊢
 have B0 : Hid (Bx W (w.heap.size) (cellsO (a) p).toArray) := by rw [ea]; exact T.b0
 have K0 := hI (hp.below T.bel)
 have B1 : Hid (Bx W (w.heap.size + 1) (cellsO (b) p').toArray) := by rw [eb]; exact T.b1
 have K1 := hI (hp'.below T.bel)
 have R0 := hI T.b2
 have HW := hI T.bel
 have HT := hI (ht.below T.bel)
 try rw [← vO_cells ea]
 try rw [← vO_cells eb]
 clear T ea eb hp hp' ht
 with_reducible refine (isZeroH b p' _ false HZ.out).mono ?_
 rintro e w1 ⟨rfl, hb⟩
 replace B0 := kB B0 hb
 replace K0 := kH K0 hb
 replace B1 := kB B1 hb
 replace K1 := kH K1 hb
 replace R0 := kB R0 hb
 replace HW := kW HW hb
 replace HT := kT HT hb
 clear hb
 go_wp2_with (first | (with_reducible refine lG (.tmp 2) B0.out ?_) | (with_reducible refine lG (.tmp 3) B1.out ?_))
 with_reducible refine (PA.out _ K0.out HT.out).mono ?_
 rintro e w2 ⟨q0, q1, q2, rfl, k0, k1, k2, hb⟩
 replace B0 := kB B0 hb
 replace K0 := kH K0 hb
 replace B1 := kB B1 hb
 replace K1 := kH K1 hb
 replace R0 := kB R0 hb
 replace HW := kW HW hb
 replace HT := kT HT hb
 clear hb
 replace k0 := hI k0
 replace k1 := hI k1
 replace k2 := hI k2
 have T := hI (Bx3.new w2 #[.int .i64 0, .string ⟨#[]⟩, .string ⟨#[]⟩, .string ⟨#[]⟩, .string ⟨#[]⟩, .string ⟨#[]⟩, .slice none 0 0] #[.int .i64 0, .string ⟨#[]⟩, .string ⟨#[]⟩, .string ⟨#[]⟩, .string ⟨#[]⟩, .string ⟨#[]⟩, .slice none 0 0] #[.int .i64 0, .string ⟨#[]⟩, .string ⟨#[]⟩, .string ⟨#[]⟩, .string ⟨#[]⟩, .string ⟨#[]⟩, .slice none 0 0])
 try unfold zeroC at T
 go_wp2_with (first | (with_reducible refine sB (.tmp 5) (.tmp 18) k0.out T.out.b0 ?_) | (with_reducible refine sB (.tmp 6) (.tmp 19) k1.out T.out.n1 ?_) | (with_reducible refine sB (.tmp 7) (.tmp 20) k2.out T.out.n2 ?_; have P := Pt3.new (w := w2) (o0 := e) (o1 := c) (o2 := r) (p0 := q0) (p1 := q1) (p2 := q2) (z0 := #[.int .i64 0, .string ⟨#[]⟩, .string ⟨#[]⟩, .string ⟨#[]⟩, .string ⟨#[]⟩, .string ⟨#[]⟩, .slice none 0 0]) (z1 := #[.int .i64 0, .string ⟨#[]⟩, .string ⟨#[]⟩, .string ⟨#[]⟩, .string ⟨#[]⟩, .string ⟨#[]⟩, .slice none 0 0]) (z2 := #[.int .i64 0, .string ⟨#[]⟩, .string ⟨#[]⟩, .string ⟨#[]⟩, .string ⟨#[]⟩, .string ⟨#[]⟩, .slice none 0 0]); generalize World.setRow (World.setRow (World.setRow (((w2.alloc (.cells #[.int .i64 0, .string ⟨#[]⟩, .string ⟨#[]⟩, .string ⟨#[]⟩, .string ⟨#[]⟩, .string ⟨#[]⟩, .slice none 0 0] 35)).alloc (.cells #[.int .i64 0, .string ⟨#[]⟩, .string ⟨#[]⟩, .string ⟨#[]⟩, .string ⟨#[]⟩, .string ⟨#[]⟩, .slice none 0 0] 35)).alloc (.cells #[.int .i64 0, .string ⟨#[]⟩, .string ⟨#[]⟩, .string ⟨#[]⟩, .string ⟨#[]⟩, .string ⟨#[]⟩, .slice none 0 0] 35)) (w2.heap.size) (cellsO (e) q0).toArray) (w2.heap.size + 1) (cellsO (c) q1).toArray) (w2.heap.size + 1 + 1) (cellsO (r) q2).toArray = X2 at P ⊢; have hb := P.bel; replace B0 := kB B0 hb; replace K0 := kH K0 hb; replace B1 := kB B1 hb; replace K1 := kH K1 hb; replace R0 := kB R0 hb; replace HW := kW HW hb; replace HT := kT HT hb; replace k0 := kH k0 hb; replace k1 := kH k1 hb; replace k2 := kH k2 hb; have D0 := hI P.b0; have D1 := hI P.b1; have D2 := hI P.b2; clear P hb T) | (with_reducible refine lG (.tmp 2) B0.out ?_) | (with_reducible refine lG (.tmp 3) B1.out ?_) | (with_reducible refine lG (.tmp 5) D0.out ?_) | (with_reducible refine lG (.tmp 6) D1.out ?_) | (with_reducible refine lG (.tmp 7) D2.out ?_))
 with_reducible refine (PB.out _ K1.out HT.out).mono ?_
 rintro e w3 ⟨t0, t1, t2, rfl, l0, l1, l2, hb⟩
 replace B0 := kB B0 hb
 replace K0 := kH K0 hb
 replace B1 := kB B1 hb
 replace K1 := kH K1 hb
 replace R0 := kB R0 hb
 replace HW := kW HW hb
 replace HT := kT HT hb
 replace k0 := kH k0 hb
 replace k1 := kH k1 hb
 replace k2 := kH k2 hb
 replace D0 := kB D0 hb
 replace D1 := kB D1 hb
 replace D2 := kB D2 hb
 clear hb
 replace l0 := hI l0
 replace l1 := hI l1
 replace l2 := hI l2
 have T := hI (Bx3.new w3 #[.int .i64 0, .string ⟨#[]⟩, .string ⟨#[]⟩, .string ⟨#[]⟩, .string ⟨#[]⟩, .string ⟨#[]⟩, .slice none 0 0] #[.int .i64 0, .string ⟨#[]⟩, .string ⟨#[]⟩, .string ⟨#[]⟩, .string ⟨#[]⟩, .string ⟨#[]⟩, .slice none 0 0] #[.int .i64 0, .string ⟨#[]⟩, .string ⟨#[]⟩, .string ⟨#[]⟩, .string ⟨#[]⟩, .string ⟨#[]⟩, .slice none 0 0])
 try unfold zeroC at T
 go_wp2_with (first | (with_reducible refine sB (.tmp 8) (.tmp 24) l0.out T.out.b0 ?_) | (with_reducible refine sB (.tmp 9) (.tmp 25) l1.out T.out.n1 ?_) | (with_reducible refine sB (.tmp 10) (.tmp 26) l2.out T.out.n2 ?_; have P := Pt3.new (w := w3) (o0 := e') (o1 := c') (o2 := r') (p0 := t0) (p1 := t1) (p2 := t2) (z0 := #[.int .i64 0, .string ⟨#[]⟩, .string ⟨#[]⟩, .string ⟨#[]⟩, .string ⟨#[]⟩, .string ⟨#[]⟩, .slice none 0 0]) (z1 := #[.int .i64 0, .string ⟨#[]⟩, .string ⟨#[]⟩, .string ⟨#[]⟩, .string ⟨#[]⟩, .string ⟨#[]⟩, .slice none 0 0]) (z2 := #[.int .i64 0, .string ⟨#[]⟩, .string ⟨#[]⟩, .string ⟨#[]⟩, .string ⟨#[]⟩, .string ⟨#[]⟩, .slice none 0 0]); generalize World.setRow (World.setRow (World.setRow (((w3.alloc (.cells #[.int .i64 0, .string ⟨#[]⟩, .string ⟨#[]⟩, .string ⟨#[]⟩, .string ⟨#[]⟩, .string ⟨#[]⟩, .slice none 0 0] 35)).alloc (.cells #[.int .i64 0, .string ⟨#[]⟩, .string ⟨#[]⟩, .string ⟨#[]⟩, .string ⟨#[]⟩, .string ⟨#[]⟩, .slice none 0 0] 35)).alloc (.cells #[.int .i64 0, .string ⟨#[]⟩, .string ⟨#[]⟩, .string ⟨#[]⟩, .string ⟨#[]⟩, .string ⟨#[]⟩, .slice none 0 0] 35)) (w3.heap.size) (cellsO (e') t0).toArray) (w3.heap.size + 1) (cellsO (c') t1).toArray) (w3.heap.size + 1 + 1) (cellsO (r') t2).toArray = X3 at P ⊢; have hb := P.bel; replace B0 := kB B0 hb; replace K0 := kH K0 hb; replace B1 := kB B1 hb; replace K1 := kH K1 hb; replace R0 := kB R0 hb; replace HW := kW HW hb; replace HT := kT HT hb; replace k0 := kH k0 hb; replace k1 := kH k1 hb; replace k2 := kH k2 hb; replace D0 := kB D0 hb; replace D1 := kB D1 hb; replace D2 := kB D2 hb; replace l0 := kH l0 hb; replace l1 := kH l1 hb; replace l2 := kH l2 hb; have E0 := hI P.b0; have E1 := hI P.b1; have E2 := hI P.b2; clear P hb T) | (with_reducible refine lG (.tmp 2) B0.out ?_) | (with_reducible refine lG (.tmp 3) B1.out ?_) | (with_reducible refine lG (.tmp 5) D0.out ?_) | (with_reducible refine lG (.tmp 6) D1.out ?_) | (with_reducible refine lG (.tmp 7) D2.out ?_) | (with_reducible refine lG (.tmp 8) E0.out ?_) | (with_reducible refine lG (.tmp 9) E1.out ?_) | (with_reducible refine lG (.tmp 10) E2.out ?_))
 with_reducible refine (CM.out _ q0 t0 k0.out l0.out HT.out).mono ?_
 rintro e w4 ⟨rfl, hb⟩
 replace B0 := kB B0 hb
 replace K0 := kH K0 hb
 replace B1 := kB B1 hb
 replace K1 := kH K1 hb
 replace R0 := kB R0 hb
 replace HW := kW HW hb
 replace HT := kT HT hb
 replace k0 := kH k0 hb
 replace k1 := kH k1 hb
 replace k2 := kH k2 hb
 replace D0 := kB D0 hb
 replace D1 := kB D1 hb
 replace D2 := kB D2 hb
 replace l0 := kH l0 hb
 replace l1 := kH l1 hb
 replace l2 := kH l2 hb
 replace E0 := hI (E0.out.keep hb)
 replace E1 := hI (E1.out.keep hb)
 replace E2 := hI (E2.out.keep hb)
 clear hb
 subst hk
 go_wp2_with (first | (with_reducible refine lG (.tmp 2) B0.out ?_) | (with_reducible refine lG (.tmp 3) B1.out ?_) | (with_reducible refine lG (.tmp 5) D0.out ?_) | (with_reducible refine lG (.tmp 6) D1.out ?_) | (with_reducible refine lG (.tmp 7) D2.out ?_) | (with_reducible refine lG (.tmp 8) E0.out ?_) | (with_reducible refine lG (.tmp 9) E1.out ?_) | (with_reducible refine lG (.tmp 10) E2.out ?_))
 with_reducible refine (isFinH a p _ true HF.out).mono ?_
 rintro e w5 ⟨rfl, hb⟩
 replace B0 := kB B0 hb
 replace K0 := kH K0 hb
 replace B1 := kB B1 hb
 replace K1 := kH K1 hb
 replace R0 := kB R0 hb
 replace HW := kW HW hb
 replace HT := kT HT hb
 replace k0 := kH k0 hb
 replace k1 := kH k1 hb
 replace k2 := kH k2 hb
 replace D0 := kB D0 hb
 replace D1 := kB D1 hb
 replace D2 := kB D2 hb
 replace l0 := kH l0 hb
 replace l1 := kH l1 hb
 replace l2 := kH l2 hb
 replace E0 := hI (E0.out.keep hb)
 replace E1 := hI (E1.out.keep hb)
 replace E2 := hI (E2.out.keep hb)
 clear hb
 go_wp2_with (first | (with_reducible refine lG (.tmp 2) B0.out ?_) | (with_reducible refine lG (.tmp 3) B1.out ?_) | (with_reducible refine lG (.tmp 5) D0.out ?_) | (with_reducible refine lG (.tmp 6) D1.out ?_) | (with_reducible refine lG (.tmp 7) D2.out ?_) | (with_reducible refine lG (.tmp 8) E0.out ?_) | (with_reducible refine lG (.tmp 9) E1.out ?_) | (with_reducible refine lG (.tmp 10) E2.out ?_))
 with_reducible refine (SM.out _ K0.out K1.out HT.out).mono ?_
 rintro e w6 ⟨p5, rfl, k5, hb⟩
 replace B0 := kB B0 hb
 replace K0 := kH K0 hb
 replace B1 := kB B1 hb
 replace K1 := kH K1 hb
 replace R0 := kB R0 hb
 replace HW := kW HW hb
 replace HT := kT HT hb
 replace k0 := kH k0 hb
 replace k1 := kH k1 hb
 replace k2 := kH k2 hb
 replace D0 := kB D0 hb
 replace D1 := kB D1 hb
 replace D2 := kB D2 hb
 replace l0 := kH l0 hb
 replace l1 := kH l1 hb
 replace l2 := kH l2 hb
 replace E0 := hI (E0.out.keep hb)
 replace E1 := hI (E1.out.keep hb)
 replace E2 := hI (E2.out.keep hb)
 clear hb
 replace k5 := hI k5
 go_wp2_with (first | (with_reducible refine sB (.tmp 4) (.tmp 48) k5.out R0.out ?_) | (with_reducible refine lG (.tmp 2) B0.out ?_) | (with_reducible refine lG (.tmp 3) B1.out ?_) | (with_reducible refine lG (.tmp 5) D0.out ?_) | (with_reducible refine lG (.tmp 6) D1.out ?_) | (with_reducible refine lG (.tmp 7) D2.out ?_) | (with_reducible refine lG (.tmp 8) E0.out ?_) | (with_reducible refine lG (.tmp 9) E1.out ?_) | (with_reducible refine lG (.tmp 10) E2.out ?_))
 exact retHs rfl rfl R0.out rfl k5.out (by omega) HW.out
theorem sumInf (a b : Ob) (p p' : Value) (w : World) (hz : b.numIs 0 = false) (hp : Hd w a p) (hp' : Hd w b p') (ht : Tab w) (e c r e' c' r' : Ob) (pA : ∀ X, Hd X a p → Tab X → Calls Tryz.prog 55 #[vO a p] X (RetP X e c r)) (pB : ∀ X, Hd X b p' → Tab X → Calls Tryz.prog 55 #[vO b p'] X (RetP X e' c' r')) (k : Int)
 (cM : ∀ X q t, Hd X e q → Hd X e' t → Tab X → Calls Tryz.prog 46 #[vO e q, vO e' t] X (RetI X k)) (hk : k = 0) (hf : a.isNum = false) (s : Ob)
 (sM : ∀ X q t, Hd X c q → Hd X c' t → Tab X → Calls Tryz.prog 67 #[vO c q, vO c' t] X (RetH X s)) :
 Calls Tryz.prog 44 #[vO a p, vO b p'] w (RetH w (.cons (.cons e s) r')) := by
 have HF := hI hf
 have SM := hI sM
 clear hf sM
 have PA := hI pA
 have PB := hI pB
 have CM := hI cM
 clear pA pB cM
 have HZ := hI hz
 clear hz
 obtain ⟨a0, a1, a2, a3, a4, a5, ea⟩ := cells7 (a) p
 obtain ⟨b0, b1, b2, b3, b4, b5, eb⟩ := cells7 (b) p'
 have T := Bx3.new w #[a0, a1, a2, a3, a4, a5, p] #[b0, b1, b2, b3, b4, b5, p'] #[.int .i64 0, .string ⟨#[]⟩, .string ⟨#[]⟩, .string ⟨#[]⟩, .string ⟨#[]⟩, .string ⟨#[]⟩, .slice none 0 0]
 rw [vO_cells ea, vO_cells eb]
 go_enter Tryz.func44, Tryz.ntmps44
 go_wp2_with fail
 generalize ((w.alloc (.cells #[a0, a1, a2, a3, a4, a5, p] 35)).alloc (.cells #[b0, b1, b2, b3, b4, b5, p'] 35)).alloc (.cells #[.int .i64 0, .string ⟨#[]⟩, .string ⟨#[]⟩, .string ⟨#[]⟩, .string ⟨#[]⟩, .string ⟨#[]⟩, .slice none 0 0] 35) = W at T ⊢
 have B0 : Hid (Bx W (w.heap.size) (cellsO (a) p).toArray) := by rw [ea]; exact T.b0
 have K0 := hI (hp.below T.bel)
 have B1 : Hid (Bx W (w.heap.size + 1) (cellsO (b) p').toArray) := by rw [eb]; exact T.b1
 have K1 := hI (hp'.below T.bel)
 have R0 := hI T.b2
 have HW := hI T.bel
 have HT := hI (ht.below T.bel)
 try rw [← vO_cells ea]
 try rw [← vO_cells eb]
 clear T ea eb hp hp' ht
 with_reducible refine (isZeroH b p' _ false HZ.out).mono ?_
 rintro e w1 ⟨rfl, hb⟩
 replace B0 := kB B0 hb
 replace K0 := kH K0 hb
 replace B1 := kB B1 hb
 replace K1 := kH K1 hb
 replace R0 := kB R0 hb
 replace HW := kW HW hb
 replace HT := kT HT hb
 clear hb
 go_wp2_with (first | (with_reducible refine lG (.tmp 2) B0.out ?_) | (with_reducible refine lG (.tmp 3) B1.out ?_))
 with_reducible refine (PA.out _ K0.out HT.out).mono ?_
 rintro e w2 ⟨q0, q1, q2, rfl, k0, k1, k2, hb⟩
 replace B0 := kB B0 hb
 replace K0 := kH K0 hb
 replace B1 := kB B1 hb
 replace K1 := kH K1 hb
 replace R0 := kB R0 hb
 replace HW := kW HW hb
 replace HT := kT HT hb
 clear hb
 replace k0 := hI k0
 replace k1 := hI k1
 replace k2 := hI k2
 have T := hI (Bx3.new w2 #[.int .i64 0, .string ⟨#[]⟩, .string ⟨#[]⟩, .string ⟨#[]⟩, .string ⟨#[]⟩, .string ⟨#[]⟩, .slice none 0 0] #[.int .i64 0, .string ⟨#[]⟩, .string ⟨#[]⟩, .string ⟨#[]⟩, .string ⟨#[]⟩, .string ⟨#[]⟩, .slice none 0 0] #[.int .i64 0, .string ⟨#[]⟩, .string ⟨#[]⟩, .string ⟨#[]⟩, .string ⟨#[]⟩, .string ⟨#[]⟩, .slice none 0 0])
 try unfold zeroC at T
 go_wp2_with (first | (with_reducible refine sB (.tmp 5) (.tmp 18) k0.out T.out.b0 ?_) | (with_reducible refine sB (.tmp 6) (.tmp 19) k1.out T.out.n1 ?_) | (with_reducible refine sB (.tmp 7) (.tmp 20) k2.out T.out.n2 ?_; have P := Pt3.new (w := w2) (o0 := e) (o1 := c) (o2 := r) (p0 := q0) (p1 := q1) (p2 := q2) (z0 := #[.int .i64 0, .string ⟨#[]⟩, .string ⟨#[]⟩, .string ⟨#[]⟩, .string ⟨#[]⟩, .string ⟨#[]⟩, .slice none 0 0]) (z1 := #[.int .i64 0, .string ⟨#[]⟩, .string ⟨#[]⟩, .string ⟨#[]⟩, .string ⟨#[]⟩, .string ⟨#[]⟩, .slice none 0 0]) (z2 := #[.int .i64 0, .string ⟨#[]⟩, .string ⟨#[]⟩, .string ⟨#[]⟩, .string ⟨#[]⟩, .string ⟨#[]⟩, .slice none 0 0]); generalize World.setRow (World.setRow (World.setRow (((w2.alloc (.cells #[.int .i64 0, .string ⟨#[]⟩, .string ⟨#[]⟩, .string ⟨#[]⟩, .string ⟨#[]⟩, .string ⟨#[]⟩, .slice none 0 0] 35)).alloc (.cells #[.int .i64 0, .string ⟨#[]⟩, .string ⟨#[]⟩, .string ⟨#[]⟩, .string ⟨#[]⟩, .string ⟨#[]⟩, .slice none 0 0] 35)).alloc (.cells #[.int .i64 0, .string ⟨#[]⟩, .string ⟨#[]⟩, .string ⟨#[]⟩, .string ⟨#[]⟩, .string ⟨#[]⟩, .slice none 0 0] 35)) (w2.heap.size) (cellsO (e) q0).toArray) (w2.heap.size + 1) (cellsO (c) q1).toArray) (w2.heap.size + 1 + 1) (cellsO (r) q2).toArray = X2 at P ⊢; have hb := P.bel; replace B0 := kB B0 hb; replace K0 := kH K0 hb; replace B1 := kB B1 hb; replace K1 := kH K1 hb; replace R0 := kB R0 hb; replace HW := kW HW hb; replace HT := kT HT hb; replace k0 := kH k0 hb; replace k1 := kH k1 hb; replace k2 := kH k2 hb; have D0 := hI P.b0; have D1 := hI P.b1; have D2 := hI P.b2; clear P hb T) | (with_reducible refine lG (.tmp 2) B0.out ?_) | (with_reducible refine lG (.tmp 3) B1.out ?_) | (with_reducible refine lG (.tmp 5) D0.out ?_) | (with_reducible refine lG (.tmp 6) D1.out ?_) | (with_reducible refine lG (.tmp 7) D2.out ?_))
 with_reducible refine (PB.out _ K1.out HT.out).mono ?_
 rintro e w3 ⟨t0, t1, t2, rfl, l0, l1, l2, hb⟩
 replace B0 := kB B0 hb
 replace K0 := kH K0 hb
 replace B1 := kB B1 hb
 replace K1 := kH K1 hb
 replace R0 := kB R0 hb
 replace HW := kW HW hb
 replace HT := kT HT hb
 replace k0 := kH k0 hb
 replace k1 := kH k1 hb
 replace k2 := kH k2 hb
 replace D0 := kB D0 hb
 replace D1 := kB D1 hb
 replace D2 := kB D2 hb
 clear hb
 replace l0 := hI l0
 replace l1 := hI l1
 replace l2 := hI l2
 have T := hI (Bx3.new w3 #[.int .i64 0, .string ⟨#[]⟩, .string ⟨#[]⟩, .string ⟨#[]⟩, .string ⟨#[]⟩, .string ⟨#[]⟩, .slice none 0 0] #[.int .i64 0, .string ⟨#[]⟩, .string ⟨#[]⟩, .string ⟨#[]⟩, .string ⟨#[]⟩, .string ⟨#[]⟩, .slice none 0 0] #[.int .i64 0, .string ⟨#[]⟩, .string ⟨#[]⟩, .string ⟨#[]⟩, .string ⟨#[]⟩, .string ⟨#[]⟩, .slice none 0 0])
 try unfold zeroC at T
 go_wp2_with (first | (with_reducible refine sB (.tmp 8) (.tmp 24) l0.out T.out.b0 ?_) | (with_reducible refine sB (.tmp 9) (.tmp 25) l1.out T.out.n1 ?_) | (with_reducible refine sB (.tmp 10) (.tmp 26) l2.out T.out.n2 ?_; have P := Pt3.new (w := w3) (o0 := e') (o1 := c') (o2 := r') (p0 := t0) (p1 := t1) (p2 := t2) (z0 := #[.int .i64 0, .string ⟨#[]⟩, .string ⟨#[]⟩, .string ⟨#[]⟩, .string ⟨#[]⟩, .string ⟨#[]⟩, .slice none 0 0]) (z1 := #[.int .i64 0, .string ⟨#[]⟩, .string ⟨#[]⟩, .string ⟨#[]⟩, .string ⟨#[]⟩, .string ⟨#[]⟩, .slice none 0 0]) (z2 := #[.int .i64 0, .string ⟨#[]⟩, .string ⟨#[]⟩, .string ⟨#[]⟩, .string ⟨#[]⟩, .string ⟨#[]⟩, .slice none 0 0]); generalize World.setRow (World.setRow (World.setRow (((w3.alloc (.cells #[.int .i64 0, .string ⟨#[]⟩, .string ⟨#[]⟩, .string ⟨#[]⟩, .string ⟨#[]⟩, .string ⟨#[]⟩, .slice none 0 0] 35)).alloc (.cells #[.int .i64 0, .string ⟨#[]⟩, .string ⟨#[]⟩, .string ⟨#[]⟩, .string ⟨#[]⟩, .string ⟨#[]⟩, .slice none 0 0] 35)).alloc (.cells #[.int .i64 0, .string ⟨#[]⟩, .string ⟨#[]⟩, .string ⟨#[]⟩, .string ⟨#[]⟩, .string ⟨#[]⟩, .slice none 0 0] 35)) (w3.heap.size) (cellsO (e') t0).toArray) (w3.heap.size + 1) (cellsO (c') t1).toArray) (w3.heap.size + 1 + 1) (cellsO (r') t2).toArray = X3 at P ⊢; have hb := P.bel; replace B0 := kB B0 hb; replace K0 := kH K0 hb; replace B1 := kB B1 hb; replace K1 := kH K1 hb; replace R0 := kB R0 hb; replace HW := kW HW hb; replace HT := kT HT hb; replace k0 := kH k0 hb; replace k1 := kH k1 hb; replace k2 := kH k2 hb; replace D0 := kB D0 hb; replace D1 := kB D1 hb; replace D2 := kB D2 hb; replace l0 := kH l0 hb; replace l1 := kH l1 hb; replace l2 := kH l2 hb; have E0 := hI P.b0; have E1 := hI P.b1; have E2 := hI P.b2; clear P hb T) | (with_reducible refine lG (.tmp 2) B0.out ?_) | (with_reducible refine lG (.tmp 3) B1.out ?_) | (with_reducible refine lG (.tmp 5) D0.out ?_) | (with_reducible refine lG (.tmp 6) D1.out ?_) | (with_reducible refine lG (.tmp 7) D2.out ?_) | (with_reducible refine lG (.tmp 8) E0.out ?_) | (with_reducible refine lG (.tmp 9) E1.out ?_) | (with_reducible refine lG (.tmp 10) E2.out ?_))
 with_reducible refine (CM.out _ q0 t0 k0.out l0.out HT.out).mono ?_
 rintro e w4 ⟨rfl, hb⟩
 replace B0 := kB B0 hb
 replace K0 := kH K0 hb
 replace B1 := kB B1 hb
 replace K1 := kH K1 hb
 replace R0 := kB R0 hb
 replace HW := kW HW hb
 replace HT := kT HT hb
 replace k0 := kH k0 hb
 replace k1 := kH k1 hb
 replace k2 := kH k2 hb
 replace D0 := kB D0 hb
 replace D1 := kB D1 hb
 replace D2 := kB D2 hb
 replace l0 := kH l0 hb
 replace l1 := kH l1 hb
 replace l2 := kH l2 hb
 replace E0 := hI (E0.out.keep hb)
 replace E1 := hI (E1.out.keep hb)
 replace E2 := hI (E2.out.keep hb)
 clear hb
 subst hk
 go_wp2_with (first | (with_reducible refine lG (.tmp 2) B0.out ?_) | (with_reducible refine lG (.tmp 3) B1.out ?_) | (with_reducible refine lG (.tmp 5) D0.out ?_) | (with_reducible refine lG (.tmp 6) D1.out ?_) | (with_reducible refine lG (.tmp 7) D2.out ?_) | (with_reducible refine lG (.tmp 8) E0.out ?_) | (with_reducible refine lG (.tmp 9) E1.out ?_) | (with_reducible refine lG (.tmp 10) E2.out ?_))
 with_reducible refine (isFinH a p _ false HF.out).mono ?_
 rintro e w5 ⟨rfl, hb⟩
 replace B0 := kB B0 hb
 replace K0 := kH K0 hb
 replace B1 := kB B1 hb
 replace K1 := kH K1 hb
 replace R0 := kB R0 hb
 replace HW := kW HW hb
 replace HT := kT HT hb
 replace k0 := kH k0 hb
 replace k1 := kH k1 hb
 replace k2 := kH k2 hb
 replace D0 := kB D0 hb
 replace D1 := kB D1 hb
 replace D2 := kB D2 hb
 replace l0 := kH l0 hb
 replace l1 := kH l1 hb
 replace l2 := kH l2 hb
 replace E0 := hI (E0.out.keep hb)
 replace E1 := hI (E1.out.keep hb)
 replace E2 := hI (E2.out.keep hb)
 clear hb
 go_wp2_with (first | (with_reducible refine lG (.tmp 2) B0.out ?_) | (with_reducible refine lG (.tmp 3) B1.out ?_) | (with_reducible refine lG (.tmp 5) D0.out ?_) | (with_reducible refine lG (.tmp 6) D1.out ?_) | (with_reducible refine lG (.tmp 7) D2.out ?_) | (with_reducible refine lG (.tmp 8) E0.out ?_) | (with_reducible refine lG (.tmp 9) E1.out ?_) | (with_reducible refine lG (.tmp 10) E2.out ?_))
 refine wp_region_grow (l := _) 6 (by kernel_rfl) (by kernel_rfl) (fun i => [49, 50, 51, 52, 53, 54].getD i 0) (LR [LV (vO (e) q0), LV (vO (c) q1), LV (vO (c') t1), LH (s), LV (vO (r') t2), LH (.cons (.cons e s) r')]) (LR_mono ⟨mLV _, mLV _, mLV _, mLH _, mLV _, mLH _, trivial⟩) (by
  intro i j hi hj h
  exact inj_getD [49, 50, 51, 52, 53, 54] (by decide) i j hi hj h) (by
  intro i hi
  exact lt_getD 55 [49, 50, 51, 52, 53, 54] (by decide) i hi) ?step ?done
 case step =>
  intro i hi a w9 v lo hi' hoth hb hw
  have sl5 : a.tmps[5]? = some (.pointer (some ⟨w2.heap.size, 0, none⟩)) := (hoth 5 (fun j hj => ne_getD 5 _ (by decide) j hj)).trans rfl
  have sl6 : a.tmps[6]? = some (.pointer (some ⟨w2.heap.size + 1, 0, none⟩)) := (hoth 6 (fun j hj => ne_getD 6 _ (by decide) j hj)).trans rfl
  have sl9 : a.tmps[9]? = some (.pointer (some ⟨w3.heap.size + 1, 0, none⟩)) := (hoth 9 (fun j hj => ne_getD 9 _ (by decide) j hj)).trans rfl
  have sl10 : a.tmps[10]? = some (.pointer (some ⟨w3.heap.size + 1 + 1, 0, none⟩)) := (hoth 10 (fun j hj => ne_getD 10 _ (by decide) j hj)).trans rfl
  match i, hi with
  | 0, _ =>
   exact gr_box rfl rfl (.tmp 5) rfl (eval_of sl5) (D0.out.keep hb) ⟨_, rfl, Below.refl _ _, rfl⟩
  | 1, _ =>
   exact gr_box rfl rfl (.tmp 6) rfl (eval_of sl6) (D1.out.keep hb) ⟨_, rfl, Below.refl _ _, rfl⟩
  | 2, _ =>
   exact gr_box rfl rfl (.tmp 9) rfl (eval_of sl9) (E1.out.keep hb) ⟨_, rfl, Below.refl _ _, rfl⟩
  | 3, _ =>
   obtain ⟨s0, r0, _⟩ := hw 1 (by omega) (by kernel_rfl)
   have e0 : v 1 = vO (c) q1 := r0
   rw [e0] at s0
   obtain ⟨s1, r1, _⟩ := hw 2 (by omega) (by kernel_rfl)
   have e1 : v 2 = vO (c') t1 := r1
   rw [e1] at s1
   refine gr_tt rfl rfl 67 50 51 _ _ _ rfl (fun v u w => by go_simp) s0 s1 ?_
   refine (SM.out w9 q1 t1 (k1.out.below hb) (l1.out.below hb) (HT.out.below hb)).mono ?_
   rintro e w3 ⟨p, rfl, hp, hb3⟩
   exact ⟨_, rfl, _, rfl, hb3, p, rfl, hp⟩
  | 4, _ =>
   exact gr_box rfl rfl (.tmp 10) rfl (eval_of sl10) (E2.out.keep hb) ⟨_, rfl, Below.refl _ _, rfl⟩
  | 5, _ =>
   obtain ⟨s0, r0, _⟩ := hw 0 (by omega) (by kernel_rfl)
   have e0 : v 0 = vO (e) q0 := r0
   rw [e0] at s0
   obtain ⟨s1, r1, _⟩ := hw 3 (by omega) (by kernel_rfl)
   obtain ⟨q1, e1, k1⟩ : LH (s) (v 3) (lo 3) (hi' 3) w9 := r1
   rw [e1] at s1
   obtain ⟨s2, r2, _⟩ := hw 4 (by omega) (by kernel_rfl)
   have e2 : v 4 = vO (r') t2 := r2
   rw [e2] at s2
   refine gr_ttt rfl rfl 42 49 52 53 _ _ _ _ rfl (fun v u x w => by go_simp) s0 s1 s2 ?_
   refine (powerP e s r' q0 q1 t2 w9 (k0.out.below hb) k1 (l2.out.below hb)).mono ?_
   rintro e w3 ⟨p, rfl, hp, hb3⟩
   exact ⟨_, rfl, _, rfl, hb3, p, rfl, hp⟩
 case done =>
  intro a w9 v lo hi' hdef hsz hoth hb hj hap
  obtain ⟨_, ⟨p5, hv5, k5⟩, hlo5, hhi5⟩ := hj 5 (by omega)
  have ha := eq_puts hdef hsz hoth (fun i hi => (hj i hi).1)
  subst ha
  clear hj hoth hdef hsz hap
  simp only [puts, List.getD_cons_zero, List.getD_cons_succ, hv5]
  generalize v 0 = v0
  generalize v 1 = v1
  generalize v 2 = v2
  generalize v 3 = v3
  generalize v 4 = v4
  clear hv5
  simp only [Act.put, List.setIfInBounds_toArray, List.set_cons_zero, List.set_cons_succ]
  show wpList _ _ _ [_] _ _
  replace B0 := kB B0 hb
  replace K0 := kH K0 hb
  replace B1 := kB B1 hb
  replace K1 := kH K1 hb
  replace R0 := kB R0 hb
  replace HW := kW HW hb
  replace HT := kT HT hb
  replace k0 := kH k0 hb
  replace k1 := kH k1 hb
  replace k2 := kH k2 hb
  replace D0 := kB D0 hb
  replace D1 := kB D1 hb
  replace D2 := kB D2 hb
  replace l0 := kH l0 hb
  replace l1 := kH l1 hb
  replace l2 := kH l2 hb
  replace E0 := hI (E0.out.keep hb)
  replace E1 := hI (E1.out.keep hb)
  replace E2 := hI (E2.out.keep hb)
  clear hb
  replace k5 := hI k5
  go_wp2_with (first | (with_reducible refine sB (.tmp 4) (.tmp 54) k5.out R0.out ?_) | (with_reducible refine lG (.tmp 2) B0.out ?_) | (with_reducible refine lG (.tmp 3) B1.out ?_) | (with_reducible refine lG (.tmp 5) D0.out ?_) | (with_reducible refine lG (.tmp 6) D1.out ?_) | (with_reducible refine lG (.tmp 7) D2.out ?_) | (with_reducible refine lG (.tmp 8) E0.out ?_) | (with_reducible refine lG (.tmp 9) E1.out ?_) | (with_reducible refine lG (.tmp 10) E2.out ?_))
  exact retHs rfl rfl R0.out rfl k5.out (by omega) HW.out
theorem natAdd (m n : Nat) : ((m : Rat) + (n : Rat)) = ((m + n : Nat) : Rat) := (Rat.natCast_add m n).symm
theorem sumE : ∀ (a b : On) (p p' : Value) (w : World), a.nf → b.nf → a.ob.bd 90 → b.ob.bd 90 → Hd w a.ob p → Hd w b.ob p' → Tab w →
 Calls Tryz.prog 44 #[vO a.ob p, vO b.ob p'] w (RetH w (addE a b).ob) := by
 intro a
 induction a with
 | fin m =>
  intro b p p' w na nb ha hb hp hp' ht
  have hz : b.ob.numIs 0 = decide (b = .fin 0) := On.numIs b 0
  by_cases h0 : b = .fin 0
  · rw [decide_eq_true h0] at hz
    rw [h0, addE_zero_right na, ← h0]
    exact sumZero _ _ p p' w hz hp hp' ht
  · rw [decide_eq_false h0] at hz
    have pA := fun X (h : Hd X (On.fin m).ob p) (hT : Tab X) => partsE (.fin m) p X h hT
    have pB := fun X (h : Hd X b.ob p') (hT : Tab X) => partsE b p' X h hT
    have cM := fun X q t (h : Hd X (On.fin m).exp.ob q) (h' : Hd X b.exp.ob t) (hT : Tab X) => compareE (On.fin m).exp b.exp q t X (On.exp_bd (by decide) ha) (On.exp_bd (by decide) hb) h h' hT
    cases b with
    | fin n =>
     have hk : cmpE (On.fin m).exp (On.fin n).exp = 0 := cmpE_self _
     have h := sumFin _ _ p p' w hz hp hp' ht _ _ _ _ _ _ pA pB _ cM hk rfl (.num ((m : Rat) + (n : Rat))) (fun X h h' hT => sumH (m : Rat) (n : Rat) p p' X ha hb h h' hT)
     rw [natAdd] at h
     exact h
    | pw e c r =>
     have hk : cmpE (On.fin m).exp (On.pw e c r).exp < 0 := cmpE_flip.1 (cmpE_pos nb.2.1)
     exact sumLt _ _ p p' w hz hp hp' ht _ _ _ _ _ _ pA pB _ cM hk
 | pw e c r ihe ihr =>
  intro b p p' w na nb ha hb hp hp' ht
  have hz : b.ob.numIs 0 = decide (b = .fin 0) := On.numIs b 0
  by_cases h0 : b = .fin 0
  · rw [decide_eq_true h0] at hz
    rw [h0, addE_zero_right na, ← h0]
    exact sumZero _ _ p p' w hz hp hp' ht
  · rw [decide_eq_false h0] at hz
    have pA := fun X (h : Hd X (On.pw e c r).ob p) (hT : Tab X) => partsE (.pw e c r) p X h hT
    have pB := fun X (h : Hd X b.ob p') (hT : Tab X) => partsE b p' X h hT
    have cM := fun X q t (h : Hd X (On.pw e c r).exp.ob q) (h' : Hd X b.exp.ob t) (hT : Tab X) => compareE (On.pw e c r).exp b.exp q t X (On.exp_bd (by decide) ha) (On.exp_bd (by decide) hb) h h' hT
    rcases cmpE_ways e b.exp with hk | hk | hk
    · rw [addE_lt hk]
      exact sumLt _ _ p p' w hz hp hp' ht _ _ _ _ _ _ pA pB _ cM hk
    · have hk0 : cmpE (On.pw e c r).exp b.exp = 0 := (cmpE_zero _ _).2 hk
      rw [addE_eq hk]
      have h := sumInf _ _ p p' w hz hp hp' ht _ _ _ _ _ _ pA pB _ cM hk0 rfl (.num ((c : Rat) + (b.coef : Rat))) (fun X q t h h' hT => sumH (c : Rat) (b.coef : Rat) q t X ha.1.2 (On.bd_coef' hb) h h' hT)
      rw [natAdd] at h
      exact h
    · rw [addE_gt hk]
      exact sumGt _ _ p p' w hz hp hp' ht _ _ _ _ _ _ pA pB _ cM hk (addE r b).ob (fun X q t h h' hT => ihr b q t X na.2.2.2.1 nb ha.2 hb h h' hT)
theorem addTop (a b s : Ob) (p p' : Value) (w : World) (hp : Hd w a p) (hp' : Hd w b p') (ht : Tab w)
 (va : ∀ X, Hd X a p → Tab X → Calls Tryz.prog 29 #[vO a p] X (RetB X true)) (vb : ∀ X, Hd X b p' → Tab X → Calls Tryz.prog 29 #[vO b p'] X (RetB X true))
 (sm : ∀ X, Hd X a p → Hd X b p' → Tab X → Calls Tryz.prog 44 #[vO a p, vO b p'] X (RetH X s)) (wi : ∀ X q, Hd X s q → Calls Tryz.prog 43 #[vO s q] X (RetHB X s true)) :
 Calls Tryz.prog 13 #[vO a p, vO b p'] w (RetHB w s true) := by
 have VA := hI va
 have VB := hI vb
 have SM := hI sm
 have WI := hI wi
 clear va vb sm wi
 obtain ⟨a0, a1, a2, a3, a4, a5, ea⟩ := cells7 (a) p
 obtain ⟨b0, b1, b2, b3, b4, b5, eb⟩ := cells7 (b) p'
 have T := Bx3.new w #[a0, a1, a2, a3, a4, a5, p] #[b0, b1, b2, b3, b4, b5, p'] #[.int .i64 0, .string ⟨#[]⟩, .string ⟨#[]⟩, .string ⟨#[]⟩, .string ⟨#[]⟩, .string ⟨#[]⟩, .slice none 0 0]
 rw [vO_cells ea, vO_cells eb]
 go_enter Tryz.func13, Tryz.ntmps13
 go_wp2_with fail
 generalize ((w.alloc (.cells #[a0, a1, a2, a3, a4, a5, p] 35)).alloc (.cells #[b0, b1, b2, b3, b4, b5, p'] 35)).alloc (.cells #[.int .i64 0, .string ⟨#[]⟩, .string ⟨#[]⟩, .string ⟨#[]⟩, .string ⟨#[]⟩, .string ⟨#[]⟩, .slice none 0 0] 35) = W at T ⊢
 have B0 : Hid (Bx W (w.heap.size) (cellsO (a) p).toArray) := by rw [ea]; exact T.b0
 have K0 := hI (hp.below T.bel)
 have B1 : Hid (Bx W (w.heap.size + 1) (cellsO (b) p').toArray) := by rw [eb]; exact T.b1
 have K1 := hI (hp'.below T.bel)
 have R0 := hI T.b2
 have HW := hI T.bel
 have HT := hI (ht.below T.bel)
 try rw [← vO_cells ea]
 try rw [← vO_cells eb]
 clear T ea eb hp hp' ht
 with_reducible refine (VA.out _ K0.out HT.out).mono ?_
 rintro e w1 ⟨rfl, hb⟩
 replace B0 := kB B0 hb
 replace K0 := kH K0 hb
 replace B1 := kB B1 hb
 replace K1 := kH K1 hb
 replace R0 := kB R0 hb
 replace HW := kW HW hb
 replace HT := kT HT hb
 clear hb
 go_wp2_with (first | (with_reducible refine lG (.tmp 2) B0.out ?_) | (with_reducible refine lG (.tmp 3) B1.out ?_))
 with_reducible refine (VB.out _ K1.out HT.out).mono ?_
 rintro e w2 ⟨rfl, hb⟩
 replace B0 := kB B0 hb
 replace K0 := kH K0 hb
 replace B1 := kB B1 hb
 replace K1 := kH K1 hb
 replace R0 := kB R0 hb
 replace HW := kW HW hb
 replace HT := kT HT hb
 clear hb
 go_wp2_with (first | (with_reducible refine lG (.tmp 2) B0.out ?_) | (with_reducible refine lG (.tmp 3) B1.out ?_))
 with_reducible refine (SM.out _ K0.out K1.out HT.out).mono ?_
 rintro e w3 ⟨q, rfl, k, hb⟩
 replace B0 := kB B0 hb
 replace K0 := kH K0 hb
 replace B1 := kB B1 hb
 replace K1 := kH K1 hb
 replace R0 := kB R0 hb
 replace HW := kW HW hb
 replace HT := kT HT hb
 clear hb
 replace k := hI k
 go_wp2_with (first | (with_reducible refine lG (.tmp 2) B0.out ?_) | (with_reducible refine lG (.tmp 3) B1.out ?_))
 with_reducible refine (WI.out _ q k.out).mono ?_
 rintro e w4 ⟨q2, rfl, k2, hb⟩
 replace B0 := kB B0 hb
 replace K0 := kH K0 hb
 replace B1 := kB B1 hb
 replace K1 := kH K1 hb
 replace R0 := kB R0 hb
 replace HW := kW HW hb
 replace HT := kT HT hb
 replace k := kH k hb
 clear hb
 replace k2 := hI k2
 go_wp2_with (first | (with_reducible refine sB (.tmp 4) (.tmp 19) k2.out R0.out ?_) | (with_reducible refine lG (.tmp 2) B0.out ?_) | (with_reducible refine lG (.tmp 3) B1.out ?_))
 exact retHBs rfl rfl rfl R0.out rfl k2.out (by omega) HW.out
theorem validE (a : On) (p : Value) (w : World) (na : a.nf) (hb : a.ob.bd 90) (hn : a.ob.nodes ≤ 3000) (hp : Hd w a.ob p) (ht : Tab w) : Calls Tryz.prog 29 #[vO a.ob p] w (RetB w true) := by
 have h := validH a.ob p w hb hn hp ht
 rw [ordOf_ob na] at h
 exact h
theorem addH (a b : On) (p p' : Value) (w : World) (na : a.nf) (nb : b.nf) (ha : a.ob.bd 90) (hb : b.ob.bd 90) (hs : (addE a b).ob.bd 90) (sa : a.ob.nodes ≤ 3000) (sb : b.ob.nodes ≤ 3000) (ss : (addE a b).ob.nodes ≤ 3000)
 (hp : Hd w a.ob p) (hp' : Hd w b.ob p') (ht : Tab w) : Calls Tryz.prog 13 #[vO a.ob p, vO b.ob p'] w (RetHB w (addE a b).ob true) :=
 addTop a.ob b.ob (addE a b).ob p p' w hp hp' ht (fun X h hT => validE a p X na ha sa h hT) (fun X h hT => validE b p' X nb hb sb h hT)
  (fun X h h' hT => sumE a b p p' X na nb ha hb h h' hT) (fun X q h => withinH _ q X hs ss h)
section
variable {Q : Exit → Act → World → Prop}
theorem set_getD {l : Array Bool} {i : Nat} : (l.setIfInBounds i true).getD i true = true := by
 rcases Nat.lt_or_ge i l.size with h' | h' <;> simp [h']
theorem wp_region_growS {id : Nat} {a0 : Act} {w0 : World} {l : List Oper} (n : Nat) (hm : Tryz.prog.follows .mixedOrders = true) (hB : invB .any l.toArray (n + 1) = true)
 (d : Nat → Nat) (R : Nat → Value → Nat → Nat → World → Prop) (hR : ∀ i x l m w w', R i x l m w → m ≤ w.heap.size → Below w.heap.size w w' → R i x l m w')
 (hd : ∀ i j, i < n → j < n → d i = d j → i = j) (hds : ∀ i, i < n → d i < a0.tmps.size)
 (late : List Nat) (hlate : ((List.range n).all fun i => late.contains i || Region.waitsFor .any l.toArray n i) = true)
 (kb kv : Nat) (hkb : kb < n) (hkv : kv < n) (hwb : Region.waitsFor .any l.toArray n kb = true) (hwv : Region.waitsFor .any l.toArray n kv = true)
 (os : Oper) (hos : l[n]? = some os) (hog : os.guard = none) (hod : os.dst = none) (hop : os.op = .store 35 (.tmp (d kb)) (.tmp (d kv)))
 (hRb : ∀ v lo hi w, R kb v lo hi w → LBx v lo hi w) (o : Ob) (hRv : ∀ v lo hi w, R kv v lo hi w → ∃ p, v = vO o p ∧ Hd w o p)
 (step : ∀ i, i < n → ∀ (a : Act) (w : World) (v : Nat → Value) (lo hi : Nat → Nat), (∀ s, (∀ j, j < n → d j ≠ s) → a.tmps[s]? = a0.tmps[s]?) → Below w0.heap.size w0 w →
  (∀ j, j < n → Region.waitsFor .any l.toArray i j = true → a.tmps[d j]? = some (v j) ∧ R j (v j) (lo j) (hi j) w ∧ w0.heap.size ≤ lo j ∧ hi j ≤ w.heap.size) →
  wpOp Tryz.prog l.toArray Q i (fun a' w' => ∃ x, a' = a.put (some (d i)) x ∧ Below w.heap.size w w' ∧ R i x w.heap.size w'.heap.size w') a w)
 (stepL : ∀ i, i < n → late.contains i = true → ∀ (a : Act) (w1 w : World) (v : Nat → Value) (lo hi : Nat → Nat),
  (∀ j, j < n → Region.waitsFor .any l.toArray i j = true → a.tmps[d j]? = some (v j) ∧ R j (v j) (lo j) (hi j) w1) →
  wpOp Tryz.prog l.toArray Q i (fun a' w' => ∃ x, a' = a.put (some (d i)) x ∧ w' = w ∧ R i x w1.heap.size w1.heap.size w1) a w)
 (done : ∀ (a : Act) (w : World) (v : Nat → Value) (lo hi : Nat → Nat) (p : Value), a.defers = a0.defers → a.tmps.size = a0.tmps.size → (∀ s, (∀ j, j < n → d j ≠ s) → a.tmps[s]? = a0.tmps[s]?) → Below w0.heap.size w0 w →
  (∀ j, j < n → a.tmps[d j]? = some (v j) ∧ R j (v j) (lo j) (hi j) w ∧ w0.heap.size ≤ lo j ∧ hi j ≤ w.heap.size) → (∀ i j, i < n → j < n → i ≠ j → hi i ≤ lo j ∨ hi j ≤ lo i) →
  v kv = vO o p → Hd w o p → v kb = .pointer (some ⟨lo kb, 0, none⟩) → Bx w (lo kb) zeroC →
  wpList Tryz.prog l.toArray Q (l.drop (n + 1)) a (w.setRow (lo kb) (cellsO o p).toArray)) :
 (Code.region id l.toArray true).wp Tryz.prog Q a0 w0 := by
 have hn : n + 1 < l.length := by
  simp only [invB, Bool.and_eq_true, decide_eq_true_eq] at hB
  simpa using hB.1.1.1.1
 have hwait : ∀ i, i < n → late.contains i = false → Region.waitsFor .any l.toArray n i = true := fun i hi hl => by
  have h1 := List.all_eq_true.1 hlate i (List.mem_range.2 hi)
  rw [hl] at h1
  simpa using h1
 refine wp_region_inv (n + 1) hm hB (fun listed a w => listed.size = l.length ∧
  ((listed.getD n true = false ∧ ∃ v lo hi, Grow n d R a0 w0 listed a w v lo hi) ∨
   (listed.getD n true = true ∧ (∀ i, i < n → Region.waitsFor .any l.toArray n i = true → listed.getD i true = true) ∧
    ∃ v lo hi w1 p, Grow n d R a0 w0 listed a w1 v lo hi ∧ v kv = vO o p ∧ Hd w1 o p ∧ v kb = .pointer (some ⟨lo kb, 0, none⟩) ∧ Bx w1 (lo kb) zeroC ∧ w = w1.setRow (lo kb) (cellsO o p).toArray))) ?_ ?_ ?_
 · refine ⟨by simp, .inl ⟨?_, fun _ => undef, fun _ => 0, fun _ => 0, rfl, rfl, fun _ _ => rfl, ⟨rfl, rfl, rfl, Nat.le_refl _, fun _ _ => rfl⟩, fun i hi hl => ?_, fun i j hi hj _ hl => ?_⟩⟩
   · have hlt : n < l.length := by omega
     simp [hlt]
   · have : (Array.replicate l.length false).getD i true = false := by
      have hlt : i < l.length := by omega
      simp [hlt]
     rw [this] at hl; cases hl
   · have : (Array.replicate l.length false).getD i true = false := by
      have hlt : i < l.length := by omega
      simp [hlt]
     rw [this] at hl; cases hl
 · rintro listed a w i hi hr ⟨hsz, hph⟩
   obtain ⟨hun, oi, hoi, hall⟩ := mem_ready.1 hr
   have hwl : ∀ j, j < l.length → Region.waitsFor .any l.toArray i j = true → listed.getD j true = true := fun j hj hw => by
    obtain ⟨oj, hoj, e, he, hbn, hon⟩ := Region.waitsFor_spec hw
    have : oj = oi := Option.some.inj (hoj.symm.trans hoi)
    subst this
    have hlj := hall e he hbn
    rw [hon] at hlj
    have hjl : j < listed.size := by omega
    simp [hjl] at hlj ⊢
    exact hlj
   have hgrow : ∀ k, listed.getD k true = true → (listed.setIfInBounds i true).getD k true = true := fun k hk => by
    by_cases e : i = k
    · subst e; exact set_getD
    · rw [Go.getD_set_ne true e]; exact hk
   rcases hph with ⟨hnl, v, lo, hi', hG⟩ | ⟨hnl, hwt, v, lo, hi', w1, p, hG, hv, hp, hvb, hb, rfl⟩
   · by_cases hin : i = n
     · subst hin
       have hb := hwl kb (by omega) hwb
       have hvv := hwl kv (by omega) hwv
       obtain ⟨sb, rb, _, _, _⟩ := hG.slot kb hkb hb
       obtain ⟨sv, rv, _, _, _⟩ := hG.slot kv hkv hvv
       obtain ⟨eb, bb, lb⟩ := hRb _ _ _ _ rb
       obtain ⟨p, ev, hp⟩ := hRv _ _ _ _ rv
       have hosl : l.toArray[i]? = some os := by simpa using hos
       refine wpOp_step hosl fun K' hK' => ?_
       rw [if_pos (wanted_plain hog)]
       refine wp_store_row 35 _ _ hop (lo kb) (cellsO o p).toArray ((eval_of sb).trans eb) ((eval_of sv).trans ev) _ _ bb (by rw [List.size_toArray, cellsO_length]; kernel_rfl) (by simp [zeroC, cellsO_length]) (Pair.one hp) ?_
       refine hK' _ _ ⟨by simpa using hsz, .inr ⟨set_getD, fun j hj hw => hgrow j (hwl j (by omega) hw), v, lo, hi', w, p, ?_, ev, hp, eb, bb, rfl⟩⟩
       rw [hod]
       have hset : ∀ j, j < i → (listed.setIfInBounds i true).getD j true = listed.getD j true := fun j hj => Go.getD_set_ne true (by omega)
       exact ⟨hG.defers, hG.size, hG.other, hG.below, fun j hj hl => hG.slot j hj (by rw [← hset j hj]; exact hl), fun j k hj hk hne hl hl2 => hG.apart j k hj hk hne (by rw [← hset j hj]; exact hl) (by rw [← hset k hk]; exact hl2)⟩
     · have hi2 : i < n := by omega
       refine wpOp_mono ?_ (step i hi2 a w v lo hi' hG.other hG.below (fun j hj hw => ?_))
       · rintro a' w' ⟨x, rfl, hb, hx⟩
         refine ⟨by simpa using hsz, .inl ⟨?_, _, _, _, hG.step hR hd hds hi2 (by omega) hun hb hx⟩⟩
         rw [Go.getD_set_ne true (by omega)]; exact hnl
       · obtain ⟨h1, h2, h3, h4, h5⟩ := hG.slot j hj (hwl j (by omega) hw)
         exact ⟨h1, h2, h3, h5⟩
   · have hin : i ≠ n := fun e => by rw [e, hnl] at hun; cases hun
     have hi2 : i < n := by omega
     have hcl : late.contains i = true := by
      cases hc : late.contains i with
      | true => rfl
      | false => rw [hwt i hi2 (hwait i hi2 hc)] at hun; cases hun
     have hb1 := hwt kb hkb hwb
     have hb2 := hwt kv hkv hwv
     have n1 : ¬ kb = i := fun e => by rw [← e, hb1] at hun; cases hun
     have n2 : ¬ kv = i := fun e => by rw [← e, hb2] at hun; cases hun
     refine wpOp_mono ?_ (stepL i hi2 hcl a w1 (w1.setRow (lo kb) (cellsO o p).toArray) v lo hi' (fun j hj hw => ?_))
     · rintro a' w' ⟨x, rfl, rfl, hx⟩
       refine ⟨by simpa using hsz, .inr ⟨hgrow n hnl, fun j hj hw => hgrow j (hwt j hj hw), _, _, _, w1, p, hG.step hR hd hds hi2 (by omega) hun (Below.refl _ _) hx, ?_, hp, ?_, ?_, ?_⟩⟩
       · simp only [if_neg n2]; exact hv
       · simp only [if_neg n1]; exact hvb
       · simp only [if_neg n1]; exact hb
       · simp only [if_neg n1]
     · obtain ⟨h1, h2, _, _, _⟩ := hG.slot j hj (hwl j (by omega) hw)
       exact ⟨h1, h2⟩
 · rintro a w ⟨hsz, hph⟩
   have hfull : ∀ i, i < n + 1 → (fullHead (n + 1) (l.length - (n + 1))).getD i true = true := fun i hi => by
    have hlt : i < (fullHead (n + 1) (l.length - (n + 1))).size := by simp [fullHead]; omega
    simp [fullHead, hi, List.getElem?_append]
   rcases hph with ⟨hnl, _⟩ | ⟨hnl, hwt, v, lo, hi', w1, p, hG, hv, hp, hvb, hb, rfl⟩
   · rw [hfull n (by omega)] at hnl; cases hnl
   · exact done a w1 v lo hi' p hG.defers hG.size hG.other hG.below (fun j hj => by
      obtain ⟨h1, h2, h3, h4, h5⟩ := hG.slot j hj (hfull j (by omega))
      exact ⟨h1, h2, h3, h5⟩) (fun i j hi hj hne => hG.apart i j hi hj hne (hfull i (by omega)) (hfull j (by omega))) hv hp hvb hb
end
theorem productH (x y : Rat) (p p' : Value) (w : World) (hx : Bd 90 x) (hy : Bd 90 y) (hp : Hd w (.num x) p) (hp' : Hd w (.num y) p') (ht : Tab w) :
 Calls Tryz.prog 90 #[vO (.num x) p, vO (.num y) p'] w (RetH w (.num (x * y))) :=
 (productP 90 (by decide) (.num x) (.num y) p p' w (Has w) hp.pair hp'.pair hx hy ht).mono fun _ _ h => h.h
theorem nodesH (o : Ob) (p : Value) (w : World) (hn : o.nodes ≤ 3000) (h : Hd w o p) : Calls Tryz.prog 69 #[vO o p] w (RetI w (o.nodes : Int)) := nodesP o p w (Has w) (In.has w) h.pair hn
theorem gr_sub {Q : Exit → Act → World → Prop} {ops : Array Oper} {K : Act → World → Prop} {a : Act} {w : World} {i : Nat} {o : Oper} (ho : ops[i]? = some o) (hg : o.guard = none) (s t : Tmp) (x y : Int)
 (hop : o.op = Op.binOp BinOp.sub 3 (.tmp s) (.tmp t) 3) (hx : a.tmps[s]? = some (.int .i64 x)) (hy : a.tmps[t]? = some (.int .i64 y)) (hw : IntKind.i64.wrap (x - y) = x - y) (hK : K (a.put o.dst (.int .i64 (x - y))) w) : wpOp Tryz.prog ops Q i K a w :=
 wpOp_step ho fun K' hK' => by
  rw [if_pos (wanted_plain hg)]
  unfold Oper.wp
  simp only [execOp, hop]
  go_simp
  exact hK' _ _ hK
theorem multFin (a b s : Ob) (p p' : Value) (w : World) (hf : a.isNum = true) (hp : Hd w a p) (hp' : Hd w b p') (ht : Tab w)
 (sM : ∀ X, Hd X a p → Hd X b p' → Tab X → Calls Tryz.prog 90 #[vO a p, vO b p'] X (RetH X s)) :
 Calls Tryz.prog 68 #[vO a p, vO b p'] w (RetH w s) := by
 have SM := hI sM
 clear sM
 obtain ⟨a0, a1, a2, a3, a4, a5, ea⟩ := cells7 (a) p
 obtain ⟨b0, b1, b2, b3, b4, b5, eb⟩ := cells7 (b) p'
 have T := Bx3.new w #[a0, a1, a2, a3, a4, a5, p] #[b0, b1, b2, b3, b4, b5, p'] #[.int .i64 0, .string ⟨#[]⟩, .string ⟨#[]⟩, .string ⟨#[]⟩, .string ⟨#[]⟩, .string ⟨#[]⟩, .slice none 0 0]
 rw [vO_cells ea, vO_cells eb]
 go_enter Tryz.func68, Tryz.ntmps68
 go_wp2_with fail
 generalize ((w.alloc (.cells #[a0, a1, a2, a3, a4, a5, p] 35)).alloc (.cells #[b0, b1, b2, b3, b4, b5, p'] 35)).alloc (.cells #[.int .i64 0, .string ⟨#[]⟩, .string ⟨#[]⟩, .string ⟨#[]⟩, .string ⟨#[]⟩, .string ⟨#[]⟩, .slice none 0 0] 35) = W at T ⊢
 have B0 : Hid (Bx W (w.heap.size) (cellsO (a) p).toArray) := by rw [ea]; exact T.b0
 have K0 := hI (hp.below T.bel)
 have B1 : Hid (Bx W (w.heap.size + 1) (cellsO (b) p').toArray) := by rw [eb]; exact T.b1
 have K1 := hI (hp'.below T.bel)
 have R0 := hI T.b2
 have HW := hI T.bel
 have HT := hI (ht.below T.bel)
 try rw [← vO_cells ea]
 try rw [← vO_cells eb]
 clear T ea eb hp hp' ht
 with_reducible refine (isFinH a p _ true hf).mono ?_
 rintro e w1 ⟨rfl, hb⟩
 replace B0 := kB B0 hb
 replace K0 := kH K0 hb
 replace B1 := kB B1 hb
 replace K1 := kH K1 hb
 replace R0 := kB R0 hb
 replace HW := kW HW hb
 replace HT := kT HT hb
 clear hb
 go_wp2_with (first | (with_reducible refine lG (.tmp 2) B0.out ?_) | (with_reducible refine lG (.tmp 3) B1.out ?_))
 with_reducible refine (SM.out _ K0.out K1.out HT.out).mono ?_
 rintro e w2 ⟨p5, rfl, k5, hb⟩
 replace B0 := kB B0 hb
 replace K0 := kH K0 hb
 replace B1 := kB B1 hb
 replace K1 := kH K1 hb
 replace R0 := kB R0 hb
 replace HW := kW HW hb
 replace HT := kT HT hb
 clear hb
 replace k5 := hI k5
 go_wp2_with (first | (with_reducible refine sB (.tmp 4) (.tmp 12) k5.out R0.out ?_) | (with_reducible refine lG (.tmp 2) B0.out ?_) | (with_reducible refine lG (.tmp 3) B1.out ?_))
 exact retHs rfl rfl R0.out rfl k5.out (by omega) HW.out
theorem multInf (e c r b s : Ob) (p p' : Value) (w : World) (hp : Hd w (.cons (.cons e c) r) p) (hp' : Hd w b p') (ht : Tab w)
 (sM : ∀ X q, Hd X c q → Hd X b p' → Tab X → Calls Tryz.prog 90 #[vO c q, vO b p'] X (RetH X s)) :
 Calls Tryz.prog 68 #[vO (.cons (.cons e c) r) p, vO b p'] w (RetH w (.cons (.cons e s) r)) := by
 have SM := hI sM
 clear sM
 obtain ⟨a0, a1, a2, a3, a4, a5, ea⟩ := cells7 (.cons (.cons e c) r) p
 obtain ⟨b0, b1, b2, b3, b4, b5, eb⟩ := cells7 (b) p'
 have T := Bx3.new w #[a0, a1, a2, a3, a4, a5, p] #[b0, b1, b2, b3, b4, b5, p'] #[.int .i64 0, .string ⟨#[]⟩, .string ⟨#[]⟩, .string ⟨#[]⟩, .string ⟨#[]⟩, .string ⟨#[]⟩, .slice none 0 0]
 rw [vO_cells ea, vO_cells eb]
 go_enter Tryz.func68, Tryz.ntmps68
 go_wp2_with fail
 generalize ((w.alloc (.cells #[a0, a1, a2, a3, a4, a5, p] 35)).alloc (.cells #[b0, b1, b2, b3, b4, b5, p'] 35)).alloc (.cells #[.int .i64 0, .string ⟨#[]⟩, .string ⟨#[]⟩, .string ⟨#[]⟩, .string ⟨#[]⟩, .string ⟨#[]⟩, .slice none 0 0] 35) = W at T ⊢
 have B0 : Hid (Bx W (w.heap.size) (cellsO (.cons (.cons e c) r) p).toArray) := by rw [ea]; exact T.b0
 have K0 := hI (hp.below T.bel)
 have B1 : Hid (Bx W (w.heap.size + 1) (cellsO (b) p').toArray) := by rw [eb]; exact T.b1
 have K1 := hI (hp'.below T.bel)
 have R0 := hI T.b2
 have HW := hI T.bel
 have HT := hI (ht.below T.bel)
 try rw [← vO_cells ea]
 try rw [← vO_cells eb]
 clear T ea eb hp hp' ht
 with_reducible refine (isFinH (.cons (.cons e c) r) p _ false rfl).mono ?_
 rintro e w1 ⟨rfl, hb⟩
 replace B0 := kB B0 hb
 replace K0 := kH K0 hb
 replace B1 := kB B1 hb
 replace K1 := kH K1 hb
 replace R0 := kB R0 hb
 replace HW := kW HW hb
 replace HT := kT HT hb
 clear hb
 go_wp2_with (first | (with_reducible refine lG (.tmp 2) B0.out ?_) | (with_reducible refine lG (.tmp 3) B1.out ?_))
 with_reducible refine (partsCons e c r p _ K0.out).mono ?_
 rintro e w2 ⟨q0, q1, q2, rfl, k0, k1, k2, hb⟩
 replace B0 := kB B0 hb
 replace K0 := kH K0 hb
 replace B1 := kB B1 hb
 replace K1 := kH K1 hb
 replace R0 := kB R0 hb
 replace HW := kW HW hb
 replace HT := kT HT hb
 clear hb
 replace k0 := hI k0
 replace k1 := hI k1
 replace k2 := hI k2
 have T := hI (Bx3.new w2 #[.int .i64 0, .string ⟨#[]⟩, .string ⟨#[]⟩, .string ⟨#[]⟩, .string ⟨#[]⟩, .string ⟨#[]⟩, .slice none 0 0] #[.int .i64 0, .string ⟨#[]⟩, .string ⟨#[]⟩, .string ⟨#[]⟩, .string ⟨#[]⟩, .string ⟨#[]⟩, .slice none 0 0] #[.int .i64 0, .string ⟨#[]⟩, .string ⟨#[]⟩, .string ⟨#[]⟩, .string ⟨#[]⟩, .string ⟨#[]⟩, .slice none 0 0])
 try unfold zeroC at T
 go_wp2_with (first | (with_reducible refine sB (.tmp 5) (.tmp 16) k0.out T.out.b0 ?_) | (with_reducible refine sB (.tmp 6) (.tmp 17) k1.out T.out.n1 ?_) | (with_reducible refine sB (.tmp 7) (.tmp 18) k2.out T.out.n2 ?_; have P := Pt3.new (w := w2) (o0 := e) (o1 := c) (o2 := r) (p0 := q0) (p1 := q1) (p2 := q2) (z0 := #[.int .i64 0, .string ⟨#[]⟩, .string ⟨#[]⟩, .string ⟨#[]⟩, .string ⟨#[]⟩, .string ⟨#[]⟩, .slice none 0 0]) (z1 := #[.int .i64 0, .string ⟨#[]⟩, .string ⟨#[]⟩, .string ⟨#[]⟩, .string ⟨#[]⟩, .string ⟨#[]⟩, .slice none 0 0]) (z2 := #[.int .i64 0, .string ⟨#[]⟩, .string ⟨#[]⟩, .string ⟨#[]⟩, .string ⟨#[]⟩, .string ⟨#[]⟩, .slice none 0 0]); generalize World.setRow (World.setRow (World.setRow (((w2.alloc (.cells #[.int .i64 0, .string ⟨#[]⟩, .string ⟨#[]⟩, .string ⟨#[]⟩, .string ⟨#[]⟩, .string ⟨#[]⟩, .slice none 0 0] 35)).alloc (.cells #[.int .i64 0, .string ⟨#[]⟩, .string ⟨#[]⟩, .string ⟨#[]⟩, .string ⟨#[]⟩, .string ⟨#[]⟩, .slice none 0 0] 35)).alloc (.cells #[.int .i64 0, .string ⟨#[]⟩, .string ⟨#[]⟩, .string ⟨#[]⟩, .string ⟨#[]⟩, .string ⟨#[]⟩, .slice none 0 0] 35)) (w2.heap.size) (cellsO (e) q0).toArray) (w2.heap.size + 1) (cellsO (c) q1).toArray) (w2.heap.size + 1 + 1) (cellsO (r) q2).toArray = X2 at P ⊢; have hb := P.bel; replace B0 := kB B0 hb; replace K0 := kH K0 hb; replace B1 := kB B1 hb; replace K1 := kH K1 hb; replace R0 := kB R0 hb; replace HW := kW HW hb; replace HT := kT HT hb; replace k0 := kH k0 hb; replace k1 := kH k1 hb; replace k2 := kH k2 hb; have D0 := hI P.b0; have D1 := hI P.b1; have D2 := hI P.b2; clear P hb T) | (with_reducible refine lG (.tmp 2) B0.out ?_) | (with_reducible refine lG (.tmp 3) B1.out ?_) | (with_reducible refine lG (.tmp 5) D0.out ?_) | (with_reducible refine lG (.tmp 6) D1.out ?_) | (with_reducible refine lG (.tmp 7) D2.out ?_))
 refine wp_region_grow (l := _) 6 (by kernel_rfl) (by kernel_rfl) (fun i => [19, 20, 21, 22, 23, 24].getD i 0) (LR [LV (vO (e) q0), LV (vO (c) q1), LV (vO (b) p'), LH (s), LV (vO (r) q2), LH (.cons (.cons e s) r)]) (LR_mono ⟨mLV _, mLV _, mLV _, mLH _, mLV _, mLH _, trivial⟩) (by
  intro i j hi hj h
  exact inj_getD [19, 20, 21, 22, 23, 24] (by decide) i j hi hj h) (by
  intro i hi
  exact lt_getD 25 [19, 20, 21, 22, 23, 24] (by decide) i hi) ?step ?done
 case step =>
  intro i hi a w9 v lo hi' hoth hb hw
  have sl5 : a.tmps[5]? = some (.pointer (some ⟨w2.heap.size, 0, none⟩)) := (hoth 5 (fun j hj => ne_getD 5 _ (by decide) j hj)).trans rfl
  have sl6 : a.tmps[6]? = some (.pointer (some ⟨w2.heap.size + 1, 0, none⟩)) := (hoth 6 (fun j hj => ne_getD 6 _ (by decide) j hj)).trans rfl
  have sl3 : a.tmps[3]? = some (.pointer (some ⟨w.heap.size + 1, 0, none⟩)) := (hoth 3 (fun j hj => ne_getD 3 _ (by decide) j hj)).trans rfl
  have sl7 : a.tmps[7]? = some (.pointer (some ⟨w2.heap.size + 1 + 1, 0, none⟩)) := (hoth 7 (fun j hj => ne_getD 7 _ (by decide) j hj)).trans rfl
  match i, hi with
  | 0, _ =>
   exact gr_box rfl rfl (.tmp 5) rfl (eval_of sl5) (D0.out.keep hb) ⟨_, rfl, Below.refl _ _, rfl⟩
  | 1, _ =>
   exact gr_box rfl rfl (.tmp 6) rfl (eval_of sl6) (D1.out.keep hb) ⟨_, rfl, Below.refl _ _, rfl⟩
  | 2, _ =>
   exact gr_box rfl rfl (.tmp 3) rfl (eval_of sl3) (B1.out.keep hb) ⟨_, rfl, Below.refl _ _, rfl⟩
  | 3, _ =>
   obtain ⟨s0, r0, _⟩ := hw 1 (by omega) (by kernel_rfl)
   have e0 : v 1 = vO (c) q1 := r0
   rw [e0] at s0
   obtain ⟨s1, r1, _⟩ := hw 2 (by omega) (by kernel_rfl)
   have e1 : v 2 = vO (b) p' := r1
   rw [e1] at s1
   refine gr_tt rfl rfl 90 20 21 _ _ _ rfl (fun v u w => by go_simp) s0 s1 ?_
   with_reducible refine (SM.out w9 q1 (k1.out.below hb) (K1.out.below hb) (HT.out.below hb)).mono ?_
   rintro e w3 ⟨p, rfl, hp, hb3⟩
   exact ⟨_, rfl, _, rfl, hb3, p, rfl, hp⟩
  | 4, _ =>
   exact gr_box rfl rfl (.tmp 7) rfl (eval_of sl7) (D2.out.keep hb) ⟨_, rfl, Below.refl _ _, rfl⟩
  | 5, _ =>
   obtain ⟨s0, r0, _⟩ := hw 0 (by omega) (by kernel_rfl)
   have e0 : v 0 = vO (e) q0 := r0
   rw [e0] at s0
   obtain ⟨s1, r1, _⟩ := hw 3 (by omega) (by kernel_rfl)
   obtain ⟨q1, e1, k1⟩ : LH (s) (v 3) (lo 3) (hi' 3) w9 := r1
   rw [e1] at s1
   obtain ⟨s2, r2, _⟩ := hw 4 (by omega) (by kernel_rfl)
   have e2 : v 4 = vO (r) q2 := r2
   rw [e2] at s2
   refine gr_ttt rfl rfl 42 19 22 23 _ _ _ _ rfl (fun v u x w => by go_simp) s0 s1 s2 ?_
   with_reducible refine (powerP e s r q0 q1 q2 w9 (k0.out.below hb) k1 (k2.out.below hb)).mono ?_
   rintro e w3 ⟨p, rfl, hp, hb3⟩
   exact ⟨_, rfl, _, rfl, hb3, p, rfl, hp⟩
 case done =>
  intro a w9 v lo hi' hdef hsz hoth hb hj hap
  obtain ⟨_, ⟨p5, hv5, k5⟩, hlo5, hhi5⟩ := hj 5 (by omega)
  have ha := eq_puts hdef hsz hoth (fun i hi => (hj i hi).1)
  subst ha
  clear hj hoth hdef hsz hap
  simp only [puts, List.getD_cons_zero, List.getD_cons_succ, hv5]
  generalize v 0 = v0
  generalize v 1 = v1
  generalize v 2 = v2
  generalize v 3 = v3
  generalize v 4 = v4
  clear hv5
  simp only [Act.put, List.setIfInBounds_toArray, List.set_cons_zero, List.set_cons_succ]
  show wpList _ _ _ [_] _ _
  replace B0 := kB B0 hb
  replace K0 := kH K0 hb
  replace B1 := kB B1 hb
  replace K1 := kH K1 hb
  replace R0 := kB R0 hb
  replace HW := kW HW hb
  replace HT := kT HT hb
  replace k0 := kH k0 hb
  replace k1 := kH k1 hb
  replace k2 := kH k2 hb
  replace D0 := kB D0 hb
  replace D1 := kB D1 hb
  replace D2 := kB D2 hb
  clear hb
  replace k5 := hI k5
  go_wp2_with (first | (with_reducible refine sB (.tmp 4) (.tmp 24) k5.out R0.out ?_) | (with_reducible refine lG (.tmp 2) B0.out ?_) | (with_reducible refine lG (.tmp 3) B1.out ?_) | (with_reducible refine lG (.tmp 5) D0.out ?_) | (with_reducible refine lG (.tmp 6) D1.out ?_) | (with_reducible refine lG (.tmp 7) D2.out ?_))
  exact retHs rfl rfl R0.out rfl k5.out (by omega) HW.out
theorem natMul (m n : Nat) : ((m : Rat) * (n : Rat)) = ((m * n : Nat) : Rat) := (Rat.natCast_mul m n).symm
theorem multipleE (a : On) (n : Nat) (p p' : Value) (w : World) (hn : n ≠ 0) (ha : a.ob.bd 90) (hb : (On.fin n).ob.bd 90) (hp : Hd w a.ob p) (hp' : Hd w (On.fin n).ob p') (ht : Tab w) :
 Calls Tryz.prog 68 #[vO a.ob p, vO (On.fin n).ob p'] w (RetH w (mulE a (.fin n)).ob) := by
 cases a with
 | fin m =>
  rw [mulE_fin]
  have h := multFin (On.fin m).ob (On.fin n).ob (.num ((m : Rat) * (n : Rat))) p p' w rfl hp hp' ht (fun X h h' hT => productH (m : Rat) (n : Rat) p p' X ha hb h h' hT)
  rw [natMul] at h
  exact h
 | pw e c r =>
  rw [mulE_pf hn]
  have h := multInf e.ob (.num (c : Rat)) r.ob (On.fin n).ob (.num ((c : Rat) * (n : Rat))) p p' w hp hp' ht (fun X q h h' hT => productH (c : Rat) (n : Rat) q p' X ha.1.2 hb h h' hT)
  rw [natMul] at h
  exact h
theorem prodZero1 (a b : Ob) (p p' : Value) (w : World) (m : Int) (hm : 0 ≤ m) (hz : a.numIs 0 = true)  (hp : Hd w a p) (hp' : Hd w b p') (ht : Tab w) :
 Calls Tryz.prog 45 #[vO a p, vO b p', .int .i64 m] w (RetHB w (.num ((0 : Int) : Rat)) true) := by
 have hm0 : ¬ m < 0 := by omega
 clear hm
 have HZ := hI hz
 clear hz
 obtain ⟨a0, a1, a2, a3, a4, a5, ea⟩ := cells7 (a) p
 obtain ⟨b0, b1, b2, b3, b4, b5, eb⟩ := cells7 (b) p'
 have T := Bx3.new w #[a0, a1, a2, a3, a4, a5, p] #[b0, b1, b2, b3, b4, b5, p'] #[.int .i64 0, .string ⟨#[]⟩, .string ⟨#[]⟩, .string ⟨#[]⟩, .string ⟨#[]⟩, .string ⟨#[]⟩, .slice none 0 0]
 rw [vO_cells ea, vO_cells eb]
 go_enter Tryz.func45, Tryz.ntmps45
 go_wp2_with fail
 generalize ((w.alloc (.cells #[a0, a1, a2, a3, a4, a5, p] 35)).alloc (.cells #[b0, b1, b2, b3, b4, b5, p'] 35)).alloc (.cells #[.int .i64 0, .string ⟨#[]⟩, .string ⟨#[]⟩, .string ⟨#[]⟩, .string ⟨#[]⟩, .string ⟨#[]⟩, .slice none 0 0] 35) = W at T ⊢
 have B0 : Hid (Bx W (w.heap.size) (cellsO (a) p).toArray) := by rw [ea]; exact T.b0
 have K0 := hI (hp.below T.bel)
 have B1 : Hid (Bx W (w.heap.size + 1) (cellsO (b) p').toArray) := by rw [eb]; exact T.b1
 have K1 := hI (hp'.below T.bel)
 have R0 := hI T.b2
 have HW := hI T.bel
 have HT := hI (ht.below T.bel)
 try rw [← vO_cells ea]
 try rw [← vO_cells eb]
 clear T ea eb hp hp' ht
 with_reducible refine (isZeroH a p _ true HZ.out).mono ?_
 rintro e w1 ⟨rfl, hb⟩
 replace B0 := kB B0 hb
 replace K0 := kH K0 hb
 replace B1 := kB B1 hb
 replace K1 := kH K1 hb
 replace R0 := kB R0 hb
 replace HW := kW HW hb
 replace HT := kT HT hb
 clear hb
 go_wp2_with (first | (with_reducible refine lG (.tmp 3) B0.out ?_) | (with_reducible refine lG (.tmp 4) B1.out ?_))
 with_reducible refine (int0H _ HT.out).mono ?_
 rintro e w2 ⟨q, rfl, k, hb⟩
 replace B0 := kB B0 hb
 replace K0 := kH K0 hb
 replace B1 := kB B1 hb
 replace K1 := kH K1 hb
 replace R0 := kB R0 hb
 replace HW := kW HW hb
 replace HT := kT HT hb
 clear hb
 replace k := hI k
 go_wp2_with (first | (with_reducible refine sB (.tmp 6) (.tmp 28) k.out R0.out ?_) | (with_reducible refine lG (.tmp 3) B0.out ?_) | (with_reducible refine lG (.tmp 4) B1.out ?_))
 exact retHBs rfl rfl rfl R0.out rfl k.out (by omega) HW.out
theorem prodZero2 (a b : Ob) (p p' : Value) (w : World) (m : Int) (hm : 0 ≤ m) (hz : a.numIs 0 = false) (hz2 : b.numIs 0 = true) (hp : Hd w a p) (hp' : Hd w b p') (ht : Tab w) :
 Calls Tryz.prog 45 #[vO a p, vO b p', .int .i64 m] w (RetHB w (.num ((0 : Int) : Rat)) true) := by
 have hm0 : ¬ m < 0 := by omega
 clear hm
 have HZ := hI hz
 have HZ2 := hI hz2
 clear hz hz2
 obtain ⟨a0, a1, a2, a3, a4, a5, ea⟩ := cells7 (a) p
 obtain ⟨b0, b1, b2, b3, b4, b5, eb⟩ := cells7 (b) p'
 have T := Bx3.new w #[a0, a1, a2, a3, a4, a5, p] #[b0, b1, b2, b3, b4, b5, p'] #[.int .i64 0, .string ⟨#[]⟩, .string ⟨#[]⟩, .string ⟨#[]⟩, .string ⟨#[]⟩, .string ⟨#[]⟩, .slice none 0 0]
 rw [vO_cells ea, vO_cells eb]
 go_enter Tryz.func45, Tryz.ntmps45
 go_wp2_with fail
 generalize ((w.alloc (.cells #[a0, a1, a2, a3, a4, a5, p] 35)).alloc (.cells #[b0, b1, b2, b3, b4, b5, p'] 35)).alloc (.cells #[.int .i64 0, .string ⟨#[]⟩, .string ⟨#[]⟩, .string ⟨#[]⟩, .string ⟨#[]⟩, .string ⟨#[]⟩, .slice none 0 0] 35) = W at T ⊢
 have B0 : Hid (Bx W (w.heap.size) (cellsO (a) p).toArray) := by rw [ea]; exact T.b0
 have K0 := hI (hp.below T.bel)
 have B1 : Hid (Bx W (w.heap.size + 1) (cellsO (b) p').toArray) := by rw [eb]; exact T.b1
 have K1 := hI (hp'.below T.bel)
 have R0 := hI T.b2
 have HW := hI T.bel
 have HT := hI (ht.below T.bel)
 try rw [← vO_cells ea]
 try rw [← vO_cells eb]
 clear T ea eb hp hp' ht
 with_reducible refine (isZeroH a p _ false HZ.out).mono ?_
 rintro e w1 ⟨rfl, hb⟩
 replace B0 := kB B0 hb
 replace K0 := kH K0 hb
 replace B1 := kB B1 hb
 replace K1 := kH K1 hb
 replace R0 := kB R0 hb
 replace HW := kW HW hb
 replace HT := kT HT hb
 clear hb
 go_wp2_with (first | (with_reducible refine lG (.tmp 3) B0.out ?_) | (with_reducible refine lG (.tmp 4) B1.out ?_))
 with_reducible refine (isZeroH b p' _ true HZ2.out).mono ?_
 rintro e w2 ⟨rfl, hb⟩
 replace B0 := kB B0 hb
 replace K0 := kH K0 hb
 replace B1 := kB B1 hb
 replace K1 := kH K1 hb
 replace R0 := kB R0 hb
 replace HW := kW HW hb
 replace HT := kT HT hb
 clear hb
 go_wp2_with (first | (with_reducible refine lG (.tmp 3) B0.out ?_) | (with_reducible refine lG (.tmp 4) B1.out ?_))
 with_reducible refine (int0H _ HT.out).mono ?_
 rintro e w3 ⟨q, rfl, k, hb⟩
 replace B0 := kB B0 hb
 replace K0 := kH K0 hb
 replace B1 := kB B1 hb
 replace K1 := kH K1 hb
 replace R0 := kB R0 hb
 replace HW := kW HW hb
 replace HT := kT HT hb
 clear hb
 replace k := hI k
 go_wp2_with (first | (with_reducible refine sB (.tmp 6) (.tmp 28) k.out R0.out ?_) | (with_reducible refine lG (.tmp 3) B0.out ?_) | (with_reducible refine lG (.tmp 4) B1.out ?_))
 exact retHBs rfl rfl rfl R0.out rfl k.out (by omega) HW.out
theorem prodFin (a b s : Ob) (p p' : Value) (w : World) (m : Int) (hm : 0 ≤ m) (hz : a.numIs 0 = false) (hz2 : b.numIs 0 = false) (hf : b.isNum = true) (hp : Hd w a p) (hp' : Hd w b p') (ht : Tab w)
 (mU : ∀ X, Hd X a p → Hd X b p' → Tab X → Calls Tryz.prog 68 #[vO a p, vO b p'] X (RetH X s)) :
 Calls Tryz.prog 45 #[vO a p, vO b p', .int .i64 m] w (RetHB w s true) := by
 have hm0 : ¬ m < 0 := by omega
 clear hm
 have HZ := hI hz
 have HZ2 := hI hz2
 have MU := hI mU
 clear hz hz2 mU
 obtain ⟨a0, a1, a2, a3, a4, a5, ea⟩ := cells7 (a) p
 obtain ⟨b0, b1, b2, b3, b4, b5, eb⟩ := cells7 (b) p'
 have T := Bx3.new w #[a0, a1, a2, a3, a4, a5, p] #[b0, b1, b2, b3, b4, b5, p'] #[.int .i64 0, .string ⟨#[]⟩, .string ⟨#[]⟩, .string ⟨#[]⟩, .string ⟨#[]⟩, .string ⟨#[]⟩, .slice none 0 0]
 rw [vO_cells ea, vO_cells eb]
 go_enter Tryz.func45, Tryz.ntmps45
 go_wp2_with fail
 generalize ((w.alloc (.cells #[a0, a1, a2, a3, a4, a5, p] 35)).alloc (.cells #[b0, b1, b2, b3, b4, b5, p'] 35)).alloc (.cells #[.int .i64 0, .string ⟨#[]⟩, .string ⟨#[]⟩, .string ⟨#[]⟩, .string ⟨#[]⟩, .string ⟨#[]⟩, .slice none 0 0] 35) = W at T ⊢
 have B0 : Hid (Bx W (w.heap.size) (cellsO (a) p).toArray) := by rw [ea]; exact T.b0
 have K0 := hI (hp.below T.bel)
 have B1 : Hid (Bx W (w.heap.size + 1) (cellsO (b) p').toArray) := by rw [eb]; exact T.b1
 have K1 := hI (hp'.below T.bel)
 have R0 := hI T.b2
 have HW := hI T.bel
 have HT := hI (ht.below T.bel)
 try rw [← vO_cells ea]
 try rw [← vO_cells eb]
 clear T ea eb hp hp' ht
 with_reducible refine (isZeroH a p _ false HZ.out).mono ?_
 rintro e w1 ⟨rfl, hb⟩
 replace B0 := kB B0 hb
 replace K0 := kH K0 hb
 replace B1 := kB B1 hb
 replace K1 := kH K1 hb
 replace R0 := kB R0 hb
 replace HW := kW HW hb
 replace HT := kT HT hb
 clear hb
 go_wp2_with (first | (with_reducible refine lG (.tmp 3) B0.out ?_) | (with_reducible refine lG (.tmp 4) B1.out ?_))
 with_reducible refine (isZeroH b p' _ false HZ2.out).mono ?_
 rintro e w2 ⟨rfl, hb⟩
 replace B0 := kB B0 hb
 replace K0 := kH K0 hb
 replace B1 := kB B1 hb
 replace K1 := kH K1 hb
 replace R0 := kB R0 hb
 replace HW := kW HW hb
 replace HT := kT HT hb
 clear hb
 go_wp2_with (first | (with_reducible refine lG (.tmp 3) B0.out ?_) | (with_reducible refine lG (.tmp 4) B1.out ?_))
 with_reducible refine (isFinH b p' _ true hf).mono ?_
 rintro e w3 ⟨rfl, hb⟩
 replace B0 := kB B0 hb
 replace K0 := kH K0 hb
 replace B1 := kB B1 hb
 replace K1 := kH K1 hb
 replace R0 := kB R0 hb
 replace HW := kW HW hb
 replace HT := kT HT hb
 clear hb
 go_wp2_with (first | (with_reducible refine lG (.tmp 3) B0.out ?_) | (with_reducible refine lG (.tmp 4) B1.out ?_))
 with_reducible refine (MU.out _ K0.out K1.out HT.out).mono ?_
 rintro e w4 ⟨q, rfl, k, hb⟩
 replace B0 := kB B0 hb
 replace K0 := kH K0 hb
 replace B1 := kB B1 hb
 replace K1 := kH K1 hb
 replace R0 := kB R0 hb
 replace HW := kW HW hb
 replace HT := kT HT hb
 clear hb
 replace k := hI k
 go_wp2_with (first | (with_reducible refine sB (.tmp 6) (.tmp 34) k.out R0.out ?_) | (with_reducible refine lG (.tmp 3) B0.out ?_) | (with_reducible refine lG (.tmp 4) B1.out ?_))
 exact retHBs rfl rfl rfl R0.out rfl k.out (by omega) HW.out
theorem prodInf (oa ob : Ob) (p p' : Value) (w : World) (m : Int) (hm : 0 ≤ m) (hz : oa.numIs 0 = false) (hz2 : ob.numIs 0 = false) (hf : ob.isNum = false) (hp : Hd w oa p) (hp' : Hd w ob p') (ht : Tab w)
 (e c r e' c' r' s s2 : Ob) (pA : ∀ X, Hd X oa p → Tab X → Calls Tryz.prog 55 #[vO oa p] X (RetP X e c r)) (pB : ∀ X, Hd X ob p' → Tab X → Calls Tryz.prog 55 #[vO ob p'] X (RetP X e' c' r'))
 (sM : ∀ X q t, Hd X e q → Hd X e' t → Tab X → Calls Tryz.prog 44 #[vO e q, vO e' t] X (RetH X s)) (hn : s.nodes ≤ 3000) (hwr : IntKind.i64.wrap (m - (s.nodes : Int)) = m - (s.nodes : Int))
 (iH : ∀ X t, Hd X oa p → Hd X r' t → Tab X → Calls Tryz.prog 45 #[vO oa p, vO r' t, .int .i64 (m - (s.nodes : Int))] X (RetHB X s2 true)) :
 Calls Tryz.prog 45 #[vO oa p, vO ob p', .int .i64 m] w (RetHB w (.cons (.cons s c') s2) true) := by
 have hm0 : ¬ m < 0 := by omega
 clear hm
 have HZ := hI hz
 have HZ2 := hI hz2
 have HF := hI hf
 have PA := hI pA
 have PB := hI pB
 have SM := hI sM
 have IH := hI iH
 have HN := hI hn
 have HWR := hI hwr
 clear hz hz2 hf pA pB sM iH hn hwr
 obtain ⟨a0, a1, a2, a3, a4, a5, ea⟩ := cells7 (oa) p
 obtain ⟨b0, b1, b2, b3, b4, b5, eb⟩ := cells7 (ob) p'
 have T := Bx3.new w #[a0, a1, a2, a3, a4, a5, p] #[b0, b1, b2, b3, b4, b5, p'] #[.int .i64 0, .string ⟨#[]⟩, .string ⟨#[]⟩, .string ⟨#[]⟩, .string ⟨#[]⟩, .string ⟨#[]⟩, .slice none 0 0]
 rw [vO_cells ea, vO_cells eb]
 go_enter Tryz.func45, Tryz.ntmps45
 go_wp2_with fail
 generalize ((w.alloc (.cells #[a0, a1, a2, a3, a4, a5, p] 35)).alloc (.cells #[b0, b1, b2, b3, b4, b5, p'] 35)).alloc (.cells #[.int .i64 0, .string ⟨#[]⟩, .string ⟨#[]⟩, .string ⟨#[]⟩, .string ⟨#[]⟩, .string ⟨#[]⟩, .slice none 0 0] 35) = W at T ⊢
 have B0 : Hid (Bx W (w.heap.size) (cellsO (oa) p).toArray) := by rw [ea]; exact T.b0
 have K0 := hI (hp.below T.bel)
 have B1 : Hid (Bx W (w.heap.size + 1) (cellsO (ob) p').toArray) := by rw [eb]; exact T.b1
 have K1 := hI (hp'.below T.bel)
 have R0 := hI T.b2
 have HW := hI T.bel
 have HT := hI (ht.below T.bel)
 try rw [← vO_cells ea]
 try rw [← vO_cells eb]
 clear T ea eb hp hp' ht
 with_reducible refine (isZeroH oa p _ false HZ.out).mono ?_
 rintro e w1 ⟨rfl, hb⟩
 replace B0 := kB B0 hb
 replace K0 := kH K0 hb
 replace B1 := kB B1 hb
 replace K1 := kH K1 hb
 replace R0 := kB R0 hb
 replace HW := kW HW hb
 replace HT := kT HT hb
 clear hb
 go_wp2_with (first | (with_reducible refine lG (.tmp 3) B0.out ?_) | (with_reducible refine lG (.tmp 4) B1.out ?_))
 with_reducible refine (isZeroH ob p' _ false HZ2.out).mono ?_
 rintro e w2 ⟨rfl, hb⟩
 replace B0 := kB B0 hb
 replace K0 := kH K0 hb
 replace B1 := kB B1 hb
 replace K1 := kH K1 hb
 replace R0 := kB R0 hb
 replace HW := kW HW hb
 replace HT := kT HT hb
 clear hb
 go_wp2_with (first | (with_reducible refine lG (.tmp 3) B0.out ?_) | (with_reducible refine lG (.tmp 4) B1.out ?_))
 with_reducible refine (isFinH ob p' _ false HF.out).mono ?_
 rintro e w3 ⟨rfl, hb⟩
 replace B0 := kB B0 hb
 replace K0 := kH K0 hb
 replace B1 := kB B1 hb
 replace K1 := kH K1 hb
 replace R0 := kB R0 hb
 replace HW := kW HW hb
 replace HT := kT HT hb
 clear hb
 go_wp2_with (first | (with_reducible refine lG (.tmp 3) B0.out ?_) | (with_reducible refine lG (.tmp 4) B1.out ?_))
 with_reducible refine (PA.out _ K0.out HT.out).mono ?_
 rintro e w4 ⟨q0, q1, q2, rfl, k0, k1, k2, hb⟩
 replace B0 := kB B0 hb
 replace K0 := kH K0 hb
 replace B1 := kB B1 hb
 replace K1 := kH K1 hb
 replace R0 := kB R0 hb
 replace HW := kW HW hb
 replace HT := kT HT hb
 clear hb
 replace k0 := hI k0
 replace k1 := hI k1
 replace k2 := hI k2
 have T := hI (Bx3.new w4 #[.int .i64 0, .string ⟨#[]⟩, .string ⟨#[]⟩, .string ⟨#[]⟩, .string ⟨#[]⟩, .string ⟨#[]⟩, .slice none 0 0] #[.int .i64 0, .string ⟨#[]⟩, .string ⟨#[]⟩, .string ⟨#[]⟩, .string ⟨#[]⟩, .string ⟨#[]⟩, .slice none 0 0] #[.int .i64 0, .string ⟨#[]⟩, .string ⟨#[]⟩, .string ⟨#[]⟩, .string ⟨#[]⟩, .string ⟨#[]⟩, .slice none 0 0])
 try unfold zeroC at T
 go_wp2_with (first | (with_reducible refine sB (.tmp 8) (.tmp 38) k0.out T.out.b0 ?_) | (with_reducible refine sB (.tmp 9) (.tmp 39) k1.out T.out.n1 ?_) | (with_reducible refine sB (.tmp 10) (.tmp 40) k2.out T.out.n2 ?_; have P := Pt3.new (w := w4) (o0 := e) (o1 := c) (o2 := r) (p0 := q0) (p1 := q1) (p2 := q2) (z0 := #[.int .i64 0, .string ⟨#[]⟩, .string ⟨#[]⟩, .string ⟨#[]⟩, .string ⟨#[]⟩, .string ⟨#[]⟩, .slice none 0 0]) (z1 := #[.int .i64 0, .string ⟨#[]⟩, .string ⟨#[]⟩, .string ⟨#[]⟩, .string ⟨#[]⟩, .string ⟨#[]⟩, .slice none 0 0]) (z2 := #[.int .i64 0, .string ⟨#[]⟩, .string ⟨#[]⟩, .string ⟨#[]⟩, .string ⟨#[]⟩, .string ⟨#[]⟩, .slice none 0 0]); generalize World.setRow (World.setRow (World.setRow (((w4.alloc (.cells #[.int .i64 0, .string ⟨#[]⟩, .string ⟨#[]⟩, .string ⟨#[]⟩, .string ⟨#[]⟩, .string ⟨#[]⟩, .slice none 0 0] 35)).alloc (.cells #[.int .i64 0, .string ⟨#[]⟩, .string ⟨#[]⟩, .string ⟨#[]⟩, .string ⟨#[]⟩, .string ⟨#[]⟩, .slice none 0 0] 35)).alloc (.cells #[.int .i64 0, .string ⟨#[]⟩, .string ⟨#[]⟩, .string ⟨#[]⟩, .string ⟨#[]⟩, .string ⟨#[]⟩, .slice none 0 0] 35)) (w4.heap.size) (cellsO (e) q0).toArray) (w4.heap.size + 1) (cellsO (c) q1).toArray) (w4.heap.size + 1 + 1) (cellsO (r) q2).toArray = X4 at P ⊢; have hb := P.bel; replace B0 := kB B0 hb; replace K0 := kH K0 hb; replace B1 := kB B1 hb; replace K1 := kH K1 hb; replace R0 := kB R0 hb; replace HW := kW HW hb; replace HT := kT HT hb; replace k0 := kH k0 hb; replace k1 := kH k1 hb; replace k2 := kH k2 hb; have D0 := hI P.b0; have D1 := hI P.b1; have D2 := hI P.b2; clear P hb T) | (with_reducible refine lG (.tmp 3) B0.out ?_) | (with_reducible refine lG (.tmp 4) B1.out ?_) | (with_reducible refine lG (.tmp 8) D0.out ?_) | (with_reducible refine lG (.tmp 9) D1.out ?_) | (with_reducible refine lG (.tmp 10) D2.out ?_))
 with_reducible refine (PB.out _ K1.out HT.out).mono ?_
 rintro e w5 ⟨t0, t1, t2, rfl, l0, l1, l2, hb⟩
 replace B0 := kB B0 hb
 replace K0 := kH K0 hb
 replace B1 := kB B1 hb
 replace K1 := kH K1 hb
 replace R0 := kB R0 hb
 replace HW := kW HW hb
 replace HT := kT HT hb
 replace k0 := kH k0 hb
 replace k1 := kH k1 hb
 replace k2 := kH k2 hb
 replace D0 := kB D0 hb
 replace D1 := kB D1 hb
 replace D2 := kB D2 hb
 clear hb
 replace l0 := hI l0
 replace l1 := hI l1
 replace l2 := hI l2
 have T := hI (Bx3.new w5 #[.int .i64 0, .string ⟨#[]⟩, .string ⟨#[]⟩, .string ⟨#[]⟩, .string ⟨#[]⟩, .string ⟨#[]⟩, .slice none 0 0] #[.int .i64 0, .string ⟨#[]⟩, .string ⟨#[]⟩, .string ⟨#[]⟩, .string ⟨#[]⟩, .string ⟨#[]⟩, .slice none 0 0] #[.int .i64 0, .string ⟨#[]⟩, .string ⟨#[]⟩, .string ⟨#[]⟩, .string ⟨#[]⟩, .string ⟨#[]⟩, .slice none 0 0])
 try unfold zeroC at T
 go_wp2_with (first | (with_reducible refine sB (.tmp 11) (.tmp 44) l0.out T.out.b0 ?_) | (with_reducible refine sB (.tmp 12) (.tmp 45) l1.out T.out.n1 ?_) | (with_reducible refine sB (.tmp 13) (.tmp 46) l2.out T.out.n2 ?_; have P := Pt3.new (w := w5) (o0 := e') (o1 := c') (o2 := r') (p0 := t0) (p1 := t1) (p2 := t2) (z0 := #[.int .i64 0, .string ⟨#[]⟩, .string ⟨#[]⟩, .string ⟨#[]⟩, .string ⟨#[]⟩, .string ⟨#[]⟩, .slice none 0 0]) (z1 := #[.int .i64 0, .string ⟨#[]⟩, .string ⟨#[]⟩, .string ⟨#[]⟩, .string ⟨#[]⟩, .string ⟨#[]⟩, .slice none 0 0]) (z2 := #[.int .i64 0, .string ⟨#[]⟩, .string ⟨#[]⟩, .string ⟨#[]⟩, .string ⟨#[]⟩, .string ⟨#[]⟩, .slice none 0 0]); generalize World.setRow (World.setRow (World.setRow (((w5.alloc (.cells #[.int .i64 0, .string ⟨#[]⟩, .string ⟨#[]⟩, .string ⟨#[]⟩, .string ⟨#[]⟩, .string ⟨#[]⟩, .slice none 0 0] 35)).alloc (.cells #[.int .i64 0, .string ⟨#[]⟩, .string ⟨#[]⟩, .string ⟨#[]⟩, .string ⟨#[]⟩, .string ⟨#[]⟩, .slice none 0 0] 35)).alloc (.cells #[.int .i64 0, .string ⟨#[]⟩, .string ⟨#[]⟩, .string ⟨#[]⟩, .string ⟨#[]⟩, .string ⟨#[]⟩, .slice none 0 0] 35)) (w5.heap.size) (cellsO (e') t0).toArray) (w5.heap.size + 1) (cellsO (c') t1).toArray) (w5.heap.size + 1 + 1) (cellsO (r') t2).toArray = X5 at P ⊢; have hb := P.bel; replace B0 := kB B0 hb; replace K0 := kH K0 hb; replace B1 := kB B1 hb; replace K1 := kH K1 hb; replace R0 := kB R0 hb; replace HW := kW HW hb; replace HT := kT HT hb; replace k0 := kH k0 hb; replace k1 := kH k1 hb; replace k2 := kH k2 hb; replace D0 := kB D0 hb; replace D1 := kB D1 hb; replace D2 := kB D2 hb; replace l0 := kH l0 hb; replace l1 := kH l1 hb; replace l2 := kH l2 hb; have E0 := hI P.b0; have E1 := hI P.b1; have E2 := hI P.b2; clear P hb T) | (with_reducible refine lG (.tmp 3) B0.out ?_) | (with_reducible refine lG (.tmp 4) B1.out ?_) | (with_reducible refine lG (.tmp 8) D0.out ?_) | (with_reducible refine lG (.tmp 9) D1.out ?_) | (with_reducible refine lG (.tmp 10) D2.out ?_) | (with_reducible refine lG (.tmp 11) E0.out ?_) | (with_reducible refine lG (.tmp 12) E1.out ?_) | (with_reducible refine lG (.tmp 13) E2.out ?_))
 with_reducible refine (SM.out _ q0 t0 k0.out l0.out HT.out).mono ?_
 rintro e w6 ⟨u, rfl, ku, hb⟩
 replace B0 := kB B0 hb
 replace K0 := kH K0 hb
 replace B1 := kB B1 hb
 replace K1 := kH K1 hb
 replace R0 := kB R0 hb
 replace HW := kW HW hb
 replace HT := kT HT hb
 replace k0 := kH k0 hb
 replace k1 := kH k1 hb
 replace k2 := kH k2 hb
 replace D0 := kB D0 hb
 replace D1 := kB D1 hb
 replace D2 := kB D2 hb
 replace l0 := kH l0 hb
 replace l1 := kH l1 hb
 replace l2 := kH l2 hb
 replace E0 := hI (E0.out.keep hb)
 replace E1 := hI (E1.out.keep hb)
 replace E2 := hI (E2.out.keep hb)
 clear hb
 replace ku := hI ku
 have T := hI (Bx1.new w6 #[.int .i64 0, .string ⟨#[]⟩, .string ⟨#[]⟩, .string ⟨#[]⟩, .string ⟨#[]⟩, .string ⟨#[]⟩, .slice none 0 0])
 go_wp2_with (first | (with_reducible refine sB (.tmp 14) (.tmp 49) ku.out T.out.b0 ?_; have P := Pt1.new (w := w6) (o := s) (p := u) (z := #[.int .i64 0, .string ⟨#[]⟩, .string ⟨#[]⟩, .string ⟨#[]⟩, .string ⟨#[]⟩, .string ⟨#[]⟩, .slice none 0 0]); generalize World.setRow (w6.alloc (.cells #[.int .i64 0, .string ⟨#[]⟩, .string ⟨#[]⟩, .string ⟨#[]⟩, .string ⟨#[]⟩, .string ⟨#[]⟩, .slice none 0 0] 35)) w6.heap.size (cellsO (s) u).toArray = X6 at P ⊢; have hb := P.bel; replace B0 := kB B0 hb; replace K0 := kH K0 hb; replace B1 := kB B1 hb; replace K1 := kH K1 hb; replace R0 := kB R0 hb; replace HW := kW HW hb; replace HT := kT HT hb; replace k0 := kH k0 hb; replace k1 := kH k1 hb; replace k2 := kH k2 hb; replace D0 := kB D0 hb; replace D1 := kB D1 hb; replace D2 := kB D2 hb; replace l0 := kH l0 hb; replace l1 := kH l1 hb; replace l2 := kH l2 hb; replace E0 := hI (E0.out.keep hb); replace E1 := hI (E1.out.keep hb); replace E2 := hI (E2.out.keep hb); replace ku := kH ku hb; have G := hI P.b0; clear P hb T) | (with_reducible refine lG (.tmp 3) B0.out ?_) | (with_reducible refine lG (.tmp 4) B1.out ?_) | (with_reducible refine lG (.tmp 8) D0.out ?_) | (with_reducible refine lG (.tmp 9) D1.out ?_) | (with_reducible refine lG (.tmp 10) D2.out ?_) | (with_reducible refine lG (.tmp 11) E0.out ?_) | (with_reducible refine lG (.tmp 12) E1.out ?_) | (with_reducible refine lG (.tmp 13) E2.out ?_) | (with_reducible refine lG (.tmp 14) G.out ?_))
 refine wp_region_growS (l := _) 11 (by kernel_rfl) (by kernel_rfl) (fun i => [51, 52, 53, 54, 55, 56, 57, 50, 58, 59, 15].getD i 0) (LR [LV (vO (oa) p), LV (vO (r') t2), LV (.int .i64 m), LV (vO (s) u), LV (.int .i64 ((s.nodes : Int))), LV (.int .i64 (m - (s.nodes : Int))), LHB (s2) true, LHB (s2) true, LH (s2), LV (.bool true), LBx]) (LR_mono ⟨mLV _, mLV _, mLV _, mLV _, mLV _, mLV _, mLHB _ _, mLHB _ _, mLH _, mLV _, mLBx, trivial⟩) (by
  intro i j hi hj h
  exact inj_getD [51, 52, 53, 54, 55, 56, 57, 50, 58, 59, 15] (by decide) i j hi hj h) (by
  intro i hi
  exact lt_getD 67 [51, 52, 53, 54, 55, 56, 57, 50, 58, 59, 15] (by decide) i hi) [9] (by kernel_rfl) 10 8 (by omega) (by omega) (by kernel_rfl) (by kernel_rfl) _ rfl rfl rfl rfl
  (fun _ _ _ _ h => h) (s2) (fun _ _ _ _ h => h) ?step ?stepL ?done
 case step =>
  intro i hi a w9 v lo hi' hoth hb hw
  have sl3 : a.tmps[3]? = some (.pointer (some ⟨w.heap.size, 0, none⟩)) := (hoth 3 (fun j hj => ne_getD 3 _ (by decide) j hj)).trans rfl
  have sl13 : a.tmps[13]? = some (.pointer (some ⟨w5.heap.size + 1 + 1, 0, none⟩)) := (hoth 13 (fun j hj => ne_getD 13 _ (by decide) j hj)).trans rfl
  have sl2 : a.tmps[2]? = some (.int .i64 m) := (hoth 2 (fun j hj => ne_getD 2 _ (by decide) j hj)).trans rfl
  have sl14 : a.tmps[14]? = some (.pointer (some ⟨w6.heap.size, 0, none⟩)) := (hoth 14 (fun j hj => ne_getD 14 _ (by decide) j hj)).trans rfl
  match i, hi with
  | 0, _ =>
   exact gr_box rfl rfl (.tmp 3) rfl (eval_of sl3) (B0.out.keep hb) ⟨_, rfl, Below.refl _ _, rfl⟩
  | 1, _ =>
   exact gr_box rfl rfl (.tmp 13) rfl (eval_of sl13) (E2.out.keep hb) ⟨_, rfl, Below.refl _ _, rfl⟩
  | 2, _ =>
   exact gr_move rfl rfl 2 _ rfl sl2 ⟨_, rfl, Below.refl _ _, rfl⟩
  | 3, _ =>
   exact gr_box rfl rfl (.tmp 14) rfl (eval_of sl14) (G.out.keep hb) ⟨_, rfl, Below.refl _ _, rfl⟩
  | 4, _ =>
   obtain ⟨s0, r0, _⟩ := hw 3 (by omega) (by kernel_rfl)
   have e0 : v 3 = vO (s) u := r0
   rw [e0] at s0
   refine gr_t rfl rfl 69 54 _ _ rfl (fun v w => by go_simp) s0 ?_
   with_reducible refine (nodesH s u w9 HN.out (ku.out.below hb)).mono ?_
   rintro e w3 ⟨rfl, hb3⟩
   exact ⟨_, rfl, _, rfl, hb3, rfl⟩
  | 5, _ =>
   obtain ⟨s0, r0, _⟩ := hw 2 (by omega) (by kernel_rfl)
   have e0 : v 2 = .int .i64 m := r0
   rw [e0] at s0
   obtain ⟨s1, r1, _⟩ := hw 4 (by omega) (by kernel_rfl)
   have e1 : v 4 = .int .i64 (s.nodes : Int) := r1
   rw [e1] at s1
   exact gr_sub rfl rfl 53 55 m (s.nodes : Int) rfl s0 s1 HWR.out ⟨_, rfl, Below.refl _ _, rfl⟩
  | 6, _ =>
   obtain ⟨s0, r0, _⟩ := hw 0 (by omega) (by kernel_rfl)
   have e0 : v 0 = vO (oa) p := r0
   rw [e0] at s0
   obtain ⟨s1, r1, _⟩ := hw 1 (by omega) (by kernel_rfl)
   have e1 : v 1 = vO (r') t2 := r1
   rw [e1] at s1
   obtain ⟨s2, r2, _⟩ := hw 5 (by omega) (by kernel_rfl)
   have e2 : v 5 = .int .i64 (m - (s.nodes : Int)) := r2
   rw [e2] at s2
   refine gr_ttt rfl rfl 45 51 52 56 _ _ _ _ rfl (fun v u x w => by go_simp) s0 s1 s2 ?_
   with_reducible refine (IH.out w9 t2 (K0.out.below hb) (l2.out.below hb) (HT.out.below hb)).mono ?_
   rintro e w3 ⟨p, rfl, hp, hb3⟩
   exact ⟨_, rfl, _, rfl, hb3, p, rfl, hp⟩
  | 7, _ =>
   obtain ⟨s0, r0, _⟩ := hw 6 (by omega) (by kernel_rfl)
   obtain ⟨q0, e0, k0⟩ : LHB (s2) true (v 6) (lo 6) (hi' 6) w9 := r0
   rw [e0] at s0
   exact gr_move rfl rfl 57 _ rfl s0 ⟨_, rfl, Below.refl _ _, q0, rfl, k0⟩
  | 8, _ =>
   obtain ⟨s0, r0, _⟩ := hw 7 (by omega) (by kernel_rfl)
   obtain ⟨q0, e0, k0⟩ : LHB (s2) true (v 7) (lo 7) (hi' 7) w9 := r0
   rw [e0] at s0
   exact gr_ext2 rfl rfl 50 _ _ rfl s0 ⟨_, rfl, Below.refl _ _, q0, rfl, k0⟩
  | 9, _ =>
   obtain ⟨s0, r0, _⟩ := hw 7 (by omega) (by kernel_rfl)
   obtain ⟨q0, e0, k0⟩ : LHB (s2) true (v 7) (lo 7) (hi' 7) w9 := r0
   rw [e0] at s0
   exact gr_ext2' rfl rfl 50 _ _ rfl s0 ⟨_, rfl, Below.refl _ _, rfl⟩
  | 10, _ =>
   exact grow_allocO rfl rfl rfl ⟨_, rfl, Below.alloc (Below.refl _ _) (Nat.le_refl _) _, rfl, heap_alloc_new _ _, by simp⟩
 case stepL =>
  intro i hi hl a w1 w9 v lo hi' hw
  match i, hi with
  | 0, _ => exact absurd hl (by decide)
  | 1, _ => exact absurd hl (by decide)
  | 2, _ => exact absurd hl (by decide)
  | 3, _ => exact absurd hl (by decide)
  | 4, _ => exact absurd hl (by decide)
  | 5, _ => exact absurd hl (by decide)
  | 6, _ => exact absurd hl (by decide)
  | 7, _ => exact absurd hl (by decide)
  | 8, _ => exact absurd hl (by decide)
  | 9, _ =>
   obtain ⟨s0, r0⟩ := hw 7 (by omega) (by kernel_rfl)
   obtain ⟨q0, e0, k0⟩ : LHB (s2) true (v 7) (lo 7) (hi' 7) w1 := r0
   rw [e0] at s0
   exact gr_ext2' rfl rfl 50 _ _ rfl s0 ⟨_, rfl, rfl, rfl⟩
  | 10, _ => exact absurd hl (by decide)
 case done =>
  intro a w9 v lo hi' p8 hdef hsz hoth hb hj hap hv8 k8 hv10 B10
  obtain ⟨_, _, hlo10, _⟩ := hj 10 (by omega)
  obtain ⟨_, hv9, _, _⟩ := hj 9 (by omega)
  change v 9 = _ at hv9
  have ha := eq_puts hdef hsz hoth (fun i hi => (hj i hi).1)
  subst ha
  clear hj hoth hdef hsz hap
  have hX := below_setRowO hb hlo10 (cellsO (s2) p8).toArray
  have kX := Hd.box k8 B10 rfl (cellsO (s2) p8).toArray
  have bX := Bx.set (y := (cellsO (s2) p8).toArray) B10
  generalize World.setRow w9 (lo 10) (cellsO (s2) p8).toArray = X9 at hX kX bX ⊢
  clear hb k8 B10
  simp only [puts, List.getD_cons_zero, List.getD_cons_succ, hv8, hv10, hv9]
  generalize v 0 = v0
  generalize v 1 = v1
  generalize v 2 = v2
  generalize v 3 = v3
  generalize v 4 = v4
  generalize v 5 = v5
  generalize v 6 = v6
  generalize v 7 = v7
  clear hv8 hv10 hv9
  generalize lo 10 = g10 at *
  simp only [Act.put, List.setIfInBounds_toArray, List.set_cons_zero, List.set_cons_succ]
  show wpList _ _ _ [_] _ _
  have hb := hX
  clear hX
  replace B0 := kB B0 hb
  replace K0 := kH K0 hb
  replace B1 := kB B1 hb
  replace K1 := kH K1 hb
  replace R0 := kB R0 hb
  replace HW := kW HW hb
  replace HT := kT HT hb
  replace k0 := kH k0 hb
  replace k1 := kH k1 hb
  replace k2 := kH k2 hb
  replace D0 := kB D0 hb
  replace D1 := kB D1 hb
  replace D2 := kB D2 hb
  replace l0 := kH l0 hb
  replace l1 := kH l1 hb
  replace l2 := kH l2 hb
  replace E0 := hI (E0.out.keep hb)
  replace E1 := hI (E1.out.keep hb)
  replace E2 := hI (E2.out.keep hb)
  replace ku := kH ku hb
  replace G := kB G hb
  replace k8 := hI kX
  have G2 := hI bX
  clear hb kX bX
  go_wp2_with (first | (with_reducible refine lG (.tmp 3) B0.out ?_) | (with_reducible refine lG (.tmp 4) B1.out ?_) | (with_reducible refine lG (.tmp 8) D0.out ?_) | (with_reducible refine lG (.tmp 9) D1.out ?_) | (with_reducible refine lG (.tmp 10) D2.out ?_) | (with_reducible refine lG (.tmp 11) E0.out ?_) | (with_reducible refine lG (.tmp 12) E1.out ?_) | (with_reducible refine lG (.tmp 13) E2.out ?_) | (with_reducible refine lG (.tmp 14) G.out ?_) | (with_reducible refine lG (.tmp 15) G2.out ?_))
  with_reducible refine (powerP s c' s2 u t1 p8 _ ku.out l1.out k8.out).mono ?_
  rintro e w7 ⟨p9, rfl, k9, hb⟩
  replace B0 := kB B0 hb
  replace K0 := kH K0 hb
  replace B1 := kB B1 hb
  replace K1 := kH K1 hb
  replace R0 := kB R0 hb
  replace HW := kW HW hb
  replace HT := kT HT hb
  replace k0 := kH k0 hb
  replace k1 := kH k1 hb
  replace k2 := kH k2 hb
  replace D0 := kB D0 hb
  replace D1 := kB D1 hb
  replace D2 := kB D2 hb
  replace l0 := kH l0 hb
  replace l1 := kH l1 hb
  replace l2 := kH l2 hb
  replace E0 := hI (E0.out.keep hb)
  replace E1 := hI (E1.out.keep hb)
  replace E2 := hI (E2.out.keep hb)
  replace ku := kH ku hb
  replace G := kB G hb
  replace k8 := kH k8 hb
  replace G2 := kB G2 hb
  clear hb
  replace k9 := hI k9
  go_wp2_with (first | (with_reducible refine sB (.tmp 6) (.tmp 66) k9.out R0.out ?_) | (with_reducible refine lG (.tmp 3) B0.out ?_) | (with_reducible refine lG (.tmp 4) B1.out ?_) | (with_reducible refine lG (.tmp 8) D0.out ?_) | (with_reducible refine lG (.tmp 9) D1.out ?_) | (with_reducible refine lG (.tmp 10) D2.out ?_) | (with_reducible refine lG (.tmp 11) E0.out ?_) | (with_reducible refine lG (.tmp 12) E1.out ?_) | (with_reducible refine lG (.tmp 13) E2.out ?_) | (with_reducible refine lG (.tmp 14) G.out ?_) | (with_reducible refine lG (.tmp 15) G2.out ?_))
  exact retHBs rfl rfl rfl R0.out rfl k9.out (by omega) HW.out
theorem wrap_small {x : Int} (h : -1000000 ≤ x ∧ x ≤ 1000000) : IntKind.i64.wrap x = x := IntWalk.i64_in _ (by omega)
theorem prodE (a : On) (na : a.nf) (ha : a.ob.bd 90) : ∀ (b : On) (p p' : Value) (w : World) (m : Int), b.nf → b.ob.bd 90 → ((mulE a b).nd : Int) ≤ m → m ≤ 3000 → Hd w a.ob p → Hd w b.ob p' → Tab w →
 Calls Tryz.prog 45 #[vO a.ob p, vO b.ob p', .int .i64 m] w (RetHB w (mulE a b).ob true) := by
 intro b
 induction b with
 | fin n =>
  intro p p' w m nb hb hm hm' hp hp' ht
  have hpos := (mulE a (.fin n)).nd_pos
  have hz : a.ob.numIs 0 = decide (a = .fin 0) := On.numIs a 0
  have hz2 : (On.fin n).ob.numIs 0 = decide (On.fin n = .fin 0) := On.numIs _ 0
  by_cases h0 : a = .fin 0
  · rw [decide_eq_true h0] at hz
    have := prodZero1 a.ob (On.fin n).ob p p' w m (by omega) hz hp hp' ht
    rw [h0, mulE_zero_left]
    rw [h0] at this
    exact this
  · rw [decide_eq_false h0] at hz
    by_cases h1 : On.fin n = .fin 0
    · rw [decide_eq_true h1] at hz2
      have := prodZero2 a.ob (On.fin n).ob p p' w m (by omega) hz hz2 hp hp' ht
      rw [h1, mulE_zero_right]
      rw [h1] at this
      exact this
    · rw [decide_eq_false h1] at hz2
      exact prodFin a.ob (On.fin n).ob _ p p' w m (by omega) hz hz2 rfl hp hp' ht (fun X h h' hT => multipleE a n p p' X (fun e => h1 (by rw [e])) ha hb h h' hT)
 | pw e c r ihe ihr =>
  intro p p' w m nb hb hm hm' hp hp' ht
  have hpos := (mulE a (.pw e c r)).nd_pos
  have hz : a.ob.numIs 0 = decide (a = .fin 0) := On.numIs a 0
  by_cases h0 : a = .fin 0
  · rw [decide_eq_true h0] at hz
    have := prodZero1 a.ob (On.pw e c r).ob p p' w m (by omega) hz hp hp' ht
    rw [h0, mulE_zero_left]
    rw [h0] at this
    exact this
  · rw [decide_eq_false h0] at hz
    rw [mulE_pw h0] at hm ⊢
    have hnd : (On.pw (addE a.exp e) c (mulE a r)).nd = 3 + (addE a.exp e).nd + (mulE a r).nd := rfl
    have hno : (addE a.exp e).ob.nodes = (addE a.exp e).nd := On.nd_ob _
    have hp1 := (mulE a r).nd_pos
    exact prodInf a.ob (On.pw e c r).ob p p' w m (by omega) hz rfl rfl hp hp' ht _ _ _ _ _ _ (addE a.exp e).ob (mulE a r).ob (fun X h hT => partsE a p X h hT) (fun X h hT => partsE (.pw e c r) p' X h hT)
     (fun X q t h h' hT => sumE a.exp e q t X na.nf_exp nb.1 (On.exp_bd (by decide) ha) hb.1.1 h h' hT) (by omega) (wrap_small (by omega))
     (fun X t h h' hT => ihr p t X _ nb.2.2.2.1 hb.2 (by omega) (by omega) h h' hT)
theorem mulTop (a b s : Ob) (p p' : Value) (w : World) (hp : Hd w a p) (hp' : Hd w b p') (ht : Tab w)
 (va : ∀ X, Hd X a p → Tab X → Calls Tryz.prog 29 #[vO a p] X (RetB X true)) (vb : ∀ X, Hd X b p' → Tab X → Calls Tryz.prog 29 #[vO b p'] X (RetB X true))
 (sm : ∀ X, Hd X a p → Hd X b p' → Tab X → Calls Tryz.prog 45 #[vO a p, vO b p', .int .i64 3000] X (RetHB X s true)) (wi : ∀ X q, Hd X s q → Calls Tryz.prog 43 #[vO s q] X (RetHB X s true)) :
 Calls Tryz.prog 14 #[vO a p, vO b p'] w (RetHB w s true) := by
 have VA := hI va
 have VB := hI vb
 have SM := hI sm
 have WI := hI wi
 clear va vb sm wi
 obtain ⟨a0, a1, a2, a3, a4, a5, ea⟩ := cells7 (a) p
 obtain ⟨b0, b1, b2, b3, b4, b5, eb⟩ := cells7 (b) p'
 have T := Bx3.new w #[a0, a1, a2, a3, a4, a5, p] #[b0, b1, b2, b3, b4, b5, p'] #[.int .i64 0, .string ⟨#[]⟩, .string ⟨#[]⟩, .string ⟨#[]⟩, .string ⟨#[]⟩, .string ⟨#[]⟩, .slice none 0 0]
 rw [vO_cells ea, vO_cells eb]
 go_enter Tryz.func14, Tryz.ntmps14
 go_wp2_with fail
 generalize ((w.alloc (.cells #[a0, a1, a2, a3, a4, a5, p] 35)).alloc (.cells #[b0, b1, b2, b3, b4, b5, p'] 35)).alloc (.cells #[.int .i64 0, .string ⟨#[]⟩, .string ⟨#[]⟩, .string ⟨#[]⟩, .string ⟨#[]⟩, .string ⟨#[]⟩, .slice none 0 0] 35) = W at T ⊢
 have B0 : Hid (Bx W (w.heap.size) (cellsO (a) p).toArray) := by rw [ea]; exact T.b0
 have K0 := hI (hp.below T.bel)
 have B1 : Hid (Bx W (w.heap.size + 1) (cellsO (b) p').toArray) := by rw [eb]; exact T.b1
 have K1 := hI (hp'.below T.bel)
 have R0 := hI T.b2
 have HW := hI T.bel
 have HT := hI (ht.below T.bel)
 try rw [← vO_cells ea]
 try rw [← vO_cells eb]
 clear T ea eb hp hp' ht
 with_reducible refine (VA.out _ K0.out HT.out).mono ?_
 rintro e w1 ⟨rfl, hb⟩
 replace B0 := kB B0 hb
 replace K0 := kH K0 hb
 replace B1 := kB B1 hb
 replace K1 := kH K1 hb
 replace R0 := kB R0 hb
 replace HW := kW HW hb
 replace HT := kT HT hb
 clear hb
 go_wp2_with (first | (with_reducible refine lG (.tmp 2) B0.out ?_) | (with_reducible refine lG (.tmp 3) B1.out ?_))
 with_reducible refine (VB.out _ K1.out HT.out).mono ?_
 rintro e w2 ⟨rfl, hb⟩
 replace B0 := kB B0 hb
 replace K0 := kH K0 hb
 replace B1 := kB B1 hb
 replace K1 := kH K1 hb
 replace R0 := kB R0 hb
 replace HW := kW HW hb
 replace HT := kT HT hb
 clear hb
 go_wp2_with (first | (with_reducible refine lG (.tmp 2) B0.out ?_) | (with_reducible refine lG (.tmp 3) B1.out ?_))
 with_reducible refine (SM.out _ K0.out K1.out HT.out).mono ?_
 rintro e w3 ⟨q, rfl, k, hb⟩
 replace B0 := kB B0 hb
 replace K0 := kH K0 hb
 replace B1 := kB B1 hb
 replace K1 := kH K1 hb
 replace R0 := kB R0 hb
 replace HW := kW HW hb
 replace HT := kT HT hb
 clear hb
 replace k := hI k
 have T := hI (Bx1.new w3 #[.int .i64 0, .string ⟨#[]⟩, .string ⟨#[]⟩, .string ⟨#[]⟩, .string ⟨#[]⟩, .string ⟨#[]⟩, .slice none 0 0])
 go_wp2_with (first | (with_reducible refine sB (.tmp 6) (.tmp 21) k.out T.out.b0 ?_; have P := Pt1.new (w := w3) (o := s) (p := q) (z := #[.int .i64 0, .string ⟨#[]⟩, .string ⟨#[]⟩, .string ⟨#[]⟩, .string ⟨#[]⟩, .string ⟨#[]⟩, .slice none 0 0]); generalize World.setRow (w3.alloc (.cells #[.int .i64 0, .string ⟨#[]⟩, .string ⟨#[]⟩, .string ⟨#[]⟩, .string ⟨#[]⟩, .string ⟨#[]⟩, .slice none 0 0] 35)) w3.heap.size (cellsO (s) q).toArray = X3 at P ⊢; have hb := P.bel; replace B0 := kB B0 hb; replace K0 := kH K0 hb; replace B1 := kB B1 hb; replace K1 := kH K1 hb; replace R0 := kB R0 hb; replace HW := kW HW hb; replace HT := kT HT hb; replace k := kH k hb; have G := hI P.b0; clear P hb T) | (with_reducible refine lG (.tmp 2) B0.out ?_) | (with_reducible refine lG (.tmp 3) B1.out ?_) | (with_reducible refine lG (.tmp 6) G.out ?_))
 with_reducible refine (WI.out _ q k.out).mono ?_
 rintro e w4 ⟨q2, rfl, k2, hb⟩
 replace B0 := kB B0 hb
 replace K0 := kH K0 hb
 replace B1 := kB B1 hb
 replace K1 := kH K1 hb
 replace R0 := kB R0 hb
 replace HW := kW HW hb
 replace HT := kT HT hb
 replace k := kH k hb
 replace G := kB G hb
 clear hb
 replace k2 := hI k2
 go_wp2_with (first | (with_reducible refine sB (.tmp 4) (.tmp 28) k2.out R0.out ?_) | (with_reducible refine lG (.tmp 2) B0.out ?_) | (with_reducible refine lG (.tmp 3) B1.out ?_) | (with_reducible refine lG (.tmp 6) G.out ?_))
 exact retHBs rfl rfl rfl R0.out rfl k2.out (by omega) HW.out
theorem mulH (a b : On) (p p' : Value) (w : World) (na : a.nf) (nb : b.nf) (ha : a.ob.bd 90) (hb : b.ob.bd 90) (hs : (mulE a b).ob.bd 90) (sa : a.ob.nodes ≤ 3000) (sb : b.ob.nodes ≤ 3000) (ss : (mulE a b).ob.nodes ≤ 3000)
 (hp : Hd w a.ob p) (hp' : Hd w b.ob p') (ht : Tab w) : Calls Tryz.prog 14 #[vO a.ob p, vO b.ob p'] w (RetHB w (mulE a b).ob true) :=
 mulTop a.ob b.ob (mulE a b).ob p p' w hp hp' ht (fun X h hT => validE a p X na ha sa h hT) (fun X h hT => validE b p' X nb hb sb h hT)
  (fun X h h' hT => prodE a na ha b p p' X 3000 nb hb (by rw [On.nd_ob] at ss; omega) (by omega) h h' hT) (fun X q h => withinH _ q X hs ss h)
end Go.Proofs.YtocbedijpomemaaGreatDoor
