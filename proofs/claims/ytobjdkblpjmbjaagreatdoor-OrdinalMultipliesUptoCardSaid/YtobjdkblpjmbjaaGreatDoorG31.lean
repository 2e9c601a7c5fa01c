/- The reference's Multiply, way by way. -/
import Derived.Test.YtobjdkblpjmbjaaGreatDoorG19
import Derived.Test.YtobjdkblpjmbjaaGreatDoorG25
namespace Go.Proofs.YtobjdkblpjmbjaaGreatDoor
open Go Go.RowKit
set_option linter.unusedVariables false
set_option maxHeartbeats 4000000 in
set_option maxRecDepth 100000 in
theorem mulRZero1 (oa ob : Ob) (p p' : Value) (w : World) (hz : oa.numIs 0 = true)  (hp : Hd w oa p) (hp' : Hd w ob p') (ht : Tab w) (va : ∀ X, Hd X oa p → Tab X → Calls Tryz.prog 21 #[vO oa p] X (RetB X true)) (vb : ∀ X, Hd X ob p' → Tab X → Calls Tryz.prog 21 #[vO ob p'] X (RetB X true)) :
 Calls Tryz.prog 38 #[vO oa p, vO ob p'] w (RetHB w (.num ((0 : Int) : Rat)) true) := by
 have VA := hI va
 have VB := hI vb
 clear va vb
 obtain ⟨a0, a1, a2, a3, a4, a5, ea⟩ := cells7 (oa) p
 obtain ⟨b0, b1, b2, b3, b4, b5, eb⟩ := cells7 (ob) p'
 have T := Bx3.new w #[a0, a1, a2, a3, a4, a5, p] #[b0, b1, b2, b3, b4, b5, p'] #[.int .i64 0, .string ⟨#[]⟩, .string ⟨#[]⟩, .string ⟨#[]⟩, .string ⟨#[]⟩, .string ⟨#[]⟩, .slice none 0 0]
 rw [vO_cells ea, vO_cells eb]
 go_enter Tryz.func38, Tryz.ntmps38
 go_wp2_with fail
 generalize ((w.alloc (.cells #[a0, a1, a2, a3, a4, a5, p] 35)).alloc (.cells #[b0, b1, b2, b3, b4, b5, p'] 35)).alloc (.cells #[.int .i64 0, .string ⟨#[]⟩, .string ⟨#[]⟩, .string ⟨#[]⟩, .string ⟨#[]⟩, .string ⟨#[]⟩, .slice none 0 0] 35) = W at T ⊢
 have B0 : Hid (Bx W (w.heap.size) (cellsO (oa) p).toArray) := by rw [ea]; exact T.b0
 have K0 := hI (hp.below T.bel)
 have B1 : Hid (Bx W (w.heap.size + 1) (cellsO (ob) p').toArray) := by rw [eb]; exact T.b1
 have K1 := hI (hp'.below T.bel)
 have R0 := hI T.b2
 have HW := hI T.bel
 have HT := hI (ht.below T.bel)
 try rw [← vO_cells ea]
 try rw [← vO_cells eb]
 clear T ea eb hp hp' ht
 with_reducible refine (VA.out _ K0.out HT.out).mono ?_
 rintro e w1 ⟨rfl, hb⟩
 replace B0 := kB B0 hb
 replace K0 := kH K0 hb
 replace B1 := kB B1 hb
 replace K1 := kH K1 hb
 replace R0 := kB R0 hb
 replace HW := kW HW hb
 replace HT := kT HT hb
 clear hb
 go_wp2_with (first | (with_reducible refine lG (.tmp 2) B0.out ?_) | (with_reducible refine lG (.tmp 3) B1.out ?_))
 with_reducible refine (VB.out _ K1.out HT.out).mono ?_
 rintro e w2 ⟨rfl, hb⟩
 replace B0 := kB B0 hb
 replace K0 := kH K0 hb
 replace B1 := kB B1 hb
 replace K1 := kH K1 hb
 replace R0 := kB R0 hb
 replace HW := kW HW hb
 replace HT := kT HT hb
 clear hb
 go_wp2_with (first | (with_reducible refine lG (.tmp 2) B0.out ?_) | (with_reducible refine lG (.tmp 3) B1.out ?_))
 with_reducible refine (zeroR oa p _ true hz).mono ?_
 rintro e w3 ⟨rfl, hb⟩
 replace B0 := kB B0 hb
 replace K0 := kH K0 hb
 replace B1 := kB B1 hb
 replace K1 := kH K1 hb
 replace R0 := kB R0 hb
 replace HW := kW HW hb
 replace HT := kT HT hb
 clear hb
 go_wp2_with (first | (with_reducible refine lG (.tmp 2) B0.out ?_) | (with_reducible refine lG (.tmp 3) B1.out ?_))
 with_reducible refine (int0RH _ HT.out).mono ?_
 rintro e w4 ⟨q, rfl, k, hb⟩
 replace B0 := kB B0 hb
 replace K0 := kH K0 hb
 replace B1 := kB B1 hb
 replace K1 := kH K1 hb
 replace R0 := kB R0 hb
 replace HW := kW HW hb
 replace HT := kT HT hb
 clear hb
 replace k := hI k
 go_wp2_with (first | (with_reducible refine sB (.tmp 4) (.tmp 25) k.out R0.out ?_) | (with_reducible refine lG (.tmp 2) B0.out ?_) | (with_reducible refine lG (.tmp 3) B1.out ?_))
 exact retHBs rfl rfl rfl R0.out rfl k.out (by omega) HW.out
set_option maxHeartbeats 4000000 in
set_option maxRecDepth 100000 in
theorem mulRZero2 (oa ob : Ob) (p p' : Value) (w : World) (hz : oa.numIs 0 = false) (hz2 : ob.numIs 0 = true) (hp : Hd w oa p) (hp' : Hd w ob p') (ht : Tab w) (va : ∀ X, Hd X oa p → Tab X → Calls Tryz.prog 21 #[vO oa p] X (RetB X true)) (vb : ∀ X, Hd X ob p' → Tab X → Calls Tryz.prog 21 #[vO ob p'] X (RetB X true)) :
 Calls Tryz.prog 38 #[vO oa p, vO ob p'] w (RetHB w (.num ((0 : Int) : Rat)) true) := by
 have VA := hI va
 have VB := hI vb
 clear va vb
 obtain ⟨a0, a1, a2, a3, a4, a5, ea⟩ := cells7 (oa) p
 obtain ⟨b0, b1, b2, b3, b4, b5, eb⟩ := cells7 (ob) p'
 have T := Bx3.new w #[a0, a1, a2, a3, a4, a5, p] #[b0, b1, b2, b3, b4, b5, p'] #[.int .i64 0, .string ⟨#[]⟩, .string ⟨#[]⟩, .string ⟨#[]⟩, .string ⟨#[]⟩, .string ⟨#[]⟩, .slice none 0 0]
 rw [vO_cells ea, vO_cells eb]
 go_enter Tryz.func38, Tryz.ntmps38
 go_wp2_with fail
 generalize ((w.alloc (.cells #[a0, a1, a2, a3, a4, a5, p] 35)).alloc (.cells #[b0, b1, b2, b3, b4, b5, p'] 35)).alloc (.cells #[.int .i64 0, .string ⟨#[]⟩, .string ⟨#[]⟩, .string ⟨#[]⟩, .string ⟨#[]⟩, .string ⟨#[]⟩, .slice none 0 0] 35) = W at T ⊢
 have B0 : Hid (Bx W (w.heap.size) (cellsO (oa) p).toArray) := by rw [ea]; exact T.b0
 have K0 := hI (hp.below T.bel)
 have B1 : Hid (Bx W (w.heap.size + 1) (cellsO (ob) p').toArray) := by rw [eb]; exact T.b1
 have K1 := hI (hp'.below T.bel)
 have R0 := hI T.b2
 have HW := hI T.bel
 have HT := hI (ht.below T.bel)
 try rw [← vO_cells ea]
 try rw [← vO_cells eb]
 clear T ea eb hp hp' ht
 with_reducible refine (VA.out _ K0.out HT.out).mono ?_
 rintro e w1 ⟨rfl, hb⟩
 replace B0 := kB B0 hb
 replace K0 := kH K0 hb
 replace B1 := kB B1 hb
 replace K1 := kH K1 hb
 replace R0 := kB R0 hb
 replace HW := kW HW hb
 replace HT := kT HT hb
 clear hb
 go_wp2_with (first | (with_reducible refine lG (.tmp 2) B0.out ?_) | (with_reducible refine lG (.tmp 3) B1.out ?_))
 with_reducible refine (VB.out _ K1.out HT.out).mono ?_
 rintro e w2 ⟨rfl, hb⟩
 replace B0 := kB B0 hb
 replace K0 := kH K0 hb
 replace B1 := kB B1 hb
 replace K1 := kH K1 hb
 replace R0 := kB R0 hb
 replace HW := kW HW hb
 replace HT := kT HT hb
 clear hb
 go_wp2_with (first | (with_reducible refine lG (.tmp 2) B0.out ?_) | (with_reducible refine lG (.tmp 3) B1.out ?_))
 with_reducible refine (zeroR oa p _ false hz).mono ?_
 rintro e w3 ⟨rfl, hb⟩
 replace B0 := kB B0 hb
 replace K0 := kH K0 hb
 replace B1 := kB B1 hb
 replace K1 := kH K1 hb
 replace R0 := kB R0 hb
 replace HW := kW HW hb
 replace HT := kT HT hb
 clear hb
 go_wp2_with (first | (with_reducible refine lG (.tmp 2) B0.out ?_) | (with_reducible refine lG (.tmp 3) B1.out ?_))
 with_reducible refine (zeroR ob p' _ true hz2).mono ?_
 rintro e w4 ⟨rfl, hb⟩
 replace B0 := kB B0 hb
 replace K0 := kH K0 hb
 replace B1 := kB B1 hb
 replace K1 := kH K1 hb
 replace R0 := kB R0 hb
 replace HW := kW HW hb
 replace HT := kT HT hb
 clear hb
 go_wp2_with (first | (with_reducible refine lG (.tmp 2) B0.out ?_) | (with_reducible refine lG (.tmp 3) B1.out ?_))
 with_reducible refine (int0RH _ HT.out).mono ?_
 rintro e w5 ⟨q, rfl, k, hb⟩
 replace B0 := kB B0 hb
 replace K0 := kH K0 hb
 replace B1 := kB B1 hb
 replace K1 := kH K1 hb
 replace R0 := kB R0 hb
 replace HW := kW HW hb
 replace HT := kT HT hb
 clear hb
 replace k := hI k
 go_wp2_with (first | (with_reducible refine sB (.tmp 4) (.tmp 25) k.out R0.out ?_) | (with_reducible refine lG (.tmp 2) B0.out ?_) | (with_reducible refine lG (.tmp 3) B1.out ?_))
 exact retHBs rfl rfl rfl R0.out rfl k.out (by omega) HW.out
set_option maxHeartbeats 4000000 in
set_option maxRecDepth 100000 in
theorem mulRFin (oa ob : Ob) (p p' : Value) (w : World) (s : Ob) (hz : oa.numIs 0 = false) (hz2 : ob.numIs 0 = false) (ia : oa.inf = false) (ib : ob.inf = false) (hp : Hd w oa p) (hp' : Hd w ob p') (ht : Tab w) (va : ∀ X, Hd X oa p → Tab X → Calls Tryz.prog 21 #[vO oa p] X (RetB X true)) (vb : ∀ X, Hd X ob p' → Tab X → Calls Tryz.prog 21 #[vO ob p'] X (RetB X true)) (sm : ∀ X q t, Hd X oa q → Hd X ob t → Tab X → Calls Tryz.prog 73 #[vO oa q, vO ob t] X (RetH X s)) (kp : ∀ X q, Hd X (s) q → Calls Tryz.prog 70 #[vO (s) q] X (RetHB X (s) true)) :
 Calls Tryz.prog 38 #[vO oa p, vO ob p'] w (RetHB w (s) true) := by
 have VA := hI va
 have VB := hI vb
 have SM := hI sm
 have KP := hI kp
 clear va vb sm kp
 obtain ⟨a0, a1, a2, a3, a4, a5, ea⟩ := cells7 (oa) p
 obtain ⟨b0, b1, b2, b3, b4, b5, eb⟩ := cells7 (ob) p'
 have T := Bx3.new w #[a0, a1, a2, a3, a4, a5, p] #[b0, b1, b2, b3, b4, b5, p'] #[.int .i64 0, .string ⟨#[]⟩, .string ⟨#[]⟩, .string ⟨#[]⟩, .string ⟨#[]⟩, .string ⟨#[]⟩, .slice none 0 0]
 rw [vO_cells ea, vO_cells eb]
 go_enter Tryz.func38, Tryz.ntmps38
 go_wp2_with fail
 generalize ((w.alloc (.cells #[a0, a1, a2, a3, a4, a5, p] 35)).alloc (.cells #[b0, b1, b2, b3, b4, b5, p'] 35)).alloc (.cells #[.int .i64 0, .string ⟨#[]⟩, .string ⟨#[]⟩, .string ⟨#[]⟩, .string ⟨#[]⟩, .string ⟨#[]⟩, .slice none 0 0] 35) = W at T ⊢
 have B0 : Hid (Bx W (w.heap.size) (cellsO (oa) p).toArray) := by rw [ea]; exact T.b0
 have K0 := hI (hp.below T.bel)
 have B1 : Hid (Bx W (w.heap.size + 1) (cellsO (ob) p').toArray) := by rw [eb]; exact T.b1
 have K1 := hI (hp'.below T.bel)
 have R0 := hI T.b2
 have HW := hI T.bel
 have HT := hI (ht.below T.bel)
 try rw [← vO_cells ea]
 try rw [← vO_cells eb]
 clear T ea eb hp hp' ht
 with_reducible refine (VA.out _ K0.out HT.out).mono ?_
 rintro e w1 ⟨rfl, hb⟩
 replace B0 := kB B0 hb
 replace K0 := kH K0 hb
 replace B1 := kB B1 hb
 replace K1 := kH K1 hb
 replace R0 := kB R0 hb
 replace HW := kW HW hb
 replace HT := kT HT hb
 clear hb
 go_wp2_with (first | (with_reducible refine lG (.tmp 2) B0.out ?_) | (with_reducible refine lG (.tmp 3) B1.out ?_))
 with_reducible refine (VB.out _ K1.out HT.out).mono ?_
 rintro e w2 ⟨rfl, hb⟩
 replace B0 := kB B0 hb
 replace K0 := kH K0 hb
 replace B1 := kB B1 hb
 replace K1 := kH K1 hb
 replace R0 := kB R0 hb
 replace HW := kW HW hb
 replace HT := kT HT hb
 clear hb
 go_wp2_with (first | (with_reducible refine lG (.tmp 2) B0.out ?_) | (with_reducible refine lG (.tmp 3) B1.out ?_))
 with_reducible refine (zeroR oa p _ false hz).mono ?_
 rintro e w3 ⟨rfl, hb⟩
 replace B0 := kB B0 hb
 replace K0 := kH K0 hb
 replace B1 := kB B1 hb
 replace K1 := kH K1 hb
 replace R0 := kB R0 hb
 replace HW := kW HW hb
 replace HT := kT HT hb
 clear hb
 go_wp2_with (first | (with_reducible refine lG (.tmp 2) B0.out ?_) | (with_reducible refine lG (.tmp 3) B1.out ?_))
 with_reducible refine (zeroR ob p' _ false hz2).mono ?_
 rintro e w4 ⟨rfl, hb⟩
 replace B0 := kB B0 hb
 replace K0 := kH K0 hb
 replace B1 := kB B1 hb
 replace K1 := kH K1 hb
 replace R0 := kB R0 hb
 replace HW := kW HW hb
 replace HT := kT HT hb
 clear hb
 go_wp2_with (first | (with_reducible refine lG (.tmp 2) B0.out ?_) | (with_reducible refine lG (.tmp 3) B1.out ?_))
 with_reducible refine (infR oa p _ false ia K0.out).mono ?_
 rintro e w5 ⟨rfl, hb⟩
 replace B0 := kB B0 hb
 replace K0 := kH K0 hb
 replace B1 := kB B1 hb
 replace K1 := kH K1 hb
 replace R0 := kB R0 hb
 replace HW := kW HW hb
 replace HT := kT HT hb
 clear hb
 go_wp2_with (first | (with_reducible refine lG (.tmp 2) B0.out ?_) | (with_reducible refine lG (.tmp 3) B1.out ?_))
 with_reducible refine (infR ob p' _ false ib K1.out).mono ?_
 rintro e w6 ⟨rfl, hb⟩
 replace B0 := kB B0 hb
 replace K0 := kH K0 hb
 replace B1 := kB B1 hb
 replace K1 := kH K1 hb
 replace R0 := kB R0 hb
 replace HW := kW HW hb
 replace HT := kT HT hb
 clear hb
 go_wp2_with (first | (with_reducible refine lG (.tmp 2) B0.out ?_) | (with_reducible refine lG (.tmp 3) B1.out ?_))
 with_reducible refine (SM.out _ _ _ K0.out K1.out HT.out).mono ?_
 rintro e w7 ⟨q, rfl, k, hb⟩
 replace B0 := kB B0 hb
 replace K0 := kH K0 hb
 replace B1 := kB B1 hb
 replace K1 := kH K1 hb
 replace R0 := kB R0 hb
 replace HW := kW HW hb
 replace HT := kT HT hb
 clear hb
 replace k := hI k
 go_wp2_with (first | (with_reducible refine lG (.tmp 2) B0.out ?_) | (with_reducible refine lG (.tmp 3) B1.out ?_))
 with_reducible refine (KP.out _ q k.out).mono ?_
 rintro e w8 ⟨q2, rfl, k2, hb⟩
 replace B0 := kB B0 hb
 replace K0 := kH K0 hb
 replace B1 := kB B1 hb
 replace K1 := kH K1 hb
 replace R0 := kB R0 hb
 replace HW := kW HW hb
 replace HT := kT HT hb
 replace k := kH k hb
 clear hb
 replace k2 := hI k2
 go_wp2_with (first | (with_reducible refine sB (.tmp 4) (.tmp 39) k2.out R0.out ?_) | (with_reducible refine lG (.tmp 2) B0.out ?_) | (with_reducible refine lG (.tmp 3) B1.out ?_))
 exact retHBs rfl rfl rfl R0.out rfl k2.out (by omega) HW.out
set_option maxHeartbeats 16000000 in
set_option maxRecDepth 100000 in
theorem mulRPF (oa ob : Ob) (p p' : Value) (w : World) (e c r s : Ob) (hz : oa.numIs 0 = false) (hz2 : ob.numIs 0 = false) (ia : oa.inf = true) (ib : ob.inf = false) (hp : Hd w oa p) (hp' : Hd w ob p') (ht : Tab w) (va : ∀ X, Hd X oa p → Tab X → Calls Tryz.prog 21 #[vO oa p] X (RetB X true)) (vb : ∀ X, Hd X ob p' → Tab X → Calls Tryz.prog 21 #[vO ob p'] X (RetB X true)) (eA : ∀ X q, Hd X oa q → Tab X → Calls Tryz.prog 59 #[vO oa q] X (RetH X e)) (cA : ∀ X q, Hd X oa q → Tab X → Calls Tryz.prog 60 #[vO oa q] X (RetH X c)) (rA : ∀ X q, Hd X oa q → Tab X → Calls Tryz.prog 61 #[vO oa q] X (RetH X r)) (sm : ∀ X q t, Hd X c q → Hd X ob t → Tab X → Calls Tryz.prog 73 #[vO c q, vO ob t] X (RetH X s)) (kp : ∀ X q, Hd X (.cons (.cons e s) r) q → Calls Tryz.prog 70 #[vO (.cons (.cons e s) r) q] X (RetHB X (.cons (.cons e s) r) true)) :
 Calls Tryz.prog 38 #[vO oa p, vO ob p'] w (RetHB w (.cons (.cons e s) r) true) := by
 have VA := hI va
 have VB := hI vb
 have EA := hI eA
 have CA := hI cA
 have RA := hI rA
 have SM := hI sm
 have KP := hI kp
 clear va vb eA cA rA sm kp
 obtain ⟨a0, a1, a2, a3, a4, a5, ea⟩ := cells7 (oa) p
 obtain ⟨b0, b1, b2, b3, b4, b5, eb⟩ := cells7 (ob) p'
 have T := Bx3.new w #[a0, a1, a2, a3, a4, a5, p] #[b0, b1, b2, b3, b4, b5, p'] #[.int .i64 0, .string ⟨#[]⟩, .string ⟨#[]⟩, .string ⟨#[]⟩, .string ⟨#[]⟩, .string ⟨#[]⟩, .slice none 0 0]
 rw [vO_cells ea, vO_cells eb]
 go_enter Tryz.func38, Tryz.ntmps38
 go_wp2_with fail
 generalize ((w.alloc (.cells #[a0, a1, a2, a3, a4, a5, p] 35)).alloc (.cells #[b0, b1, b2, b3, b4, b5, p'] 35)).alloc (.cells #[.int .i64 0, .string ⟨#[]⟩, .string ⟨#[]⟩, .string ⟨#[]⟩, .string ⟨#[]⟩, .string ⟨#[]⟩, .slice none 0 0] 35) = W at T ⊢
 have B0 : Hid (Bx W (w.heap.size) (cellsO (oa) p).toArray) := by rw [ea]; exact T.b0
 have K0 := hI (hp.below T.bel)
 have B1 : Hid (Bx W (w.heap.size + 1) (cellsO (ob) p').toArray) := by rw [eb]; exact T.b1
 have K1 := hI (hp'.below T.bel)
 have R0 := hI T.b2
 have HW := hI T.bel
 have HT := hI (ht.below T.bel)
 try rw [← vO_cells ea]
 try rw [← vO_cells eb]
 clear T ea eb hp hp' ht
 with_reducible refine (VA.out _ K0.out HT.out).mono ?_
 rintro e w1 ⟨rfl, hb⟩
 replace B0 := kB B0 hb
 replace K0 := kH K0 hb
 replace B1 := kB B1 hb
 replace K1 := kH K1 hb
 replace R0 := kB R0 hb
 replace HW := kW HW hb
 replace HT := kT HT hb
 clear hb
 go_wp2_with (first | (with_reducible refine lG (.tmp 2) B0.out ?_) | (with_reducible refine lG (.tmp 3) B1.out ?_))
 with_reducible refine (VB.out _ K1.out HT.out).mono ?_
 rintro e w2 ⟨rfl, hb⟩
 replace B0 := kB B0 hb
 replace K0 := kH K0 hb
 replace B1 := kB B1 hb
 replace K1 := kH K1 hb
 replace R0 := kB R0 hb
 replace HW := kW HW hb
 replace HT := kT HT hb
 clear hb
 go_wp2_with (first | (with_reducible refine lG (.tmp 2) B0.out ?_) | (with_reducible refine lG (.tmp 3) B1.out ?_))
 with_reducible refine (zeroR oa p _ false hz).mono ?_
 rintro e w3 ⟨rfl, hb⟩
 replace B0 := kB B0 hb
 replace K0 := kH K0 hb
 replace B1 := kB B1 hb
 replace K1 := kH K1 hb
 replace R0 := kB R0 hb
 replace HW := kW HW hb
 replace HT := kT HT hb
 clear hb
 go_wp2_with (first | (with_reducible refine lG (.tmp 2) B0.out ?_) | (with_reducible refine lG (.tmp 3) B1.out ?_))
 with_reducible refine (zeroR ob p' _ false hz2).mono ?_
 rintro e w4 ⟨rfl, hb⟩
 replace B0 := kB B0 hb
 replace K0 := kH K0 hb
 replace B1 := kB B1 hb
 replace K1 := kH K1 hb
 replace R0 := kB R0 hb
 replace HW := kW HW hb
 replace HT := kT HT hb
 clear hb
 go_wp2_with (first | (with_reducible refine lG (.tmp 2) B0.out ?_) | (with_reducible refine lG (.tmp 3) B1.out ?_))
 with_reducible refine (infR oa p _ true ia K0.out).mono ?_
 rintro e w5 ⟨rfl, hb⟩
 replace B0 := kB B0 hb
 replace K0 := kH K0 hb
 replace B1 := kB B1 hb
 replace K1 := kH K1 hb
 replace R0 := kB R0 hb
 replace HW := kW HW hb
 replace HT := kT HT hb
 clear hb
 go_wp2_with (first | (with_reducible refine lG (.tmp 2) B0.out ?_) | (with_reducible refine lG (.tmp 3) B1.out ?_))
 with_reducible refine (infR ob p' _ false ib K1.out).mono ?_
 rintro e w6 ⟨rfl, hb⟩
 replace B0 := kB B0 hb
 replace K0 := kH K0 hb
 replace B1 := kB B1 hb
 replace K1 := kH K1 hb
 replace R0 := kB R0 hb
 replace HW := kW HW hb
 replace HT := kT HT hb
 clear hb
 go_wp2_with (first | (with_reducible refine lG (.tmp 2) B0.out ?_) | (with_reducible refine lG (.tmp 3) B1.out ?_))
 refine wp_region_growR (l := _) 12 (by kernel_rfl) (by kernel_rfl) (fun i => [45, 46, 47, 48, 49, 50, 51, 52, 53, 54, 55, 56].getD i 0) (LR [LV (vO (oa) p), LH (e), LV (vO (oa) p), LH (c), LV (vO (ob) p'), LH (s), LV (vO (oa) p), LH (r), LH (.cons (.cons e s) r), LHB (.cons (.cons e s) r) true, LH (.cons (.cons e s) r), LV (.bool true)]) (LR_mono ⟨mLV _, mLH _, mLV _, mLH _, mLV _, mLH _, mLV _, mLH _, mLH _, mLHB _ _, mLH _, mLV _, trivial⟩) (by
  intro i j hi hj h
  exact inj_getD [45, 46, 47, 48, 49, 50, 51, 52, 53, 54, 55, 56] (by decide) i j hi hj h) (by
  intro i hi
  exact lt_getD 86 [45, 46, 47, 48, 49, 50, 51, 52, 53, 54, 55, 56] (by decide) i hi) [11] (by kernel_rfl) 10 (by omega) 4 (fun j hj => ne_getD 4 [45, 46, 47, 48, 49, 50, 51, 52, 53, 54, 55, 56] (by decide) j hj) (w.heap.size + 1 + 1) _ rfl R0.out rfl (by kernel_rfl) _ rfl rfl rfl rfl
  (.cons (.cons e s) r) (fun _ _ _ _ h => h) ?step ?stepL ?done
 case step =>
  intro i hi a w9 v lo hi' hoth hb hw
  have sl2 : a.tmps[2]? = some (.pointer (some ⟨w.heap.size, 0, none⟩)) := (hoth 2 (fun j hj => ne_getD 2 _ (by decide) j hj)).trans rfl
  have sl3 : a.tmps[3]? = some (.pointer (some ⟨w.heap.size + 1, 0, none⟩)) := (hoth 3 (fun j hj => ne_getD 3 _ (by decide) j hj)).trans rfl
  match i, hi with
  | 0, _ =>
   exact gr_box rfl rfl (.tmp 2) rfl (eval_of sl2) (B0.out.keep hb) ⟨_, rfl, Below.refl _ _, rfl⟩
  | 1, _ =>
   obtain ⟨s0, r0, _⟩ := hw 0 (by omega) (by kernel_rfl)
   have e0 : v 0 = vO (oa) p := r0
   rw [e0] at s0
   refine gr_t rfl rfl 59 45 _ _ rfl (fun v w => by go_simp) s0 ?_
   with_reducible refine (EA.out w9 p (K0.out.below hb) (HT.out.below hb)).mono ?_
   rintro e w3 ⟨p, rfl, hp, hb3⟩
   exact ⟨_, rfl, _, rfl, hb3, p, rfl, hp⟩
  | 2, _ =>
   exact gr_box rfl rfl (.tmp 2) rfl (eval_of sl2) (B0.out.keep hb) ⟨_, rfl, Below.refl _ _, rfl⟩
  | 3, _ =>
   obtain ⟨s0, r0, _⟩ := hw 2 (by omega) (by kernel_rfl)
   have e0 : v 2 = vO (oa) p := r0
   rw [e0] at s0
   refine gr_t rfl rfl 60 47 _ _ rfl (fun v w => by go_simp) s0 ?_
   with_reducible refine (CA.out w9 p (K0.out.below hb) (HT.out.below hb)).mono ?_
   rintro e w3 ⟨p, rfl, hp, hb3⟩
   exact ⟨_, rfl, _, rfl, hb3, p, rfl, hp⟩
  | 4, _ =>
   exact gr_box rfl rfl (.tmp 3) rfl (eval_of sl3) (B1.out.keep hb) ⟨_, rfl, Below.refl _ _, rfl⟩
  | 5, _ =>
   obtain ⟨s0, r0, _⟩ := hw 3 (by omega) (by kernel_rfl)
   obtain ⟨q0, e0, k0⟩ : LH (c) (v 3) (lo 3) (hi' 3) w9 := r0
   rw [e0] at s0
   obtain ⟨s1, r1, _⟩ := hw 4 (by omega) (by kernel_rfl)
   have e1 : v 4 = vO (ob) p' := r1
   rw [e1] at s1
   refine gr_tt rfl rfl 73 48 49 _ _ _ rfl (fun v u w => by go_simp) s0 s1 ?_
   with_reducible refine (SM.out w9 q0 p' k0 (K1.out.below hb) (HT.out.below hb)).mono ?_
   rintro e w3 ⟨p, rfl, hp, hb3⟩
   exact ⟨_, rfl, _, rfl, hb3, p, rfl, hp⟩
  | 6, _ =>
   exact gr_box rfl rfl (.tmp 2) rfl (eval_of sl2) (B0.out.keep hb) ⟨_, rfl, Below.refl _ _, rfl⟩
  | 7, _ =>
   obtain ⟨s0, r0, _⟩ := hw 6 (by omega) (by kernel_rfl)
   have e0 : v 6 = vO (oa) p := r0
   rw [e0] at s0
   refine gr_t rfl rfl 61 51 _ _ rfl (fun v w => by go_simp) s0 ?_
   with_reducible refine (RA.out w9 p (K0.out.below hb) (HT.out.below hb)).mono ?_
   rintro e w3 ⟨p, rfl, hp, hb3⟩
   exact ⟨_, rfl, _, rfl, hb3, p, rfl, hp⟩
  | 8, _ =>
   obtain ⟨s0, r0, _⟩ := hw 1 (by omega) (by kernel_rfl)
   obtain ⟨q0, e0, k0⟩ : LH (e) (v 1) (lo 1) (hi' 1) w9 := r0
   rw [e0] at s0
   obtain ⟨s1, r1, _⟩ := hw 5 (by omega) (by kernel_rfl)
   obtain ⟨q1, e1, k1⟩ : LH (s) (v 5) (lo 5) (hi' 5) w9 := r1
   rw [e1] at s1
   obtain ⟨s2, r2, _⟩ := hw 7 (by omega) (by kernel_rfl)
   obtain ⟨q2, e2, k2⟩ : LH (r) (v 7) (lo 7) (hi' 7) w9 := r2
   rw [e2] at s2
   refine gr_ttt rfl rfl 63 46 50 52 _ _ _ _ rfl (fun v u x w => by go_simp) s0 s1 s2 ?_
   with_reducible refine (powerR e s r q0 q1 q2 w9 k0 k1 k2).mono ?_
   rintro e w3 ⟨p, rfl, hp, hb3⟩
   exact ⟨_, rfl, _, rfl, hb3, p, rfl, hp⟩
  | 9, _ =>
   obtain ⟨s0, r0, _⟩ := hw 8 (by omega) (by kernel_rfl)
   obtain ⟨q0, e0, k0⟩ : LH (.cons (.cons e s) r) (v 8) (lo 8) (hi' 8) w9 := r0
   rw [e0] at s0
   refine gr_t rfl rfl 70 53 _ _ rfl (fun v w => by go_simp) s0 ?_
   with_reducible refine (KP.out w9 q0 k0).mono ?_
   rintro e w3 ⟨p, rfl, hp, hb3⟩
   exact ⟨_, rfl, _, rfl, hb3, p, rfl, hp⟩
  | 10, _ =>
   obtain ⟨s0, r0, _⟩ := hw 9 (by omega) (by kernel_rfl)
   obtain ⟨q0, e0, k0⟩ : LHB (.cons (.cons e s) r) true (v 9) (lo 9) (hi' 9) w9 := r0
   rw [e0] at s0
   exact gr_ext2 rfl rfl 54 _ _ rfl s0 ⟨_, rfl, Below.refl _ _, q0, rfl, k0⟩
  | 11, _ =>
   obtain ⟨s0, r0, _⟩ := hw 9 (by omega) (by kernel_rfl)
   obtain ⟨q0, e0, k0⟩ : LHB (.cons (.cons e s) r) true (v 9) (lo 9) (hi' 9) w9 := r0
   rw [e0] at s0
   exact gr_ext2' rfl rfl 54 _ _ rfl s0 ⟨_, rfl, Below.refl _ _, rfl⟩
 case stepL =>
  intro i hi hl a w1 w9 v lo hi' hw
  match i, hi with
  | 0, _ => exact absurd hl (by decide)
  | 1, _ => exact absurd hl (by decide)
  | 2, _ => exact absurd hl (by decide)
  | 3, _ => exact absurd hl (by decide)
  | 4, _ => exact absurd hl (by decide)
  | 5, _ => exact absurd hl (by decide)
  | 6, _ => exact absurd hl (by decide)
  | 7, _ => exact absurd hl (by decide)
  | 8, _ => exact absurd hl (by decide)
  | 9, _ => exact absurd hl (by decide)
  | 10, _ => exact absurd hl (by decide)
  | 11, _ =>
   obtain ⟨s0, r0⟩ := hw 9 (by omega) (by kernel_rfl)
   obtain ⟨q0, e0, k0⟩ : LHB (.cons (.cons e s) r) true (v 9) (lo 9) (hi' 9) w1 := r0
   rw [e0] at s0
   exact gr_ext2' rfl rfl 54 _ _ rfl s0 ⟨_, rfl, rfl, rfl⟩
 case done =>
  intro a w9 v lo hi' p8 hdef hsz hoth hb hj hap hv10 k8
  obtain ⟨_, hv11, _, _⟩ := hj 11 (by omega)
  change v 11 = _ at hv11
  have ha := eq_puts hdef hsz hoth (fun i hi => (hj i hi).1)
  subst ha
  clear hj hoth hdef hsz hap
  simp only [puts, List.getD_cons_zero, List.getD_cons_succ, hv10, hv11]
  generalize v 0 = v0
  generalize v 1 = v1
  generalize v 2 = v2
  generalize v 3 = v3
  generalize v 4 = v4
  generalize v 5 = v5
  generalize v 6 = v6
  generalize v 7 = v7
  generalize v 8 = v8
  generalize v 9 = v9
  clear hv10 hv11
  simp only [Act.put, List.setIfInBounds_toArray, List.set_cons_zero, List.set_cons_succ]
  show wpList _ _ _ [_] _ _
  replace B0 := kB B0 hb
  replace K0 := kH K0 hb
  replace B1 := kB B1 hb
  replace K1 := kH K1 hb
  replace R0 := kB R0 hb
  replace HW := kW HW hb
  replace HT := kT HT hb
  replace k8 := hI k8
  clear hb
  go_wp2_with (first | (with_reducible refine lG (.tmp 2) B0.out ?_) | (with_reducible refine lG (.tmp 3) B1.out ?_))
  exact retHBs rfl rfl rfl R0.out rfl k8.out (by omega) HW.out
set_option maxHeartbeats 16000000 in
set_option maxRecDepth 100000 in
theorem mulRInf1 (oa ob : Ob) (p p' : Value) (w : World) (e e' c' r' s u2 : Ob) (hz : oa.numIs 0 = false) (hz2 : ob.numIs 0 = false) (ia : oa.inf = true) (ib : ob.inf = true) (hp : Hd w oa p) (hp' : Hd w ob p') (ht : Tab w) (va : ∀ X, Hd X oa p → Tab X → Calls Tryz.prog 21 #[vO oa p] X (RetB X true)) (vb : ∀ X, Hd X ob p' → Tab X → Calls Tryz.prog 21 #[vO ob p'] X (RetB X true)) (eA : ∀ X q, Hd X oa q → Tab X → Calls Tryz.prog 59 #[vO oa q] X (RetH X e)) (eB : ∀ X q, Hd X ob q → Tab X → Calls Tryz.prog 59 #[vO ob q] X (RetH X e')) (cB : ∀ X q, Hd X ob q → Tab X → Calls Tryz.prog 60 #[vO ob q] X (RetH X c')) (rB : ∀ X q, Hd X ob q → Tab X → Calls Tryz.prog 61 #[vO ob q] X (RetH X r'))
 (aD : ∀ X q t, Hd X e q → Hd X e' t → Tab X → Calls Tryz.prog 36 #[vO e q, vO e' t] X (RetHB X s true)) (iH : ∀ X t, Hd X oa p → Hd X r' t → Tab X → Calls Tryz.prog 38 #[vO oa p, vO r' t] X (RetHB X u2 true)) (kp : ∀ X q, Hd X (.cons (.cons s c') u2) q → Calls Tryz.prog 70 #[vO (.cons (.cons s c') u2) q] X (RetHB X (.cons (.cons s c') u2) true)) :
 Calls Tryz.prog 38 #[vO oa p, vO ob p'] w (RetHB w (.cons (.cons s c') u2) true) := by
 have VA := hI va
 have VB := hI vb
 have EA := hI eA
 have EB := hI eB
 have CB := hI cB
 have RB := hI rB
 have AD := hI aD
 have IH := hI iH
 have KP := hI kp
 clear va vb eA eB cB rB aD iH kp
 obtain ⟨a0, a1, a2, a3, a4, a5, ea⟩ := cells7 (oa) p
 obtain ⟨b0, b1, b2, b3, b4, b5, eb⟩ := cells7 (ob) p'
 have T := Bx3.new w #[a0, a1, a2, a3, a4, a5, p] #[b0, b1, b2, b3, b4, b5, p'] #[.int .i64 0, .string ⟨#[]⟩, .string ⟨#[]⟩, .string ⟨#[]⟩, .string ⟨#[]⟩, .string ⟨#[]⟩, .slice none 0 0]
 rw [vO_cells ea, vO_cells eb]
 go_enter Tryz.func38, Tryz.ntmps38
 go_wp2_with fail
 generalize ((w.alloc (.cells #[a0, a1, a2, a3, a4, a5, p] 35)).alloc (.cells #[b0, b1, b2, b3, b4, b5, p'] 35)).alloc (.cells #[.int .i64 0, .string ⟨#[]⟩, .string ⟨#[]⟩, .string ⟨#[]⟩, .string ⟨#[]⟩, .string ⟨#[]⟩, .slice none 0 0] 35) = W at T ⊢
 have B0 : Hid (Bx W (w.heap.size) (cellsO (oa) p).toArray) := by rw [ea]; exact T.b0
 have K0 := hI (hp.below T.bel)
 have B1 : Hid (Bx W (w.heap.size + 1) (cellsO (ob) p').toArray) := by rw [eb]; exact T.b1
 have K1 := hI (hp'.below T.bel)
 have R0 := hI T.b2
 have HW := hI T.bel
 have HT := hI (ht.below T.bel)
 try rw [← vO_cells ea]
 try rw [← vO_cells eb]
 clear T ea eb hp hp' ht
 with_reducible refine (VA.out _ K0.out HT.out).mono ?_
 rintro e w1 ⟨rfl, hb⟩
 replace B0 := kB B0 hb
 replace K0 := kH K0 hb
 replace B1 := kB B1 hb
 replace K1 := kH K1 hb
 replace R0 := kB R0 hb
 replace HW := kW HW hb
 replace HT := kT HT hb
 clear hb
 go_wp2_with (first | (with_reducible refine lG (.tmp 2) B0.out ?_) | (with_reducible refine lG (.tmp 3) B1.out ?_))
 with_reducible refine (VB.out _ K1.out HT.out).mono ?_
 rintro e w2 ⟨rfl, hb⟩
 replace B0 := kB B0 hb
 replace K0 := kH K0 hb
 replace B1 := kB B1 hb
 replace K1 := kH K1 hb
 replace R0 := kB R0 hb
 replace HW := kW HW hb
 replace HT := kT HT hb
 clear hb
 go_wp2_with (first | (with_reducible refine lG (.tmp 2) B0.out ?_) | (with_reducible refine lG (.tmp 3) B1.out ?_))
 with_reducible refine (zeroR oa p _ false hz).mono ?_
 rintro e w3 ⟨rfl, hb⟩
 replace B0 := kB B0 hb
 replace K0 := kH K0 hb
 replace B1 := kB B1 hb
 replace K1 := kH K1 hb
 replace R0 := kB R0 hb
 replace HW := kW HW hb
 replace HT := kT HT hb
 clear hb
 go_wp2_with (first | (with_reducible refine lG (.tmp 2) B0.out ?_) | (with_reducible refine lG (.tmp 3) B1.out ?_))
 with_reducible refine (zeroR ob p' _ false hz2).mono ?_
 rintro e w4 ⟨rfl, hb⟩
 replace B0 := kB B0 hb
 replace K0 := kH K0 hb
 replace B1 := kB B1 hb
 replace K1 := kH K1 hb
 replace R0 := kB R0 hb
 replace HW := kW HW hb
 replace HT := kT HT hb
 clear hb
 go_wp2_with (first | (with_reducible refine lG (.tmp 2) B0.out ?_) | (with_reducible refine lG (.tmp 3) B1.out ?_))
 with_reducible refine (infR oa p _ true ia K0.out).mono ?_
 rintro e w5 ⟨rfl, hb⟩
 replace B0 := kB B0 hb
 replace K0 := kH K0 hb
 replace B1 := kB B1 hb
 replace K1 := kH K1 hb
 replace R0 := kB R0 hb
 replace HW := kW HW hb
 replace HT := kT HT hb
 clear hb
 go_wp2_with (first | (with_reducible refine lG (.tmp 2) B0.out ?_) | (with_reducible refine lG (.tmp 3) B1.out ?_))
 with_reducible refine (infR ob p' _ true ib K1.out).mono ?_
 rintro e w6 ⟨rfl, hb⟩
 replace B0 := kB B0 hb
 replace K0 := kH K0 hb
 replace B1 := kB B1 hb
 replace K1 := kH K1 hb
 replace R0 := kB R0 hb
 replace HW := kW HW hb
 replace HT := kT HT hb
 clear hb
 go_wp2_with (first | (with_reducible refine lG (.tmp 2) B0.out ?_) | (with_reducible refine lG (.tmp 3) B1.out ?_))
 refine wp_region_growS (l := _) 9 (by kernel_rfl) (by kernel_rfl) (fun i => [58, 59, 60, 61, 62, 57, 63, 64, 6].getD i 0) (LR [LV (vO (oa) p), LH (e), LV (vO (ob) p'), LH (e'), LHB (s) true, LHB (s) true, LH (s), LV (.bool true), LBx]) (LR_mono ⟨mLV _, mLH _, mLV _, mLH _, mLHB _ _, mLHB _ _, mLH _, mLV _, mLBx, trivial⟩) (by
  intro i j hi hj h
  exact inj_getD [58, 59, 60, 61, 62, 57, 63, 64, 6] (by decide) i j hi hj h) (by
  intro i hi
  exact lt_getD 86 [58, 59, 60, 61, 62, 57, 63, 64, 6] (by decide) i hi) [7] (by kernel_rfl) 8 6 (by omega) (by omega) (by kernel_rfl) (by kernel_rfl) _ rfl rfl rfl rfl
  (fun _ _ _ _ h => h) (s) (fun _ _ _ _ h => h) ?step ?stepL ?done
 case step =>
  intro i hi a w9 v lo hi' hoth hb hw
  have sl2 : a.tmps[2]? = some (.pointer (some ⟨w.heap.size, 0, none⟩)) := (hoth 2 (fun j hj => ne_getD 2 _ (by decide) j hj)).trans rfl
  have sl3 : a.tmps[3]? = some (.pointer (some ⟨w.heap.size + 1, 0, none⟩)) := (hoth 3 (fun j hj => ne_getD 3 _ (by decide) j hj)).trans rfl
  match i, hi with
  | 0, _ =>
   exact gr_box rfl rfl (.tmp 2) rfl (eval_of sl2) (B0.out.keep hb) ⟨_, rfl, Below.refl _ _, rfl⟩
  | 1, _ =>
   obtain ⟨s0, r0, _⟩ := hw 0 (by omega) (by kernel_rfl)
   have e0 : v 0 = vO (oa) p := r0
   rw [e0] at s0
   refine gr_t rfl rfl 59 58 _ _ rfl (fun v w => by go_simp) s0 ?_
   with_reducible refine (EA.out w9 p (K0.out.below hb) (HT.out.below hb)).mono ?_
   rintro e w3 ⟨p, rfl, hp, hb3⟩
   exact ⟨_, rfl, _, rfl, hb3, p, rfl, hp⟩
  | 2, _ =>
   exact gr_box rfl rfl (.tmp 3) rfl (eval_of sl3) (B1.out.keep hb) ⟨_, rfl, Below.refl _ _, rfl⟩
  | 3, _ =>
   obtain ⟨s0, r0, _⟩ := hw 2 (by omega) (by kernel_rfl)
   have e0 : v 2 = vO (ob) p' := r0
   rw [e0] at s0
   refine gr_t rfl rfl 59 60 _ _ rfl (fun v w => by go_simp) s0 ?_
   with_reducible refine (EB.out w9 p' (K1.out.below hb) (HT.out.below hb)).mono ?_
   rintro e w3 ⟨p, rfl, hp, hb3⟩
   exact ⟨_, rfl, _, rfl, hb3, p, rfl, hp⟩
  | 4, _ =>
   obtain ⟨s0, r0, _⟩ := hw 1 (by omega) (by kernel_rfl)
   obtain ⟨q0, e0, k0⟩ : LH (e) (v 1) (lo 1) (hi' 1) w9 := r0
   rw [e0] at s0
   obtain ⟨s1, r1, _⟩ := hw 3 (by omega) (by kernel_rfl)
   obtain ⟨q1, e1, k1⟩ : LH (e') (v 3) (lo 3) (hi' 3) w9 := r1
   rw [e1] at s1
   refine gr_tt rfl rfl 36 59 61 _ _ _ rfl (fun v u w => by go_simp) s0 s1 ?_
   with_reducible refine (AD.out w9 q0 q1 k0 k1 (HT.out.below hb)).mono ?_
   rintro e w3 ⟨p, rfl, hp, hb3⟩
   exact ⟨_, rfl, _, rfl, hb3, p, rfl, hp⟩
  | 5, _ =>
   obtain ⟨s0, r0, _⟩ := hw 4 (by omega) (by kernel_rfl)
   obtain ⟨q0, e0, k0⟩ : LHB (s) true (v 4) (lo 4) (hi' 4) w9 := r0
   rw [e0] at s0
   exact gr_move rfl rfl 62 _ rfl s0 ⟨_, rfl, Below.refl _ _, q0, rfl, k0⟩
  | 6, _ =>
   obtain ⟨s0, r0, _⟩ := hw 5 (by omega) (by kernel_rfl)
   obtain ⟨q0, e0, k0⟩ : LHB (s) true (v 5) (lo 5) (hi' 5) w9 := r0
   rw [e0] at s0
   exact gr_ext2 rfl rfl 57 _ _ rfl s0 ⟨_, rfl, Below.refl _ _, q0, rfl, k0⟩
  | 7, _ =>
   obtain ⟨s0, r0, _⟩ := hw 5 (by omega) (by kernel_rfl)
   obtain ⟨q0, e0, k0⟩ : LHB (s) true (v 5) (lo 5) (hi' 5) w9 := r0
   rw [e0] at s0
   exact gr_ext2' rfl rfl 57 _ _ rfl s0 ⟨_, rfl, Below.refl _ _, rfl⟩
  | 8, _ =>
   exact grow_allocO rfl rfl rfl ⟨_, rfl, Below.alloc (Below.refl _ _) (Nat.le_refl _) _, rfl, heap_alloc_new _ _, by simp⟩
 case stepL =>
  intro i hi hl a w1 w9 v lo hi' hw
  match i, hi with
  | 0, _ => exact absurd hl (by decide)
  | 1, _ => exact absurd hl (by decide)
  | 2, _ => exact absurd hl (by decide)
  | 3, _ => exact absurd hl (by decide)
  | 4, _ => exact absurd hl (by decide)
  | 5, _ => exact absurd hl (by decide)
  | 6, _ => exact absurd hl (by decide)
  | 7, _ =>
   obtain ⟨s0, r0⟩ := hw 5 (by omega) (by kernel_rfl)
   obtain ⟨q0, e0, k0⟩ : LHB (s) true (v 5) (lo 5) (hi' 5) w1 := r0
   rw [e0] at s0
   exact gr_ext2' rfl rfl 57 _ _ rfl s0 ⟨_, rfl, rfl, rfl⟩
  | 8, _ => exact absurd hl (by decide)
 case done =>
  intro a w9 v lo hi' p7 hdef hsz hoth hb hj hap hv6 k7 hv8 B8
  obtain ⟨_, _, hlo8, _⟩ := hj 8 (by omega)
  obtain ⟨_, hv7, _, _⟩ := hj 7 (by omega)
  change v 7 = _ at hv7
  have ha := eq_puts hdef hsz hoth (fun i hi => (hj i hi).1)
  subst ha
  clear hj hoth hdef hsz hap
  have hX := below_setRowO hb hlo8 (cellsO (s) p7).toArray
  have kX := Hd.box k7 B8 rfl (cellsO (s) p7).toArray
  have bX := Bx.set (y := (cellsO (s) p7).toArray) B8
  generalize World.setRow w9 (lo 8) (cellsO (s) p7).toArray = X7 at hX kX bX ⊢
  clear hb k7 B8
  simp only [puts, List.getD_cons_zero, List.getD_cons_succ, hv6, hv8, hv7]
  generalize v 0 = v0
  generalize v 1 = v1
  generalize v 2 = v2
  generalize v 3 = v3
  generalize v 4 = v4
  generalize v 5 = v5
  clear hv6 hv8 hv7
  generalize lo 8 = g8 at *
  simp only [Act.put, List.setIfInBounds_toArray, List.set_cons_zero, List.set_cons_succ]
  show wpList _ _ _ [_] _ _
  have hb := hX
  clear hX
  replace B0 := kB B0 hb
  replace K0 := kH K0 hb
  replace B1 := kB B1 hb
  replace K1 := kH K1 hb
  replace R0 := kB R0 hb
  replace HW := kW HW hb
  replace HT := kT HT hb
  replace k7 := hI kX
  have G := hI bX
  clear hb kX bX
  go_wp2_with (first | (with_reducible refine lG (.tmp 2) B0.out ?_) | (with_reducible refine lG (.tmp 3) B1.out ?_) | (with_reducible refine lG (.tmp 6) G.out ?_))
  refine wp_region_growS (l := _) 8 (by kernel_rfl) (by kernel_rfl) (fun i => [69, 70, 71, 72, 68, 73, 74, 8].getD i 0) (LR [LV (vO (oa) p), LV (vO (ob) p'), LH (r'), LHB (u2) true, LHB (u2) true, LH (u2), LV (.bool true), LBx]) (LR_mono ⟨mLV _, mLV _, mLH _, mLHB _ _, mLHB _ _, mLH _, mLV _, mLBx, trivial⟩) (by
   intro i j hi hj h
   exact inj_getD [69, 70, 71, 72, 68, 73, 74, 8] (by decide) i j hi hj h) (by
   intro i hi
   exact lt_getD 86 [69, 70, 71, 72, 68, 73, 74, 8] (by decide) i hi) [6] (by kernel_rfl) 7 5 (by omega) (by omega) (by kernel_rfl) (by kernel_rfl) _ rfl rfl rfl rfl
   (fun _ _ _ _ h => h) (u2) (fun _ _ _ _ h => h) ?step ?stepL ?done
  case step =>
   intro i hi a w9 v lo hi' hoth hb hw
   have sl2 : a.tmps[2]? = some (.pointer (some ⟨w.heap.size, 0, none⟩)) := (hoth 2 (fun j hj => ne_getD 2 _ (by decide) j hj)).trans rfl
   have sl3 : a.tmps[3]? = some (.pointer (some ⟨w.heap.size + 1, 0, none⟩)) := (hoth 3 (fun j hj => ne_getD 3 _ (by decide) j hj)).trans rfl
   match i, hi with
   | 0, _ =>
    exact gr_box rfl rfl (.tmp 2) rfl (eval_of sl2) (B0.out.keep hb) ⟨_, rfl, Below.refl _ _, rfl⟩
   | 1, _ =>
    exact gr_box rfl rfl (.tmp 3) rfl (eval_of sl3) (B1.out.keep hb) ⟨_, rfl, Below.refl _ _, rfl⟩
   | 2, _ =>
    obtain ⟨s0, r0, _⟩ := hw 1 (by omega) (by kernel_rfl)
    have e0 : v 1 = vO (ob) p' := r0
    rw [e0] at s0
    refine gr_t rfl rfl 61 70 _ _ rfl (fun v w => by go_simp) s0 ?_
    with_reducible refine (RB.out w9 p' (K1.out.below hb) (HT.out.below hb)).mono ?_
    rintro e w3 ⟨p, rfl, hp, hb3⟩
    exact ⟨_, rfl, _, rfl, hb3, p, rfl, hp⟩
   | 3, _ =>
    obtain ⟨s0, r0, _⟩ := hw 0 (by omega) (by kernel_rfl)
    have e0 : v 0 = vO (oa) p := r0
    rw [e0] at s0
    obtain ⟨s1, r1, _⟩ := hw 2 (by omega) (by kernel_rfl)
    obtain ⟨q1, e1, k1⟩ : LH (r') (v 2) (lo 2) (hi' 2) w9 := r1
    rw [e1] at s1
    refine gr_tt rfl rfl 38 69 71 _ _ _ rfl (fun v u w => by go_simp) s0 s1 ?_
    with_reducible refine (IH.out w9 q1 (K0.out.below hb) k1 (HT.out.below hb)).mono ?_
    rintro e w3 ⟨p, rfl, hp, hb3⟩
    exact ⟨_, rfl, _, rfl, hb3, p, rfl, hp⟩
   | 4, _ =>
    obtain ⟨s0, r0, _⟩ := hw 3 (by omega) (by kernel_rfl)
    obtain ⟨q0, e0, k0⟩ : LHB (u2) true (v 3) (lo 3) (hi' 3) w9 := r0
    rw [e0] at s0
    exact gr_move rfl rfl 72 _ rfl s0 ⟨_, rfl, Below.refl _ _, q0, rfl, k0⟩
   | 5, _ =>
    obtain ⟨s0, r0, _⟩ := hw 4 (by omega) (by kernel_rfl)
    obtain ⟨q0, e0, k0⟩ : LHB (u2) true (v 4) (lo 4) (hi' 4) w9 := r0
    rw [e0] at s0
    exact gr_ext2 rfl rfl 68 _ _ rfl s0 ⟨_, rfl, Below.refl _ _, q0, rfl, k0⟩
   | 6, _ =>
    obtain ⟨s0, r0, _⟩ := hw 4 (by omega) (by kernel_rfl)
    obtain ⟨q0, e0, k0⟩ : LHB (u2) true (v 4) (lo 4) (hi' 4) w9 := r0
    rw [e0] at s0
    exact gr_ext2' rfl rfl 68 _ _ rfl s0 ⟨_, rfl, Below.refl _ _, rfl⟩
   | 7, _ =>
    exact grow_allocO rfl rfl rfl ⟨_, rfl, Below.alloc (Below.refl _ _) (Nat.le_refl _) _, rfl, heap_alloc_new _ _, by simp⟩
  case stepL =>
   intro i hi hl a w1 w9 v lo hi' hw
   match i, hi with
   | 0, _ => exact absurd hl (by decide)
   | 1, _ => exact absurd hl (by decide)
   | 2, _ => exact absurd hl (by decide)
   | 3, _ => exact absurd hl (by decide)
   | 4, _ => exact absurd hl (by decide)
   | 5, _ => exact absurd hl (by decide)
   | 6, _ =>
    obtain ⟨s0, r0⟩ := hw 4 (by omega) (by kernel_rfl)
    obtain ⟨q0, e0, k0⟩ : LHB (u2) true (v 4) (lo 4) (hi' 4) w1 := r0
    rw [e0] at s0
    exact gr_ext2' rfl rfl 68 _ _ rfl s0 ⟨_, rfl, rfl, rfl⟩
   | 7, _ => exact absurd hl (by decide)
  case done =>
   intro a w9 v lo hi' p6 hdef hsz hoth hb hj hap hv5 k6 hv7 B7
   obtain ⟨_, _, hlo7, _⟩ := hj 7 (by omega)
   obtain ⟨_, hv6, _, _⟩ := hj 6 (by omega)
   change v 6 = _ at hv6
   have ha := eq_puts hdef hsz hoth (fun i hi => (hj i hi).1)
   subst ha
   clear hj hoth hdef hsz hap
   have hX := below_setRowO hb hlo7 (cellsO (u2) p6).toArray
   have kX := Hd.box k6 B7 rfl (cellsO (u2) p6).toArray
   have bX := Bx.set (y := (cellsO (u2) p6).toArray) B7
   generalize World.setRow w9 (lo 7) (cellsO (u2) p6).toArray = X6 at hX kX bX ⊢
   clear hb k6 B7
   simp only [puts, List.getD_cons_zero, List.getD_cons_succ, hv5, hv7, hv6]
   generalize v 0 = v0
   generalize v 1 = v1
   generalize v 2 = v2
   generalize v 3 = v3
   generalize v 4 = v4
   clear hv5 hv7 hv6
   generalize lo 7 = g7 at *
   simp only [Act.put, List.setIfInBounds_toArray, List.set_cons_zero, List.set_cons_succ]
   show wpList _ _ _ [_] _ _
   have hb := hX
   clear hX
   replace B0 := kB B0 hb
   replace K0 := kH K0 hb
   replace B1 := kB B1 hb
   replace K1 := kH K1 hb
   replace R0 := kB R0 hb
   replace HW := kW HW hb
   replace HT := kT HT hb
   replace k7 := kH k7 hb
   replace G := kB G hb
   replace k6 := hI kX
   have G2 := hI bX
   clear hb kX bX
   go_wp2_with (first | (with_reducible refine lG (.tmp 2) B0.out ?_) | (with_reducible refine lG (.tmp 3) B1.out ?_) | (with_reducible refine lG (.tmp 6) G.out ?_) | (with_reducible refine lG (.tmp 8) G2.out ?_))
   refine wp_region_growR (l := _) 8 (by kernel_rfl) (by kernel_rfl) (fun i => [78, 79, 80, 81, 82, 83, 84, 85].getD i 0) (LR [LV (vO (s) p7), LV (vO (ob) p'), LH (c'), LV (vO (u2) p6), LH (.cons (.cons s c') u2), LHB (.cons (.cons s c') u2) true, LH (.cons (.cons s c') u2), LV (.bool true)]) (LR_mono ⟨mLV _, mLV _, mLH _, mLV _, mLH _, mLHB _ _, mLH _, mLV _, trivial⟩) (by
    intro i j hi hj h
    exact inj_getD [78, 79, 80, 81, 82, 83, 84, 85] (by decide) i j hi hj h) (by
    intro i hi
    exact lt_getD 86 [78, 79, 80, 81, 82, 83, 84, 85] (by decide) i hi) [7] (by kernel_rfl) 6 (by omega) 4 (fun j hj => ne_getD 4 [78, 79, 80, 81, 82, 83, 84, 85] (by decide) j hj) (w.heap.size + 1 + 1) _ rfl R0.out rfl (by kernel_rfl) _ rfl rfl rfl rfl
    (.cons (.cons s c') u2) (fun _ _ _ _ h => h) ?step ?stepL ?done
   case step =>
    intro i hi a w9 v lo hi' hoth hb hw
    have sl6 : a.tmps[6]? = some (.pointer (some ⟨g8, 0, none⟩)) := (hoth 6 (fun j hj => ne_getD 6 _ (by decide) j hj)).trans rfl
    have sl3 : a.tmps[3]? = some (.pointer (some ⟨w.heap.size + 1, 0, none⟩)) := (hoth 3 (fun j hj => ne_getD 3 _ (by decide) j hj)).trans rfl
    have sl8 : a.tmps[8]? = some (.pointer (some ⟨g7, 0, none⟩)) := (hoth 8 (fun j hj => ne_getD 8 _ (by decide) j hj)).trans rfl
    match i, hi with
    | 0, _ =>
     exact gr_box rfl rfl (.tmp 6) rfl (eval_of sl6) (G.out.keep hb) ⟨_, rfl, Below.refl _ _, rfl⟩
    | 1, _ =>
     exact gr_box rfl rfl (.tmp 3) rfl (eval_of sl3) (B1.out.keep hb) ⟨_, rfl, Below.refl _ _, rfl⟩
    | 2, _ =>
     obtain ⟨s0, r0, _⟩ := hw 1 (by omega) (by kernel_rfl)
     have e0 : v 1 = vO (ob) p' := r0
     rw [e0] at s0
     refine gr_t rfl rfl 60 79 _ _ rfl (fun v w => by go_simp) s0 ?_
     with_reducible refine (CB.out w9 p' (K1.out.below hb) (HT.out.below hb)).mono ?_
     rintro e w3 ⟨p, rfl, hp, hb3⟩
     exact ⟨_, rfl, _, rfl, hb3, p, rfl, hp⟩
    | 3, _ =>
     exact gr_box rfl rfl (.tmp 8) rfl (eval_of sl8) (G2.out.keep hb) ⟨_, rfl, Below.refl _ _, rfl⟩
    | 4, _ =>
     obtain ⟨s0, r0, _⟩ := hw 0 (by omega) (by kernel_rfl)
     have e0 : v 0 = vO (s) p7 := r0
     rw [e0] at s0
     obtain ⟨s1, r1, _⟩ := hw 2 (by omega) (by kernel_rfl)
     obtain ⟨q1, e1, k1⟩ : LH (c') (v 2) (lo 2) (hi' 2) w9 := r1
     rw [e1] at s1
     obtain ⟨s2, r2, _⟩ := hw 3 (by omega) (by kernel_rfl)
     have e2 : v 3 = vO (u2) p6 := r2
     rw [e2] at s2
     refine gr_ttt rfl rfl 63 78 80 81 _ _ _ _ rfl (fun v u x w => by go_simp) s0 s1 s2 ?_
     with_reducible refine (powerR s c' u2 p7 q1 p6 w9 (k7.out.below hb) k1 (k6.out.below hb)).mono ?_
     rintro e w3 ⟨p, rfl, hp, hb3⟩
     exact ⟨_, rfl, _, rfl, hb3, p, rfl, hp⟩
    | 5, _ =>
     obtain ⟨s0, r0, _⟩ := hw 4 (by omega) (by kernel_rfl)
     obtain ⟨q0, e0, k0⟩ : LH (.cons (.cons s c') u2) (v 4) (lo 4) (hi' 4) w9 := r0
     rw [e0] at s0
     refine gr_t rfl rfl 70 82 _ _ rfl (fun v w => by go_simp) s0 ?_
     with_reducible refine (KP.out w9 q0 k0).mono ?_
     rintro e w3 ⟨p, rfl, hp, hb3⟩
     exact ⟨_, rfl, _, rfl, hb3, p, rfl, hp⟩
    | 6, _ =>
     obtain ⟨s0, r0, _⟩ := hw 5 (by omega) (by kernel_rfl)
     obtain ⟨q0, e0, k0⟩ : LHB (.cons (.cons s c') u2) true (v 5) (lo 5) (hi' 5) w9 := r0
     rw [e0] at s0
     exact gr_ext2 rfl rfl 83 _ _ rfl s0 ⟨_, rfl, Below.refl _ _, q0, rfl, k0⟩
    | 7, _ =>
     obtain ⟨s0, r0, _⟩ := hw 5 (by omega) (by kernel_rfl)
     obtain ⟨q0, e0, k0⟩ : LHB (.cons (.cons s c') u2) true (v 5) (lo 5) (hi' 5) w9 := r0
     rw [e0] at s0
     exact gr_ext2' rfl rfl 83 _ _ rfl s0 ⟨_, rfl, Below.refl _ _, rfl⟩
   case stepL =>
    intro i hi hl a w1 w9 v lo hi' hw
    match i, hi with
    | 0, _ => exact absurd hl (by decide)
    | 1, _ => exact absurd hl (by decide)
    | 2, _ => exact absurd hl (by decide)
    | 3, _ => exact absurd hl (by decide)
    | 4, _ => exact absurd hl (by decide)
    | 5, _ => exact absurd hl (by decide)
    | 6, _ => exact absurd hl (by decide)
    | 7, _ =>
     obtain ⟨s0, r0⟩ := hw 5 (by omega) (by kernel_rfl)
     obtain ⟨q0, e0, k0⟩ : LHB (.cons (.cons s c') u2) true (v 5) (lo 5) (hi' 5) w1 := r0
     rw [e0] at s0
     exact gr_ext2' rfl rfl 83 _ _ rfl s0 ⟨_, rfl, rfl, rfl⟩
   case done =>
    intro a w9 v lo hi' p8 hdef hsz hoth hb hj hap hv6 k8
    obtain ⟨_, hv7, _, _⟩ := hj 7 (by omega)
    change v 7 = _ at hv7
    have ha := eq_puts hdef hsz hoth (fun i hi => (hj i hi).1)
    subst ha
    clear hj hoth hdef hsz hap
    simp only [puts, List.getD_cons_zero, List.getD_cons_succ, hv6, hv7]
    generalize v 0 = v0
    generalize v 1 = v1
    generalize v 2 = v2
    generalize v 3 = v3
    generalize v 4 = v4
    generalize v 5 = v5
    clear hv6 hv7
    simp only [Act.put, List.setIfInBounds_toArray, List.set_cons_zero, List.set_cons_succ]
    show wpList _ _ _ [_] _ _
    replace B0 := kB B0 hb
    replace K0 := kH K0 hb
    replace B1 := kB B1 hb
    replace K1 := kH K1 hb
    replace R0 := kB R0 hb
    replace HW := kW HW hb
    replace HT := kT HT hb
    replace k7 := kH k7 hb
    replace G := kB G hb
    replace k6 := kH k6 hb
    replace G2 := kB G2 hb
    replace k8 := hI k8
    clear hb
    go_wp2_with (first | (with_reducible refine lG (.tmp 2) B0.out ?_) | (with_reducible refine lG (.tmp 3) B1.out ?_) | (with_reducible refine lG (.tmp 6) G.out ?_) | (with_reducible refine lG (.tmp 8) G2.out ?_))
    exact retHBs rfl rfl rfl R0.out rfl k8.out (by omega) HW.out
set_option maxHeartbeats 16000000 in
set_option maxRecDepth 100000 in
theorem mulRInf2 (oa ob : Ob) (p p' : Value) (w : World) (e e' c' r' s u2 : Ob) (hz : oa.numIs 0 = false) (hz2 : ob.numIs 0 = false) (ia : oa.inf = false) (ib : ob.inf = true) (hp : Hd w oa p) (hp' : Hd w ob p') (ht : Tab w) (va : ∀ X, Hd X oa p → Tab X → Calls Tryz.prog 21 #[vO oa p] X (RetB X true)) (vb : ∀ X, Hd X ob p' → Tab X → Calls Tryz.prog 21 #[vO ob p'] X (RetB X true)) (eA : ∀ X q, Hd X oa q → Tab X → Calls Tryz.prog 59 #[vO oa q] X (RetH X e)) (eB : ∀ X q, Hd X ob q → Tab X → Calls Tryz.prog 59 #[vO ob q] X (RetH X e')) (cB : ∀ X q, Hd X ob q → Tab X → Calls Tryz.prog 60 #[vO ob q] X (RetH X c')) (rB : ∀ X q, Hd X ob q → Tab X → Calls Tryz.prog 61 #[vO ob q] X (RetH X r'))
 (aD : ∀ X q t, Hd X e q → Hd X e' t → Tab X → Calls Tryz.prog 36 #[vO e q, vO e' t] X (RetHB X s true)) (iH : ∀ X t, Hd X oa p → Hd X r' t → Tab X → Calls Tryz.prog 38 #[vO oa p, vO r' t] X (RetHB X u2 true)) (kp : ∀ X q, Hd X (.cons (.cons s c') u2) q → Calls Tryz.prog 70 #[vO (.cons (.cons s c') u2) q] X (RetHB X (.cons (.cons s c') u2) true)) :
 Calls Tryz.prog 38 #[vO oa p, vO ob p'] w (RetHB w (.cons (.cons s c') u2) true) := by
 have VA := hI va
 have VB := hI vb
 have EA := hI eA
 have EB := hI eB
 have CB := hI cB
 have RB := hI rB
 have AD := hI aD
 have IH := hI iH
 have KP := hI kp
 clear va vb eA eB cB rB aD iH kp
 obtain ⟨a0, a1, a2, a3, a4, a5, ea⟩ := cells7 (oa) p
 obtain ⟨b0, b1, b2, b3, b4, b5, eb⟩ := cells7 (ob) p'
 have T := Bx3.new w #[a0, a1, a2, a3, a4, a5, p] #[b0, b1, b2, b3, b4, b5, p'] #[.int .i64 0, .string ⟨#[]⟩, .string ⟨#[]⟩, .string ⟨#[]⟩, .string ⟨#[]⟩, .string ⟨#[]⟩, .slice none 0 0]
 rw [vO_cells ea, vO_cells eb]
 go_enter Tryz.func38, Tryz.ntmps38
 go_wp2_with fail
 generalize ((w.alloc (.cells #[a0, a1, a2, a3, a4, a5, p] 35)).alloc (.cells #[b0, b1, b2, b3, b4, b5, p'] 35)).alloc (.cells #[.int .i64 0, .string ⟨#[]⟩, .string ⟨#[]⟩, .string ⟨#[]⟩, .string ⟨#[]⟩, .string ⟨#[]⟩, .slice none 0 0] 35) = W at T ⊢
 have B0 : Hid (Bx W (w.heap.size) (cellsO (oa) p).toArray) := by rw [ea]; exact T.b0
 have K0 := hI (hp.below T.bel)
 have B1 : Hid (Bx W (w.heap.size + 1) (cellsO (ob) p').toArray) := by rw [eb]; exact T.b1
 have K1 := hI (hp'.below T.bel)
 have R0 := hI T.b2
 have HW := hI T.bel
 have HT := hI (ht.below T.bel)
 try rw [← vO_cells ea]
 try rw [← vO_cells eb]
 clear T ea eb hp hp' ht
 with_reducible refine (VA.out _ K0.out HT.out).mono ?_
 rintro e w1 ⟨rfl, hb⟩
 replace B0 := kB B0 hb
 replace K0 := kH K0 hb
 replace B1 := kB B1 hb
 replace K1 := kH K1 hb
 replace R0 := kB R0 hb
 replace HW := kW HW hb
 replace HT := kT HT hb
 clear hb
 go_wp2_with (first | (with_reducible refine lG (.tmp 2) B0.out ?_) | (with_reducible refine lG (.tmp 3) B1.out ?_))
 with_reducible refine (VB.out _ K1.out HT.out).mono ?_
 rintro e w2 ⟨rfl, hb⟩
 replace B0 := kB B0 hb
 replace K0 := kH K0 hb
 replace B1 := kB B1 hb
 replace K1 := kH K1 hb
 replace R0 := kB R0 hb
 replace HW := kW HW hb
 replace HT := kT HT hb
 clear hb
 go_wp2_with (first | (with_reducible refine lG (.tmp 2) B0.out ?_) | (with_reducible refine lG (.tmp 3) B1.out ?_))
 with_reducible refine (zeroR oa p _ false hz).mono ?_
 rintro e w3 ⟨rfl, hb⟩
 replace B0 := kB B0 hb
 replace K0 := kH K0 hb
 replace B1 := kB B1 hb
 replace K1 := kH K1 hb
 replace R0 := kB R0 hb
 replace HW := kW HW hb
 replace HT := kT HT hb
 clear hb
 go_wp2_with (first | (with_reducible refine lG (.tmp 2) B0.out ?_) | (with_reducible refine lG (.tmp 3) B1.out ?_))
 with_reducible refine (zeroR ob p' _ false hz2).mono ?_
 rintro e w4 ⟨rfl, hb⟩
 replace B0 := kB B0 hb
 replace K0 := kH K0 hb
 replace B1 := kB B1 hb
 replace K1 := kH K1 hb
 replace R0 := kB R0 hb
 replace HW := kW HW hb
 replace HT := kT HT hb
 clear hb
 go_wp2_with (first | (with_reducible refine lG (.tmp 2) B0.out ?_) | (with_reducible refine lG (.tmp 3) B1.out ?_))
 with_reducible refine (infR oa p _ false ia K0.out).mono ?_
 rintro e w5 ⟨rfl, hb⟩
 replace B0 := kB B0 hb
 replace K0 := kH K0 hb
 replace B1 := kB B1 hb
 replace K1 := kH K1 hb
 replace R0 := kB R0 hb
 replace HW := kW HW hb
 replace HT := kT HT hb
 clear hb
 go_wp2_with (first | (with_reducible refine lG (.tmp 2) B0.out ?_) | (with_reducible refine lG (.tmp 3) B1.out ?_))
 with_reducible refine (infR ob p' _ true ib K1.out).mono ?_
 rintro e w6 ⟨rfl, hb⟩
 replace B0 := kB B0 hb
 replace K0 := kH K0 hb
 replace B1 := kB B1 hb
 replace K1 := kH K1 hb
 replace R0 := kB R0 hb
 replace HW := kW HW hb
 replace HT := kT HT hb
 clear hb
 go_wp2_with (first | (with_reducible refine lG (.tmp 2) B0.out ?_) | (with_reducible refine lG (.tmp 3) B1.out ?_))
 with_reducible refine (infR ob p' _ true ib K1.out).mono ?_
 rintro e w7 ⟨rfl, hb⟩
 replace B0 := kB B0 hb
 replace K0 := kH K0 hb
 replace B1 := kB B1 hb
 replace K1 := kH K1 hb
 replace R0 := kB R0 hb
 replace HW := kW HW hb
 replace HT := kT HT hb
 clear hb
 go_wp2_with (first | (with_reducible refine lG (.tmp 2) B0.out ?_) | (with_reducible refine lG (.tmp 3) B1.out ?_))
 refine wp_region_growS (l := _) 9 (by kernel_rfl) (by kernel_rfl) (fun i => [58, 59, 60, 61, 62, 57, 63, 64, 6].getD i 0) (LR [LV (vO (oa) p), LH (e), LV (vO (ob) p'), LH (e'), LHB (s) true, LHB (s) true, LH (s), LV (.bool true), LBx]) (LR_mono ⟨mLV _, mLH _, mLV _, mLH _, mLHB _ _, mLHB _ _, mLH _, mLV _, mLBx, trivial⟩) (by
  intro i j hi hj h
  exact inj_getD [58, 59, 60, 61, 62, 57, 63, 64, 6] (by decide) i j hi hj h) (by
  intro i hi
  exact lt_getD 86 [58, 59, 60, 61, 62, 57, 63, 64, 6] (by decide) i hi) [7] (by kernel_rfl) 8 6 (by omega) (by omega) (by kernel_rfl) (by kernel_rfl) _ rfl rfl rfl rfl
  (fun _ _ _ _ h => h) (s) (fun _ _ _ _ h => h) ?step ?stepL ?done
 case step =>
  intro i hi a w9 v lo hi' hoth hb hw
  have sl2 : a.tmps[2]? = some (.pointer (some ⟨w.heap.size, 0, none⟩)) := (hoth 2 (fun j hj => ne_getD 2 _ (by decide) j hj)).trans rfl
  have sl3 : a.tmps[3]? = some (.pointer (some ⟨w.heap.size + 1, 0, none⟩)) := (hoth 3 (fun j hj => ne_getD 3 _ (by decide) j hj)).trans rfl
  match i, hi with
  | 0, _ =>
   exact gr_box rfl rfl (.tmp 2) rfl (eval_of sl2) (B0.out.keep hb) ⟨_, rfl, Below.refl _ _, rfl⟩
  | 1, _ =>
   obtain ⟨s0, r0, _⟩ := hw 0 (by omega) (by kernel_rfl)
   have e0 : v 0 = vO (oa) p := r0
   rw [e0] at s0
   refine gr_t rfl rfl 59 58 _ _ rfl (fun v w => by go_simp) s0 ?_
   with_reducible refine (EA.out w9 p (K0.out.below hb) (HT.out.below hb)).mono ?_
   rintro e w3 ⟨p, rfl, hp, hb3⟩
   exact ⟨_, rfl, _, rfl, hb3, p, rfl, hp⟩
  | 2, _ =>
   exact gr_box rfl rfl (.tmp 3) rfl (eval_of sl3) (B1.out.keep hb) ⟨_, rfl, Below.refl _ _, rfl⟩
  | 3, _ =>
   obtain ⟨s0, r0, _⟩ := hw 2 (by omega) (by kernel_rfl)
   have e0 : v 2 = vO (ob) p' := r0
   rw [e0] at s0
   refine gr_t rfl rfl 59 60 _ _ rfl (fun v w => by go_simp) s0 ?_
   with_reducible refine (EB.out w9 p' (K1.out.below hb) (HT.out.below hb)).mono ?_
   rintro e w3 ⟨p, rfl, hp, hb3⟩
   exact ⟨_, rfl, _, rfl, hb3, p, rfl, hp⟩
  | 4, _ =>
   obtain ⟨s0, r0, _⟩ := hw 1 (by omega) (by kernel_rfl)
   obtain ⟨q0, e0, k0⟩ : LH (e) (v 1) (lo 1) (hi' 1) w9 := r0
   rw [e0] at s0
   obtain ⟨s1, r1, _⟩ := hw 3 (by omega) (by kernel_rfl)
   obtain ⟨q1, e1, k1⟩ : LH (e') (v 3) (lo 3) (hi' 3) w9 := r1
   rw [e1] at s1
   refine gr_tt rfl rfl 36 59 61 _ _ _ rfl (fun v u w => by go_simp) s0 s1 ?_
   with_reducible refine (AD.out w9 q0 q1 k0 k1 (HT.out.below hb)).mono ?_
   rintro e w3 ⟨p, rfl, hp, hb3⟩
   exact ⟨_, rfl, _, rfl, hb3, p, rfl, hp⟩
  | 5, _ =>
   obtain ⟨s0, r0, _⟩ := hw 4 (by omega) (by kernel_rfl)
   obtain ⟨q0, e0, k0⟩ : LHB (s) true (v 4) (lo 4) (hi' 4) w9 := r0
   rw [e0] at s0
   exact gr_move rfl rfl 62 _ rfl s0 ⟨_, rfl, Below.refl _ _, q0, rfl, k0⟩
  | 6, _ =>
   obtain ⟨s0, r0, _⟩ := hw 5 (by omega) (by kernel_rfl)
   obtain ⟨q0, e0, k0⟩ : LHB (s) true (v 5) (lo 5) (hi' 5) w9 := r0
   rw [e0] at s0
   exact gr_ext2 rfl rfl 57 _ _ rfl s0 ⟨_, rfl, Below.refl _ _, q0, rfl, k0⟩
  | 7, _ =>
   obtain ⟨s0, r0, _⟩ := hw 5 (by omega) (by kernel_rfl)
   obtain ⟨q0, e0, k0⟩ : LHB (s) true (v 5) (lo 5) (hi' 5) w9 := r0
   rw [e0] at s0
   exact gr_ext2' rfl rfl 57 _ _ rfl s0 ⟨_, rfl, Below.refl _ _, rfl⟩
  | 8, _ =>
   exact grow_allocO rfl rfl rfl ⟨_, rfl, Below.alloc (Below.refl _ _) (Nat.le_refl _) _, rfl, heap_alloc_new _ _, by simp⟩
 case stepL =>
  intro i hi hl a w1 w9 v lo hi' hw
  match i, hi with
  | 0, _ => exact absurd hl (by decide)
  | 1, _ => exact absurd hl (by decide)
  | 2, _ => exact absurd hl (by decide)
  | 3, _ => exact absurd hl (by decide)
  | 4, _ => exact absurd hl (by decide)
  | 5, _ => exact absurd hl (by decide)
  | 6, _ => exact absurd hl (by decide)
  | 7, _ =>
   obtain ⟨s0, r0⟩ := hw 5 (by omega) (by kernel_rfl)
   obtain ⟨q0, e0, k0⟩ : LHB (s) true (v 5) (lo 5) (hi' 5) w1 := r0
   rw [e0] at s0
   exact gr_ext2' rfl rfl 57 _ _ rfl s0 ⟨_, rfl, rfl, rfl⟩
  | 8, _ => exact absurd hl (by decide)
 case done =>
  intro a w9 v lo hi' p7 hdef hsz hoth hb hj hap hv6 k7 hv8 B8
  obtain ⟨_, _, hlo8, _⟩ := hj 8 (by omega)
  obtain ⟨_, hv7, _, _⟩ := hj 7 (by omega)
  change v 7 = _ at hv7
  have ha := eq_puts hdef hsz hoth (fun i hi => (hj i hi).1)
  subst ha
  clear hj hoth hdef hsz hap
  have hX := below_setRowO hb hlo8 (cellsO (s) p7).toArray
  have kX := Hd.box k7 B8 rfl (cellsO (s) p7).toArray
  have bX := Bx.set (y := (cellsO (s) p7).toArray) B8
  generalize World.setRow w9 (lo 8) (cellsO (s) p7).toArray = X7 at hX kX bX ⊢
  clear hb k7 B8
  simp only [puts, List.getD_cons_zero, List.getD_cons_succ, hv6, hv8, hv7]
  generalize v 0 = v0
  generalize v 1 = v1
  generalize v 2 = v2
  generalize v 3 = v3
  generalize v 4 = v4
  generalize v 5 = v5
  clear hv6 hv8 hv7
  generalize lo 8 = g8 at *
  simp only [Act.put, List.setIfInBounds_toArray, List.set_cons_zero, List.set_cons_succ]
  show wpList _ _ _ [_] _ _
  have hb := hX
  clear hX
  replace B0 := kB B0 hb
  replace K0 := kH K0 hb
  replace B1 := kB B1 hb
  replace K1 := kH K1 hb
  replace R0 := kB R0 hb
  replace HW := kW HW hb
  replace HT := kT HT hb
  replace k7 := hI kX
  have G := hI bX
  clear hb kX bX
  go_wp2_with (first | (with_reducible refine lG (.tmp 2) B0.out ?_) | (with_reducible refine lG (.tmp 3) B1.out ?_) | (with_reducible refine lG (.tmp 6) G.out ?_))
  refine wp_region_growS (l := _) 8 (by kernel_rfl) (by kernel_rfl) (fun i => [69, 70, 71, 72, 68, 73, 74, 8].getD i 0) (LR [LV (vO (oa) p), LV (vO (ob) p'), LH (r'), LHB (u2) true, LHB (u2) true, LH (u2), LV (.bool true), LBx]) (LR_mono ⟨mLV _, mLV _, mLH _, mLHB _ _, mLHB _ _, mLH _, mLV _, mLBx, trivial⟩) (by
   intro i j hi hj h
   exact inj_getD [69, 70, 71, 72, 68, 73, 74, 8] (by decide) i j hi hj h) (by
   intro i hi
   exact lt_getD 86 [69, 70, 71, 72, 68, 73, 74, 8] (by decide) i hi) [6] (by kernel_rfl) 7 5 (by omega) (by omega) (by kernel_rfl) (by kernel_rfl) _ rfl rfl rfl rfl
   (fun _ _ _ _ h => h) (u2) (fun _ _ _ _ h => h) ?step ?stepL ?done
  case step =>
   intro i hi a w9 v lo hi' hoth hb hw
   have sl2 : a.tmps[2]? = some (.pointer (some ⟨w.heap.size, 0, none⟩)) := (hoth 2 (fun j hj => ne_getD 2 _ (by decide) j hj)).trans rfl
   have sl3 : a.tmps[3]? = some (.pointer (some ⟨w.heap.size + 1, 0, none⟩)) := (hoth 3 (fun j hj => ne_getD 3 _ (by decide) j hj)).trans rfl
   match i, hi with
   | 0, _ =>
    exact gr_box rfl rfl (.tmp 2) rfl (eval_of sl2) (B0.out.keep hb) ⟨_, rfl, Below.refl _ _, rfl⟩
   | 1, _ =>
    exact gr_box rfl rfl (.tmp 3) rfl (eval_of sl3) (B1.out.keep hb) ⟨_, rfl, Below.refl _ _, rfl⟩
   | 2, _ =>
    obtain ⟨s0, r0, _⟩ := hw 1 (by omega) (by kernel_rfl)
    have e0 : v 1 = vO (ob) p' := r0
    rw [e0] at s0
    refine gr_t rfl rfl 61 70 _ _ rfl (fun v w => by go_simp) s0 ?_
    with_reducible refine (RB.out w9 p' (K1.out.below hb) (HT.out.below hb)).mono ?_
    rintro e w3 ⟨p, rfl, hp, hb3⟩
    exact ⟨_, rfl, _, rfl, hb3, p, rfl, hp⟩
   | 3, _ =>
    obtain ⟨s0, r0, _⟩ := hw 0 (by omega) (by kernel_rfl)
    have e0 : v 0 = vO (oa) p := r0
    rw [e0] at s0
    obtain ⟨s1, r1, _⟩ := hw 2 (by omega) (by kernel_rfl)
    obtain ⟨q1, e1, k1⟩ : LH (r') (v 2) (lo 2) (hi' 2) w9 := r1
    rw [e1] at s1
    refine gr_tt rfl rfl 38 69 71 _ _ _ rfl (fun v u w => by go_simp) s0 s1 ?_
    with_reducible refine (IH.out w9 q1 (K0.out.below hb) k1 (HT.out.below hb)).mono ?_
    rintro e w3 ⟨p, rfl, hp, hb3⟩
    exact ⟨_, rfl, _, rfl, hb3, p, rfl, hp⟩
   | 4, _ =>
    obtain ⟨s0, r0, _⟩ := hw 3 (by omega) (by kernel_rfl)
    obtain ⟨q0, e0, k0⟩ : LHB (u2) true (v 3) (lo 3) (hi' 3) w9 := r0
    rw [e0] at s0
    exact gr_move rfl rfl 72 _ rfl s0 ⟨_, rfl, Below.refl _ _, q0, rfl, k0⟩
   | 5, _ =>
    obtain ⟨s0, r0, _⟩ := hw 4 (by omega) (by kernel_rfl)
    obtain ⟨q0, e0, k0⟩ : LHB (u2) true (v 4) (lo 4) (hi' 4) w9 := r0
    rw [e0] at s0
    exact gr_ext2 rfl rfl 68 _ _ rfl s0 ⟨_, rfl, Below.refl _ _, q0, rfl, k0⟩
   | 6, _ =>
    obtain ⟨s0, r0, _⟩ := hw 4 (by omega) (by kernel_rfl)
    obtain ⟨q0, e0, k0⟩ : LHB (u2) true (v 4) (lo 4) (hi' 4) w9 := r0
    rw [e0] at s0
    exact gr_ext2' rfl rfl 68 _ _ rfl s0 ⟨_, rfl, Below.refl _ _, rfl⟩
   | 7, _ =>
    exact grow_allocO rfl rfl rfl ⟨_, rfl, Below.alloc (Below.refl _ _) (Nat.le_refl _) _, rfl, heap_alloc_new _ _, by simp⟩
  case stepL =>
   intro i hi hl a w1 w9 v lo hi' hw
   match i, hi with
   | 0, _ => exact absurd hl (by decide)
   | 1, _ => exact absurd hl (by decide)
   | 2, _ => exact absurd hl (by decide)
   | 3, _ => exact absurd hl (by decide)
   | 4, _ => exact absurd hl (by decide)
   | 5, _ => exact absurd hl (by decide)
   | 6, _ =>
    obtain ⟨s0, r0⟩ := hw 4 (by omega) (by kernel_rfl)
    obtain ⟨q0, e0, k0⟩ : LHB (u2) true (v 4) (lo 4) (hi' 4) w1 := r0
    rw [e0] at s0
    exact gr_ext2' rfl rfl 68 _ _ rfl s0 ⟨_, rfl, rfl, rfl⟩
   | 7, _ => exact absurd hl (by decide)
  case done =>
   intro a w9 v lo hi' p6 hdef hsz hoth hb hj hap hv5 k6 hv7 B7
   obtain ⟨_, _, hlo7, _⟩ := hj 7 (by omega)
   obtain ⟨_, hv6, _, _⟩ := hj 6 (by omega)
   change v 6 = _ at hv6
   have ha := eq_puts hdef hsz hoth (fun i hi => (hj i hi).1)
   subst ha
   clear hj hoth hdef hsz hap
   have hX := below_setRowO hb hlo7 (cellsO (u2) p6).toArray
   have kX := Hd.box k6 B7 rfl (cellsO (u2) p6).toArray
   have bX := Bx.set (y := (cellsO (u2) p6).toArray) B7
   generalize World.setRow w9 (lo 7) (cellsO (u2) p6).toArray = X6 at hX kX bX ⊢
   clear hb k6 B7
   simp only [puts, List.getD_cons_zero, List.getD_cons_succ, hv5, hv7, hv6]
   generalize v 0 = v0
   generalize v 1 = v1
   generalize v 2 = v2
   generalize v 3 = v3
   generalize v 4 = v4
   clear hv5 hv7 hv6
   generalize lo 7 = g7 at *
   simp only [Act.put, List.setIfInBounds_toArray, List.set_cons_zero, List.set_cons_succ]
   show wpList _ _ _ [_] _ _
   have hb := hX
   clear hX
   replace B0 := kB B0 hb
   replace K0 := kH K0 hb
   replace B1 := kB B1 hb
   replace K1 := kH K1 hb
   replace R0 := kB R0 hb
   replace HW := kW HW hb
   replace HT := kT HT hb
   replace k7 := kH k7 hb
   replace G := kB G hb
   replace k6 := hI kX
   have G2 := hI bX
   clear hb kX bX
   go_wp2_with (first | (with_reducible refine lG (.tmp 2) B0.out ?_) | (with_reducible refine lG (.tmp 3) B1.out ?_) | (with_reducible refine lG (.tmp 6) G.out ?_) | (with_reducible refine lG (.tmp 8) G2.out ?_))
   refine wp_region_growR (l := _) 8 (by kernel_rfl) (by kernel_rfl) (fun i => [78, 79, 80, 81, 82, 83, 84, 85].getD i 0) (LR [LV (vO (s) p7), LV (vO (ob) p'), LH (c'), LV (vO (u2) p6), LH (.cons (.cons s c') u2), LHB (.cons (.cons s c') u2) true, LH (.cons (.cons s c') u2), LV (.bool true)]) (LR_mono ⟨mLV _, mLV _, mLH _, mLV _, mLH _, mLHB _ _, mLH _, mLV _, trivial⟩) (by
    intro i j hi hj h
    exact inj_getD [78, 79, 80, 81, 82, 83, 84, 85] (by decide) i j hi hj h) (by
    intro i hi
    exact lt_getD 86 [78, 79, 80, 81, 82, 83, 84, 85] (by decide) i hi) [7] (by kernel_rfl) 6 (by omega) 4 (fun j hj => ne_getD 4 [78, 79, 80, 81, 82, 83, 84, 85] (by decide) j hj) (w.heap.size + 1 + 1) _ rfl R0.out rfl (by kernel_rfl) _ rfl rfl rfl rfl
    (.cons (.cons s c') u2) (fun _ _ _ _ h => h) ?step ?stepL ?done
   case step =>
    intro i hi a w9 v lo hi' hoth hb hw
    have sl6 : a.tmps[6]? = some (.pointer (some ⟨g8, 0, none⟩)) := (hoth 6 (fun j hj => ne_getD 6 _ (by decide) j hj)).trans rfl
    have sl3 : a.tmps[3]? = some (.pointer (some ⟨w.heap.size + 1, 0, none⟩)) := (hoth 3 (fun j hj => ne_getD 3 _ (by decide) j hj)).trans rfl
    have sl8 : a.tmps[8]? = some (.pointer (some ⟨g7, 0, none⟩)) := (hoth 8 (fun j hj => ne_getD 8 _ (by decide) j hj)).trans rfl
    match i, hi with
    | 0, _ =>
     exact gr_box rfl rfl (.tmp 6) rfl (eval_of sl6) (G.out.keep hb) ⟨_, rfl, Below.refl _ _, rfl⟩
    | 1, _ =>
     exact gr_box rfl rfl (.tmp 3) rfl (eval_of sl3) (B1.out.keep hb) ⟨_, rfl, Below.refl _ _, rfl⟩
    | 2, _ =>
     obtain ⟨s0, r0, _⟩ := hw 1 (by omega) (by kernel_rfl)
     have e0 : v 1 = vO (ob) p' := r0
     rw [e0] at s0
     refine gr_t rfl rfl 60 79 _ _ rfl (fun v w => by go_simp) s0 ?_
     with_reducible refine (CB.out w9 p' (K1.out.below hb) (HT.out.below hb)).mono ?_
     rintro e w3 ⟨p, rfl, hp, hb3⟩
     exact ⟨_, rfl, _, rfl, hb3, p, rfl, hp⟩
    | 3, _ =>
     exact gr_box rfl rfl (.tmp 8) rfl (eval_of sl8) (G2.out.keep hb) ⟨_, rfl, Below.refl _ _, rfl⟩
    | 4, _ =>
     obtain ⟨s0, r0, _⟩ := hw 0 (by omega) (by kernel_rfl)
     have e0 : v 0 = vO (s) p7 := r0
     rw [e0] at s0
     obtain ⟨s1, r1, _⟩ := hw 2 (by omega) (by kernel_rfl)
     obtain ⟨q1, e1, k1⟩ : LH (c') (v 2) (lo 2) (hi' 2) w9 := r1
     rw [e1] at s1
     obtain ⟨s2, r2, _⟩ := hw 3 (by omega) (by kernel_rfl)
     have e2 : v 3 = vO (u2) p6 := r2
     rw [e2] at s2
     refine gr_ttt rfl rfl 63 78 80 81 _ _ _ _ rfl (fun v u x w => by go_simp) s0 s1 s2 ?_
     with_reducible refine (powerR s c' u2 p7 q1 p6 w9 (k7.out.below hb) k1 (k6.out.below hb)).mono ?_
     rintro e w3 ⟨p, rfl, hp, hb3⟩
     exact ⟨_, rfl, _, rfl, hb3, p, rfl, hp⟩
    | 5, _ =>
     obtain ⟨s0, r0, _⟩ := hw 4 (by omega) (by kernel_rfl)
     obtain ⟨q0, e0, k0⟩ : LH (.cons (.cons s c') u2) (v 4) (lo 4) (hi' 4) w9 := r0
     rw [e0] at s0
     refine gr_t rfl rfl 70 82 _ _ rfl (fun v w => by go_simp) s0 ?_
     with_reducible refine (KP.out w9 q0 k0).mono ?_
     rintro e w3 ⟨p, rfl, hp, hb3⟩
     exact ⟨_, rfl, _, rfl, hb3, p, rfl, hp⟩
    | 6, _ =>
     obtain ⟨s0, r0, _⟩ := hw 5 (by omega) (by kernel_rfl)
     obtain ⟨q0, e0, k0⟩ : LHB (.cons (.cons s c') u2) true (v 5) (lo 5) (hi' 5) w9 := r0
     rw [e0] at s0
     exact gr_ext2 rfl rfl 83 _ _ rfl s0 ⟨_, rfl, Below.refl _ _, q0, rfl, k0⟩
    | 7, _ =>
     obtain ⟨s0, r0, _⟩ := hw 5 (by omega) (by kernel_rfl)
     obtain ⟨q0, e0, k0⟩ : LHB (.cons (.cons s c') u2) true (v 5) (lo 5) (hi' 5) w9 := r0
     rw [e0] at s0
     exact gr_ext2' rfl rfl 83 _ _ rfl s0 ⟨_, rfl, Below.refl _ _, rfl⟩
   case stepL =>
    intro i hi hl a w1 w9 v lo hi' hw
    match i, hi with
    | 0, _ => exact absurd hl (by decide)
    | 1, _ => exact absurd hl (by decide)
    | 2, _ => exact absurd hl (by decide)
    | 3, _ => exact absurd hl (by decide)
    | 4, _ => exact absurd hl (by decide)
    | 5, _ => exact absurd hl (by decide)
    | 6, _ => exact absurd hl (by decide)
    | 7, _ =>
     obtain ⟨s0, r0⟩ := hw 5 (by omega) (by kernel_rfl)
     obtain ⟨q0, e0, k0⟩ : LHB (.cons (.cons s c') u2) true (v 5) (lo 5) (hi' 5) w1 := r0
     rw [e0] at s0
     exact gr_ext2' rfl rfl 83 _ _ rfl s0 ⟨_, rfl, rfl, rfl⟩
   case done =>
    intro a w9 v lo hi' p8 hdef hsz hoth hb hj hap hv6 k8
    obtain ⟨_, hv7, _, _⟩ := hj 7 (by omega)
    change v 7 = _ at hv7
    have ha := eq_puts hdef hsz hoth (fun i hi => (hj i hi).1)
    subst ha
    clear hj hoth hdef hsz hap
    simp only [puts, List.getD_cons_zero, List.getD_cons_succ, hv6, hv7]
    generalize v 0 = v0
    generalize v 1 = v1
    generalize v 2 = v2
    generalize v 3 = v3
    generalize v 4 = v4
    generalize v 5 = v5
    clear hv6 hv7
    simp only [Act.put, List.setIfInBounds_toArray, List.set_cons_zero, List.set_cons_succ]
    show wpList _ _ _ [_] _ _
    replace B0 := kB B0 hb
    replace K0 := kH K0 hb
    replace B1 := kB B1 hb
    replace K1 := kH K1 hb
    replace R0 := kB R0 hb
    replace HW := kW HW hb
    replace HT := kT HT hb
    replace k7 := kH k7 hb
    replace G := kB G hb
    replace k6 := kH k6 hb
    replace G2 := kB G2 hb
    replace k8 := hI k8
    clear hb
    go_wp2_with (first | (with_reducible refine lG (.tmp 2) B0.out ?_) | (with_reducible refine lG (.tmp 3) B1.out ?_) | (with_reducible refine lG (.tmp 6) G.out ?_) | (with_reducible refine lG (.tmp 8) G2.out ?_))
    exact retHBs rfl rfl rfl R0.out rfl k8.out (by omega) HW.out
theorem mulRE (a : On) (K K' : Nat) (na : a.nf) (ha : a.bd K) (hK : 1 ≤ K) (hK' : 1 ≤ K') (hKK : K * K' + K + K' ≤ 1000000000) : ∀ (b : On) (p p' : Value) (w : World), b.nf → b.bd K' → a.nd + b.nd + b.len * a.exp.nd ≤ 3000 → Hd w a.ob p → Hd w b.ob p' → Tab w →
 Calls Tryz.prog 38 #[vO a.ob p, vO b.ob p'] w (RetHB w (mulE a b).ob true) := by
 have oa := On.ob_bd ha (by omega)
 have posa := a.nd_pos
 intro b
 induction b with
 | fin n =>
  intro p p' w nb hb hN hp hp' ht
  have obb := On.ob_bd hb (by omega)
  have hnd : (On.fin n).nd = 1 := rfl
  have va := fun X (h : Hd X a.ob p) (hT : Tab X) => validRE a p X na oa (On.ob_nodes (Nat.le_refl _) (by omega)) h hT
  have vb := fun X (h : Hd X (On.fin n).ob p') (hT : Tab X) => validRE (.fin n) p' X nb obb (On.ob_nodes (Nat.le_refl _) (by omega)) h hT
  have hz : a.ob.numIs 0 = decide (a = .fin 0) := On.numIs a 0
  have hz2 : (On.fin n).ob.numIs 0 = decide (On.fin n = .fin 0) := On.numIs _ 0
  have hs := On.ob_bd (mulE_bd ha hK hK' (b := .fin n) hb) hKK
  have hsn : (mulE a (.fin n)).ob.nodes ≤ 3000 := On.ob_nodes (mulE_nd2 a (.fin n)) hN
  by_cases h0 : a = .fin 0
  · rw [decide_eq_true h0] at hz
    have := mulRZero1 _ _ p p' w hz hp hp' ht va vb
    rw [h0, mulE_zero_left]
    rw [h0] at this
    exact this
  · rw [decide_eq_false h0] at hz
    by_cases h1 : On.fin n = .fin 0
    · rw [decide_eq_true h1] at hz2
      have := mulRZero2 _ _ p p' w hz hz2 hp hp' ht va vb
      rw [h1, mulE_zero_right]
      rw [h1] at this
      exact this
    · rw [decide_eq_false h1] at hz2
      cases a with
      | fin m =>
       have es : Ob.num ((m : Rat) * (n : Rat)) = (mulE (.fin m) (.fin n)).ob := by rw [natMul, mulE_fin]; rfl
       rw [← es]
       exact mulRFin _ _ p p' w _ hz hz2 rfl rfl hp hp' ht va vb (fun X q t h h' hT => product2R (m : Rat) (n : Rat) q t X oa obb h h' hT)
        (fun X q h => keptR _ q X (by rw [es]; exact hs) (by rw [es]; exact hsn) h)
      | pw e c r =>
       have hn0 : n ≠ 0 := fun e => h1 (by rw [e])
       have es : Ob.cons (.cons e.ob (.num ((c : Rat) * (n : Rat)))) r.ob = (mulE (.pw e c r) (.fin n)).ob := by rw [natMul, mulE_pf hn0]; rfl
       rw [← es]
       exact mulRPF _ _ p p' w _ _ _ _ hz hz2 rfl rfl hp hp' ht va vb (fun X q h hT => expE (.pw e c r) q X h hT) (fun X q h hT => coeE (.pw e c r) q X h hT) (fun X q h hT => rstE (.pw e c r) q X h hT)
        (fun X q t h h' hT => product2R (c : Rat) (n : Rat) q t X oa.1.2 obb h h' hT) (fun X q h => keptR _ q X (by rw [es]; exact hs) (by rw [es]; exact hsn) h)
 | pw e c r ihe ihr =>
  intro p p' w nb hb hN hp hp' ht
  have obb := On.ob_bd hb (by omega)
  have hnd : (On.pw e c r).nd = 3 + e.nd + r.nd := rfl
  have hln : (On.pw e c r).len = 1 + r.len := rfl
  have hmul : (1 + r.len) * a.exp.nd = a.exp.nd + r.len * a.exp.nd := by rw [Nat.add_mul, Nat.one_mul]
  rw [hnd, hln, hmul] at hN
  have va := fun X (h : Hd X a.ob p) (hT : Tab X) => validRE a p X na oa (On.ob_nodes (Nat.le_refl _) (by omega)) h hT
  have vb := fun X (h : Hd X (On.pw e c r).ob p') (hT : Tab X) => validRE (.pw e c r) p' X nb obb (On.ob_nodes (Nat.le_refl _) (by omega)) h hT
  have hz : a.ob.numIs 0 = decide (a = .fin 0) := On.numIs a 0
  have hs := On.ob_bd (mulE_bd ha hK hK' (b := .pw e c r) hb) hKK
  have hsn : (mulE a (.pw e c r)).ob.nodes ≤ 3000 := On.ob_nodes (mulE_nd2 a (.pw e c r)) (by rw [hnd, hln, hmul]; omega)
  by_cases h0 : a = .fin 0
  · rw [decide_eq_true h0] at hz
    have := mulRZero1 _ _ p p' w hz hp hp' ht va vb
    rw [h0, mulE_zero_left]
    rw [h0] at this
    exact this
  · rw [decide_eq_false h0] at hz
    rw [mulE_pw h0] at hs hsn ⊢
    have eA := fun X q (h : Hd X a.ob q) (hT : Tab X) => expE a q X h hT
    have aD := fun X q t (h : Hd X a.exp.ob q) (h' : Hd X e.ob t) (hT : Tab X) => addRE a.exp e q t X K K' na.nf_exp nb.1 (On.bd_exp ha) hb.1 (by omega) (by omega) h h' hT
    have iH := fun X t (h : Hd X a.ob p) (h' : Hd X r.ob t) (hT : Tab X) => ihr p t X nb.2.2.2.1 hb.2.2 (by omega) h h' hT
    have kp := fun X q (h : Hd X (On.pw (addE a.exp e) c (mulE a r)).ob q) => keptR _ q X hs hsn h
    cases a with
    | fin m => exact mulRInf2 _ _ p p' w _ _ _ _ _ _ hz rfl rfl rfl hp hp' ht va vb eA (fun X q h hT => expE (.pw e c r) q X h hT) (fun X q h hT => coeE (.pw e c r) q X h hT) (fun X q h hT => rstE (.pw e c r) q X h hT) aD iH kp
    | pw e' c' r' => exact mulRInf1 _ _ p p' w _ _ _ _ _ _ hz rfl rfl rfl hp hp' ht va vb eA (fun X q h hT => expE (.pw e c r) q X h hT) (fun X q h hT => coeE (.pw e c r) q X h hT) (fun X q h hT => rstE (.pw e c r) q X h hT) aD iH kp
theorem mulRS {a b : On} {N L K N' L' K' : Nat} (sa : a.sm N L K) (sb : b.sm N' L' K') (h1 : 1 ≤ K) (h1' : 1 ≤ K') (hN : N + N' + L' * N ≤ 3000) (hK : K * K' + K + K' ≤ 1000000000) (p p' : Value) (w : World) (hp : Hd w a.ob p) (hp' : Hd w b.ob p') (ht : Tab w) :
 Calls Tryz.prog 38 #[vO a.ob p, vO b.ob p'] w (RetHB w (mulE a b).ob true) :=
 mulRE a K K' sa.nf sa.bd h1 h1' hK b p p' w sb.nf sb.bd (by
  have h2 : b.len * a.exp.nd ≤ L' * N := Nat.mul_le_mul sb.len (Nat.le_trans a.nd_exp sa.nd)
  have := sa.nd
  have := sb.nd
  omega) hp hp' ht
end Go.Proofs.YtobjdkblpjmbjaaGreatDoor
