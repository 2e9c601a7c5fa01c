/- The program's appendText of an infinite ordinal. -/
import Derived.Test.YtocbedijpomemaaGreatDoorG19
import Derived.Test.YtocbedijpomemaaGreatDoorG26
import Derived.Test.YtocbedijpomemaaGreatDoorG21
import Derived.Test.YtocbedijpomemaaGreatDoorG20
import Derived.Test.YtocbedijpomemaaGreatDoorG24
import Derived.Deep.DeepCutAuto
import Derived.Test.YtocbedijpomemaaGreatDoorG25
namespace Go.Proofs.YtocbedijpomemaaGreatDoor
open Go Go.RowKit
set_option linter.unusedVariables false
set_option maxHeartbeats 32000000
set_option maxRecDepth 100000
theorem app_inf10 (oe oc orr : Ob) (te tc tr : List UInt8) (ne nc nr : Nat) (p bu : Value) (w : World) (B : Nat) (l : List UInt8) (ho : OwnB w B bu l) (hB : B ≤ w.heap.size) (hl : l.length + ne + nc + nr + 100 ≤ 1000000000000 ∧ te.length ≤ ne ∧ tc.length ≤ nc ∧ tr.length ≤ nr) (hp : Pb B w (.cons (.cons oe oc) orr) p)
 (iE : ∀ X bu l q, B ≤ X.heap.size → OwnB X B bu l → l.length + ne ≤ 1000000000000 → Pb B X oe q → Calls Tryz.prog 30 #[bu, vO oe q] X (RetA X B (l ++ te))) (iC : ∀ X bu l q, B ≤ X.heap.size → OwnB X B bu l → l.length + nc ≤ 1000000000000 → Pb B X oc q → Calls Tryz.prog 30 #[bu, vO oc q] X (RetA X B (l ++ tc))) (iR : ∀ X bu l q, B ≤ X.heap.size → OwnB X B bu l → l.length + nr ≤ 1000000000000 → Pb B X orr q → Calls Tryz.prog 30 #[bu, vO orr q] X (RetA X B (l ++ tr))) (fE : oe.isNum = false) (oE : oe.numIs 1 = false) (oC : oc.numIs 1 = true) (zR : orr.numIs 0 = true) :
 Calls Tryz.prog 30 #[bu, vO (.cons (.cons oe oc) orr) p] w (RetA w B ((((l ++ [119]) ++ [94, 40]) ++ te) ++ [41])) := by
 have OB := hI ho
 clear ho
 have HL := hI hl
 clear hl
 have HB := hI hB
 clear hB
 have KA := hI hp
 clear hp
 have IE := hI iE
 clear iE
 have IR := hI iR
 clear iR
 have IC := hI iC
 clear iC
 have FE := hI fE
 clear fE
 have OE := hI oE
 clear oE
 have OC := hI oC
 clear oC
 have ZR := hI zR
 clear zR
 obtain ⟨a0, a1, a2, a3, a4, a5, ea⟩ := cells7 (.cons (.cons oe oc) orr) p
 have T := Bx1.new w #[a0, a1, a2, a3, a4, a5, p]
 rw [vO_cells ea]
 go_enter Tryz.func30, Tryz.ntmps30
 go_wp2_with fail
 generalize w.alloc (.cells #[a0, a1, a2, a3, a4, a5, p] 35) = W at T ⊢
 have B0 : Hid (Bx W (w.heap.size) (cellsO (.cons (.cons oe oc) orr) p).toArray) := by rw [ea]; exact T.b0
 have HW := hI T.bel
 try rw [← vO_cells ea]
 clear T ea 
 have KP := hI (Kp.of HW.out HB.out)
 replace KA := hI (KA.out.kp KP.out)
 replace OB := hI (OB.out.kept HW.out)
 replace HB := hI (Nat.le_trans HB.out HW.out.size)
 clear HW
 with_reducible refine (isFinH (.cons (.cons oe oc) orr) p _ false rfl).mono ?_
 rintro e w1 ⟨rfl, hb⟩
 replace B0 := kB B0 hb
 replace KP := hI (KP.out.trans (Kp.of hb HB.out))
 replace KA := hI (KA.out.kp (Kp.of hb HB.out))
 replace OB := hI (OB.out.kept hb)
 replace HB := hI (Nat.le_trans HB.out hb.size)
 clear hb
 go_wp2_with (with_reducible refine lG (.tmp 3) B0.out ?_)
 with_reducible refine (partsS oe oc orr p _ (fun b => b < B) (fun b hb => Nat.lt_of_lt_of_le hb HB.out) (pb_pair KA.out)).mono ?_
 rintro e w2 ⟨q0, q1, q2, rfl, k0, k1, k2, hb⟩
 replace B0 := kB B0 hb
 replace KP := hI (KP.out.trans (Kp.of hb HB.out))
 replace KA := hI (KA.out.kp (Kp.of hb HB.out))
 replace OB := hI (OB.out.kept hb)
 replace HB := hI (Nat.le_trans HB.out hb.size)
 clear hb
 replace k0 := hI k0
 replace k1 := hI k1
 replace k2 := hI k2
 replace k0 : Hid (Pb B w2 oe q0) := k0
 replace k1 : Hid (Pb B w2 oc q1) := k1
 replace k2 : Hid (Pb B w2 orr q2) := k2
 have T := hI (Bx3.new w2 #[.int .i64 0, .string ⟨#[]⟩, .string ⟨#[]⟩, .string ⟨#[]⟩, .string ⟨#[]⟩, .string ⟨#[]⟩, .slice none 0 0] #[.int .i64 0, .string ⟨#[]⟩, .string ⟨#[]⟩, .string ⟨#[]⟩, .string ⟨#[]⟩, .string ⟨#[]⟩, .slice none 0 0] #[.int .i64 0, .string ⟨#[]⟩, .string ⟨#[]⟩, .string ⟨#[]⟩, .string ⟨#[]⟩, .string ⟨#[]⟩, .slice none 0 0])
 go_wp2_with (first | (with_reducible refine sB (.tmp 5) (.tmp 17) (k0.out.hd HB.out) T.out.b0 ?_) | (with_reducible refine sB (.tmp 6) (.tmp 18) (k1.out.hd HB.out) T.out.n1 ?_) | (with_reducible refine sB (.tmp 7) (.tmp 19) (k2.out.hd HB.out) T.out.n2 ?_; have P := Pt3.new (w := w2) (o0 := oe) (o1 := oc) (o2 := orr) (p0 := q0) (p1 := q1) (p2 := q2) (z0 := #[.int .i64 0, .string ⟨#[]⟩, .string ⟨#[]⟩, .string ⟨#[]⟩, .string ⟨#[]⟩, .string ⟨#[]⟩, .slice none 0 0]) (z1 := #[.int .i64 0, .string ⟨#[]⟩, .string ⟨#[]⟩, .string ⟨#[]⟩, .string ⟨#[]⟩, .string ⟨#[]⟩, .slice none 0 0]) (z2 := #[.int .i64 0, .string ⟨#[]⟩, .string ⟨#[]⟩, .string ⟨#[]⟩, .string ⟨#[]⟩, .string ⟨#[]⟩, .slice none 0 0]); generalize World.setRow (World.setRow (World.setRow (((w2.alloc (.cells #[.int .i64 0, .string ⟨#[]⟩, .string ⟨#[]⟩, .string ⟨#[]⟩, .string ⟨#[]⟩, .string ⟨#[]⟩, .slice none 0 0] 35)).alloc (.cells #[.int .i64 0, .string ⟨#[]⟩, .string ⟨#[]⟩, .string ⟨#[]⟩, .string ⟨#[]⟩, .string ⟨#[]⟩, .slice none 0 0] 35)).alloc (.cells #[.int .i64 0, .string ⟨#[]⟩, .string ⟨#[]⟩, .string ⟨#[]⟩, .string ⟨#[]⟩, .string ⟨#[]⟩, .slice none 0 0] 35)) (w2.heap.size) (cellsO (oe) q0).toArray) (w2.heap.size + 1) (cellsO (oc) q1).toArray) (w2.heap.size + 1 + 1) (cellsO (orr) q2).toArray = X2 at P ⊢; have hb := P.bel; replace B0 := kB B0 hb; replace KP := hI (KP.out.trans (Kp.of hb HB.out)); replace KA := hI (KA.out.kp (Kp.of hb HB.out)); replace OB := hI (OB.out.kept hb); replace k0 := hI (k0.out.kp (Kp.of hb HB.out)); replace k1 := hI (k1.out.kp (Kp.of hb HB.out)); replace k2 := hI (k2.out.kp (Kp.of hb HB.out)); replace HB := hI (Nat.le_trans HB.out hb.size); have D0 := hI P.b0; have D1 := hI P.b1; have D2 := hI P.b2; clear P hb T; have hal := hI (show Below X2.heap.size X2 (X2.alloc (.cells #[.int .u8 119] 5)) from Below.alloc (Below.refl _ _) (Nat.le_refl _) _); have hnw := hI (show (X2.alloc (.cells #[.int .u8 119] 5)).heap[X2.heap.size]? = some (.cells #[.int .u8 ((119 : UInt8).toNat : Int)] 5 (0, 0)) from heap_alloc_new X2 _); have hob := hI (OB.out.kept hal.out)) | (at_builtin; refine appByte rfl (.tmp 20) (.tmp 21) rfl rfl hob.out 119 X2.heap.size 1 rfl hnw.out (by have := HL.out; (try simp only [List.length_append, List.length_cons, List.length_nil]); omega) (Nat.le_trans HB.out hal.out.size) ?_) | (with_reducible refine lG (.tmp 3) B0.out ?_) | (with_reducible refine lG (.tmp 5) D0.out ?_) | (with_reducible refine lG (.tmp 6) D1.out ?_) | (with_reducible refine lG (.tmp 7) D2.out ?_))
 intro v3 x3 h3 j3
 have k3 := (Kp.of hal.out HB.out).trans j3
 replace B0 := hI (B0.out.kp k3)
 replace KP := hI (KP.out.trans k3)
 replace KA := hI (KA.out.kp k3)
 replace k0 := hI (k0.out.kp k3)
 replace k1 := hI (k1.out.kp k3)
 replace k2 := hI (k2.out.kp k3)
 replace D0 := hI (D0.out.kp k3)
 replace D1 := hI (D1.out.kp k3)
 replace D2 := hI (D2.out.kp k3)
 replace HB := hI (Nat.le_trans HB.out k3.bel.size)
 replace OB := hI h3
 clear hal hnw hob k3 j3 h3
 go_wp2_with (first | (with_reducible refine lG (.tmp 3) B0.out ?_) | (with_reducible refine lG (.tmp 5) D0.out ?_) | (with_reducible refine lG (.tmp 6) D1.out ?_) | (with_reducible refine lG (.tmp 7) D2.out ?_))
 with_reducible refine (isFinH oe q0 _ false FE.out).mono ?_
 rintro e w4 ⟨rfl, hb⟩
 replace B0 := kB B0 hb
 replace KP := hI (KP.out.trans (Kp.of hb HB.out))
 replace KA := hI (KA.out.kp (Kp.of hb HB.out))
 replace OB := hI (OB.out.kept hb)
 replace k0 := hI (k0.out.kp (Kp.of hb HB.out))
 replace k1 := hI (k1.out.kp (Kp.of hb HB.out))
 replace k2 := hI (k2.out.kp (Kp.of hb HB.out))
 replace D0 := kB D0 hb
 replace D1 := kB D1 hb
 replace D2 := kB D2 hb
 replace HB := hI (Nat.le_trans HB.out hb.size)
 clear hb
 go_wp2_with (first | (at_builtin; refine appStr rfl (.tmp 27) (.const (.string ⟨#[94, 40]⟩)) rfl rfl OB.out [94, 40] rfl (by have := HL.out; (try simp only [List.length_append, List.length_cons, List.length_nil]); omega) HB.out ?_) | (with_reducible refine lG (.tmp 3) B0.out ?_) | (with_reducible refine lG (.tmp 5) D0.out ?_) | (with_reducible refine lG (.tmp 6) D1.out ?_) | (with_reducible refine lG (.tmp 7) D2.out ?_))
 intro v5 x5 h5 k5
 replace B0 := hI (B0.out.kp k5)
 replace KP := hI (KP.out.trans k5)
 replace KA := hI (KA.out.kp k5)
 replace k0 := hI (k0.out.kp k5)
 replace k1 := hI (k1.out.kp k5)
 replace k2 := hI (k2.out.kp k5)
 replace D0 := hI (D0.out.kp k5)
 replace D1 := hI (D1.out.kp k5)
 replace D2 := hI (D2.out.kp k5)
 replace HB := hI (Nat.le_trans HB.out k5.bel.size)
 replace OB : Hid (OwnB x5 B v5 ((l ++ [119]) ++ [94, 40])) := by
  have z := h5
  show OwnB _ _ _ _
  (try simp only [List.append_assoc, List.cons_append, List.nil_append] at z ⊢)
  exact z
 clear k5 h5
 go_wp2_with (first | (with_reducible refine lG (.tmp 3) B0.out ?_) | (with_reducible refine lG (.tmp 5) D0.out ?_) | (with_reducible refine lG (.tmp 6) D1.out ?_) | (with_reducible refine lG (.tmp 7) D2.out ?_))
 with_reducible refine (IE.out _ v5 ((l ++ [119]) ++ [94, 40]) q0 HB.out OB.out (by have := HL.out; (try simp only [List.length_append, List.length_cons, List.length_nil]); omega) k0.out).mono ?_
 rintro e x6 ⟨v6, rfl, h6, k6⟩
 replace B0 := hI (B0.out.kp k6)
 replace KP := hI (KP.out.trans k6)
 replace KA := hI (KA.out.kp k6)
 replace k0 := hI (k0.out.kp k6)
 replace k1 := hI (k1.out.kp k6)
 replace k2 := hI (k2.out.kp k6)
 replace D0 := hI (D0.out.kp k6)
 replace D1 := hI (D1.out.kp k6)
 replace D2 := hI (D2.out.kp k6)
 replace HB := hI (Nat.le_trans HB.out k6.bel.size)
 replace OB : Hid (OwnB x6 B v6 (((l ++ [119]) ++ [94, 40]) ++ te)) := by
  have z := h6
  show OwnB _ _ _ _
  (try simp only [List.append_assoc, List.cons_append, List.nil_append] at z ⊢)
  exact z
 clear k6 h6
 have hal := hI (show Below x6.heap.size x6 (x6.alloc (.cells #[.int .u8 41] 5)) from Below.alloc (Below.refl _ _) (Nat.le_refl _) _)
 have hnw := hI (show (x6.alloc (.cells #[.int .u8 41] 5)).heap[x6.heap.size]? = some (.cells #[.int .u8 ((41 : UInt8).toNat : Int)] 5 (0, 0)) from heap_alloc_new x6 _)
 have hob := hI (OB.out.kept hal.out)
 go_wp2_with (first | (at_builtin; refine appByte rfl (.tmp 32) (.tmp 33) rfl rfl hob.out 41 x6.heap.size 1 rfl hnw.out (by have := HL.out; (try simp only [List.length_append, List.length_cons, List.length_nil]); omega) (Nat.le_trans HB.out hal.out.size) ?_) | (with_reducible refine lG (.tmp 3) B0.out ?_) | (with_reducible refine lG (.tmp 5) D0.out ?_) | (with_reducible refine lG (.tmp 6) D1.out ?_) | (with_reducible refine lG (.tmp 7) D2.out ?_))
 intro v7 x7 h7 j7
 have k7 := (Kp.of hal.out HB.out).trans j7
 replace B0 := hI (B0.out.kp k7)
 replace KP := hI (KP.out.trans k7)
 replace KA := hI (KA.out.kp k7)
 replace k0 := hI (k0.out.kp k7)
 replace k1 := hI (k1.out.kp k7)
 replace k2 := hI (k2.out.kp k7)
 replace D0 := hI (D0.out.kp k7)
 replace D1 := hI (D1.out.kp k7)
 replace D2 := hI (D2.out.kp k7)
 replace HB := hI (Nat.le_trans HB.out k7.bel.size)
 replace OB : Hid (OwnB x7 B v7 ((((l ++ [119]) ++ [94, 40]) ++ te) ++ [41])) := by
  have z := h7
  show OwnB _ _ _ _
  (try simp only [List.append_assoc, List.cons_append, List.nil_append] at z ⊢)
  exact z
 clear hal hnw hob k7 j7 h7
 go_wp2_with (first | (with_reducible refine lG (.tmp 3) B0.out ?_) | (with_reducible refine lG (.tmp 5) D0.out ?_) | (with_reducible refine lG (.tmp 6) D1.out ?_) | (with_reducible refine lG (.tmp 7) D2.out ?_))
 with_reducible refine (isOneH oc q1 _ true OC.out).mono ?_
 rintro e w8 ⟨rfl, hb⟩
 replace B0 := kB B0 hb
 replace KP := hI (KP.out.trans (Kp.of hb HB.out))
 replace KA := hI (KA.out.kp (Kp.of hb HB.out))
 replace OB := hI (OB.out.kept hb)
 replace k0 := hI (k0.out.kp (Kp.of hb HB.out))
 replace k1 := hI (k1.out.kp (Kp.of hb HB.out))
 replace k2 := hI (k2.out.kp (Kp.of hb HB.out))
 replace D0 := kB D0 hb
 replace D1 := kB D1 hb
 replace D2 := kB D2 hb
 replace HB := hI (Nat.le_trans HB.out hb.size)
 clear hb
 go_wp2_with (first | (with_reducible refine lG (.tmp 3) B0.out ?_) | (with_reducible refine lG (.tmp 5) D0.out ?_) | (with_reducible refine lG (.tmp 6) D1.out ?_) | (with_reducible refine lG (.tmp 7) D2.out ?_))
 with_reducible refine (isZeroH orr q2 _ true ZR.out).mono ?_
 rintro e w9 ⟨rfl, hb⟩
 replace B0 := kB B0 hb
 replace KP := hI (KP.out.trans (Kp.of hb HB.out))
 replace KA := hI (KA.out.kp (Kp.of hb HB.out))
 replace OB := hI (OB.out.kept hb)
 replace k0 := hI (k0.out.kp (Kp.of hb HB.out))
 replace k1 := hI (k1.out.kp (Kp.of hb HB.out))
 replace k2 := hI (k2.out.kp (Kp.of hb HB.out))
 replace D0 := kB D0 hb
 replace D1 := kB D1 hb
 replace D2 := kB D2 hb
 replace HB := hI (Nat.le_trans HB.out hb.size)
 clear hb
 go_wp2_with (first | (with_reducible refine lG (.tmp 3) B0.out ?_) | (with_reducible refine lG (.tmp 5) D0.out ?_) | (with_reducible refine lG (.tmp 6) D1.out ?_) | (with_reducible refine lG (.tmp 7) D2.out ?_))
 go_ret
 exact ⟨v7, rfl, OB.out, KP.out⟩
theorem app_inf1r (oe oc orr : Ob) (te tc tr : List UInt8) (ne nc nr : Nat) (p bu : Value) (w : World) (B : Nat) (l : List UInt8) (ho : OwnB w B bu l) (hB : B ≤ w.heap.size) (hl : l.length + ne + nc + nr + 100 ≤ 1000000000000 ∧ te.length ≤ ne ∧ tc.length ≤ nc ∧ tr.length ≤ nr) (hp : Pb B w (.cons (.cons oe oc) orr) p)
 (iE : ∀ X bu l q, B ≤ X.heap.size → OwnB X B bu l → l.length + ne ≤ 1000000000000 → Pb B X oe q → Calls Tryz.prog 30 #[bu, vO oe q] X (RetA X B (l ++ te))) (iC : ∀ X bu l q, B ≤ X.heap.size → OwnB X B bu l → l.length + nc ≤ 1000000000000 → Pb B X oc q → Calls Tryz.prog 30 #[bu, vO oc q] X (RetA X B (l ++ tc))) (iR : ∀ X bu l q, B ≤ X.heap.size → OwnB X B bu l → l.length + nr ≤ 1000000000000 → Pb B X orr q → Calls Tryz.prog 30 #[bu, vO orr q] X (RetA X B (l ++ tr))) (fE : oe.isNum = false) (oE : oe.numIs 1 = false) (oC : oc.numIs 1 = true) (zR : orr.numIs 0 = false) :
 Calls Tryz.prog 30 #[bu, vO (.cons (.cons oe oc) orr) p] w (RetA w B ((((((l ++ [119]) ++ [94, 40]) ++ te) ++ [41]) ++ [32, 43, 32]) ++ tr)) := by
 have OB := hI ho
 clear ho
 have HL := hI hl
 clear hl
 have HB := hI hB
 clear hB
 have KA := hI hp
 clear hp
 have IE := hI iE
 clear iE
 have IR := hI iR
 clear iR
 have IC := hI iC
 clear iC
 have FE := hI fE
 clear fE
 have OE := hI oE
 clear oE
 have OC := hI oC
 clear oC
 have ZR := hI zR
 clear zR
 obtain ⟨a0, a1, a2, a3, a4, a5, ea⟩ := cells7 (.cons (.cons oe oc) orr) p
 have T := Bx1.new w #[a0, a1, a2, a3, a4, a5, p]
 rw [vO_cells ea]
 go_enter Tryz.func30, Tryz.ntmps30
 go_wp2_with fail
 generalize w.alloc (.cells #[a0, a1, a2, a3, a4, a5, p] 35) = W at T ⊢
 have B0 : Hid (Bx W (w.heap.size) (cellsO (.cons (.cons oe oc) orr) p).toArray) := by rw [ea]; exact T.b0
 have HW := hI T.bel
 try rw [← vO_cells ea]
 clear T ea 
 have KP := hI (Kp.of HW.out HB.out)
 replace KA := hI (KA.out.kp KP.out)
 replace OB := hI (OB.out.kept HW.out)
 replace HB := hI (Nat.le_trans HB.out HW.out.size)
 clear HW
 with_reducible refine (isFinH (.cons (.cons oe oc) orr) p _ false rfl).mono ?_
 rintro e w1 ⟨rfl, hb⟩
 replace B0 := kB B0 hb
 replace KP := hI (KP.out.trans (Kp.of hb HB.out))
 replace KA := hI (KA.out.kp (Kp.of hb HB.out))
 replace OB := hI (OB.out.kept hb)
 replace HB := hI (Nat.le_trans HB.out hb.size)
 clear hb
 go_wp2_with (with_reducible refine lG (.tmp 3) B0.out ?_)
 with_reducible refine (partsS oe oc orr p _ (fun b => b < B) (fun b hb => Nat.lt_of_lt_of_le hb HB.out) (pb_pair KA.out)).mono ?_
 rintro e w2 ⟨q0, q1, q2, rfl, k0, k1, k2, hb⟩
 replace B0 := kB B0 hb
 replace KP := hI (KP.out.trans (Kp.of hb HB.out))
 replace KA := hI (KA.out.kp (Kp.of hb HB.out))
 replace OB := hI (OB.out.kept hb)
 replace HB := hI (Nat.le_trans HB.out hb.size)
 clear hb
 replace k0 := hI k0
 replace k1 := hI k1
 replace k2 := hI k2
 replace k0 : Hid (Pb B w2 oe q0) := k0
 replace k1 : Hid (Pb B w2 oc q1) := k1
 replace k2 : Hid (Pb B w2 orr q2) := k2
 have T := hI (Bx3.new w2 #[.int .i64 0, .string ⟨#[]⟩, .string ⟨#[]⟩, .string ⟨#[]⟩, .string ⟨#[]⟩, .string ⟨#[]⟩, .slice none 0 0] #[.int .i64 0, .string ⟨#[]⟩, .string ⟨#[]⟩, .string ⟨#[]⟩, .string ⟨#[]⟩, .string ⟨#[]⟩, .slice none 0 0] #[.int .i64 0, .string ⟨#[]⟩, .string ⟨#[]⟩, .string ⟨#[]⟩, .string ⟨#[]⟩, .string ⟨#[]⟩, .slice none 0 0])
 go_wp2_with (first | (with_reducible refine sB (.tmp 5) (.tmp 17) (k0.out.hd HB.out) T.out.b0 ?_) | (with_reducible refine sB (.tmp 6) (.tmp 18) (k1.out.hd HB.out) T.out.n1 ?_) | (with_reducible refine sB (.tmp 7) (.tmp 19) (k2.out.hd HB.out) T.out.n2 ?_; have P := Pt3.new (w := w2) (o0 := oe) (o1 := oc) (o2 := orr) (p0 := q0) (p1 := q1) (p2 := q2) (z0 := #[.int .i64 0, .string ⟨#[]⟩, .string ⟨#[]⟩, .string ⟨#[]⟩, .string ⟨#[]⟩, .string ⟨#[]⟩, .slice none 0 0]) (z1 := #[.int .i64 0, .string ⟨#[]⟩, .string ⟨#[]⟩, .string ⟨#[]⟩, .string ⟨#[]⟩, .string ⟨#[]⟩, .slice none 0 0]) (z2 := #[.int .i64 0, .string ⟨#[]⟩, .string ⟨#[]⟩, .string ⟨#[]⟩, .string ⟨#[]⟩, .string ⟨#[]⟩, .slice none 0 0]); generalize World.setRow (World.setRow (World.setRow (((w2.alloc (.cells #[.int .i64 0, .string ⟨#[]⟩, .string ⟨#[]⟩, .string ⟨#[]⟩, .string ⟨#[]⟩, .string ⟨#[]⟩, .slice none 0 0] 35)).alloc (.cells #[.int .i64 0, .string ⟨#[]⟩, .string ⟨#[]⟩, .string ⟨#[]⟩, .string ⟨#[]⟩, .string ⟨#[]⟩, .slice none 0 0] 35)).alloc (.cells #[.int .i64 0, .string ⟨#[]⟩, .string ⟨#[]⟩, .string ⟨#[]⟩, .string ⟨#[]⟩, .string ⟨#[]⟩, .slice none 0 0] 35)) (w2.heap.size) (cellsO (oe) q0).toArray) (w2.heap.size + 1) (cellsO (oc) q1).toArray) (w2.heap.size + 1 + 1) (cellsO (orr) q2).toArray = X2 at P ⊢; have hb := P.bel; replace B0 := kB B0 hb; replace KP := hI (KP.out.trans (Kp.of hb HB.out)); replace KA := hI (KA.out.kp (Kp.of hb HB.out)); replace OB := hI (OB.out.kept hb); replace k0 := hI (k0.out.kp (Kp.of hb HB.out)); replace k1 := hI (k1.out.kp (Kp.of hb HB.out)); replace k2 := hI (k2.out.kp (Kp.of hb HB.out)); replace HB := hI (Nat.le_trans HB.out hb.size); have D0 := hI P.b0; have D1 := hI P.b1; have D2 := hI P.b2; clear P hb T; have hal := hI (show Below X2.heap.size X2 (X2.alloc (.cells #[.int .u8 119] 5)) from Below.alloc (Below.refl _ _) (Nat.le_refl _) _); have hnw := hI (show (X2.alloc (.cells #[.int .u8 119] 5)).heap[X2.heap.size]? = some (.cells #[.int .u8 ((119 : UInt8).toNat : Int)] 5 (0, 0)) from heap_alloc_new X2 _); have hob := hI (OB.out.kept hal.out)) | (at_builtin; refine appByte rfl (.tmp 20) (.tmp 21) rfl rfl hob.out 119 X2.heap.size 1 rfl hnw.out (by have := HL.out; (try simp only [List.length_append, List.length_cons, List.length_nil]); omega) (Nat.le_trans HB.out hal.out.size) ?_) | (with_reducible refine lG (.tmp 3) B0.out ?_) | (with_reducible refine lG (.tmp 5) D0.out ?_) | (with_reducible refine lG (.tmp 6) D1.out ?_) | (with_reducible refine lG (.tmp 7) D2.out ?_))
 intro v3 x3 h3 j3
 have k3 := (Kp.of hal.out HB.out).trans j3
 replace B0 := hI (B0.out.kp k3)
 replace KP := hI (KP.out.trans k3)
 replace KA := hI (KA.out.kp k3)
 replace k0 := hI (k0.out.kp k3)
 replace k1 := hI (k1.out.kp k3)
 replace k2 := hI (k2.out.kp k3)
 replace D0 := hI (D0.out.kp k3)
 replace D1 := hI (D1.out.kp k3)
 replace D2 := hI (D2.out.kp k3)
 replace HB := hI (Nat.le_trans HB.out k3.bel.size)
 replace OB := hI h3
 clear hal hnw hob k3 j3 h3
 go_wp2_with (first | (with_reducible refine lG (.tmp 3) B0.out ?_) | (with_reducible refine lG (.tmp 5) D0.out ?_) | (with_reducible refine lG (.tmp 6) D1.out ?_) | (with_reducible refine lG (.tmp 7) D2.out ?_))
 with_reducible refine (isFinH oe q0 _ false FE.out).mono ?_
 rintro e w4 ⟨rfl, hb⟩
 replace B0 := kB B0 hb
 replace KP := hI (KP.out.trans (Kp.of hb HB.out))
 replace KA := hI (KA.out.kp (Kp.of hb HB.out))
 replace OB := hI (OB.out.kept hb)
 replace k0 := hI (k0.out.kp (Kp.of hb HB.out))
 replace k1 := hI (k1.out.kp (Kp.of hb HB.out))
 replace k2 := hI (k2.out.kp (Kp.of hb HB.out))
 replace D0 := kB D0 hb
 replace D1 := kB D1 hb
 replace D2 := kB D2 hb
 replace HB := hI (Nat.le_trans HB.out hb.size)
 clear hb
 go_wp2_with (first | (at_builtin; refine appStr rfl (.tmp 27) (.const (.string ⟨#[94, 40]⟩)) rfl rfl OB.out [94, 40] rfl (by have := HL.out; (try simp only [List.length_append, List.length_cons, List.length_nil]); omega) HB.out ?_) | (with_reducible refine lG (.tmp 3) B0.out ?_) | (with_reducible refine lG (.tmp 5) D0.out ?_) | (with_reducible refine lG (.tmp 6) D1.out ?_) | (with_reducible refine lG (.tmp 7) D2.out ?_))
 intro v5 x5 h5 k5
 replace B0 := hI (B0.out.kp k5)
 replace KP := hI (KP.out.trans k5)
 replace KA := hI (KA.out.kp k5)
 replace k0 := hI (k0.out.kp k5)
 replace k1 := hI (k1.out.kp k5)
 replace k2 := hI (k2.out.kp k5)
 replace D0 := hI (D0.out.kp k5)
 replace D1 := hI (D1.out.kp k5)
 replace D2 := hI (D2.out.kp k5)
 replace HB := hI (Nat.le_trans HB.out k5.bel.size)
 replace OB : Hid (OwnB x5 B v5 ((l ++ [119]) ++ [94, 40])) := by
  have z := h5
  show OwnB _ _ _ _
  (try simp only [List.append_assoc, List.cons_append, List.nil_append] at z ⊢)
  exact z
 clear k5 h5
 go_wp2_with (first | (with_reducible refine lG (.tmp 3) B0.out ?_) | (with_reducible refine lG (.tmp 5) D0.out ?_) | (with_reducible refine lG (.tmp 6) D1.out ?_) | (with_reducible refine lG (.tmp 7) D2.out ?_))
 with_reducible refine (IE.out _ v5 ((l ++ [119]) ++ [94, 40]) q0 HB.out OB.out (by have := HL.out; (try simp only [List.length_append, List.length_cons, List.length_nil]); omega) k0.out).mono ?_
 rintro e x6 ⟨v6, rfl, h6, k6⟩
 replace B0 := hI (B0.out.kp k6)
 replace KP := hI (KP.out.trans k6)
 replace KA := hI (KA.out.kp k6)
 replace k0 := hI (k0.out.kp k6)
 replace k1 := hI (k1.out.kp k6)
 replace k2 := hI (k2.out.kp k6)
 replace D0 := hI (D0.out.kp k6)
 replace D1 := hI (D1.out.kp k6)
 replace D2 := hI (D2.out.kp k6)
 replace HB := hI (Nat.le_trans HB.out k6.bel.size)
 replace OB : Hid (OwnB x6 B v6 (((l ++ [119]) ++ [94, 40]) ++ te)) := by
  have z := h6
  show OwnB _ _ _ _
  (try simp only [List.append_assoc, List.cons_append, List.nil_append] at z ⊢)
  exact z
 clear k6 h6
 have hal := hI (show Below x6.heap.size x6 (x6.alloc (.cells #[.int .u8 41] 5)) from Below.alloc (Below.refl _ _) (Nat.le_refl _) _)
 have hnw := hI (show (x6.alloc (.cells #[.int .u8 41] 5)).heap[x6.heap.size]? = some (.cells #[.int .u8 ((41 : UInt8).toNat : Int)] 5 (0, 0)) from heap_alloc_new x6 _)
 have hob := hI (OB.out.kept hal.out)
 go_wp2_with (first | (at_builtin; refine appByte rfl (.tmp 32) (.tmp 33) rfl rfl hob.out 41 x6.heap.size 1 rfl hnw.out (by have := HL.out; (try simp only [List.length_append, List.length_cons, List.length_nil]); omega) (Nat.le_trans HB.out hal.out.size) ?_) | (with_reducible refine lG (.tmp 3) B0.out ?_) | (with_reducible refine lG (.tmp 5) D0.out ?_) | (with_reducible refine lG (.tmp 6) D1.out ?_) | (with_reducible refine lG (.tmp 7) D2.out ?_))
 intro v7 x7 h7 j7
 have k7 := (Kp.of hal.out HB.out).trans j7
 replace B0 := hI (B0.out.kp k7)
 replace KP := hI (KP.out.trans k7)
 replace KA := hI (KA.out.kp k7)
 replace k0 := hI (k0.out.kp k7)
 replace k1 := hI (k1.out.kp k7)
 replace k2 := hI (k2.out.kp k7)
 replace D0 := hI (D0.out.kp k7)
 replace D1 := hI (D1.out.kp k7)
 replace D2 := hI (D2.out.kp k7)
 replace HB := hI (Nat.le_trans HB.out k7.bel.size)
 replace OB : Hid (OwnB x7 B v7 ((((l ++ [119]) ++ [94, 40]) ++ te) ++ [41])) := by
  have z := h7
  show OwnB _ _ _ _
  (try simp only [List.append_assoc, List.cons_append, List.nil_append] at z ⊢)
  exact z
 clear hal hnw hob k7 j7 h7
 go_wp2_with (first | (with_reducible refine lG (.tmp 3) B0.out ?_) | (with_reducible refine lG (.tmp 5) D0.out ?_) | (with_reducible refine lG (.tmp 6) D1.out ?_) | (with_reducible refine lG (.tmp 7) D2.out ?_))
 with_reducible refine (isOneH oc q1 _ true OC.out).mono ?_
 rintro e w8 ⟨rfl, hb⟩
 replace B0 := kB B0 hb
 replace KP := hI (KP.out.trans (Kp.of hb HB.out))
 replace KA := hI (KA.out.kp (Kp.of hb HB.out))
 replace OB := hI (OB.out.kept hb)
 replace k0 := hI (k0.out.kp (Kp.of hb HB.out))
 replace k1 := hI (k1.out.kp (Kp.of hb HB.out))
 replace k2 := hI (k2.out.kp (Kp.of hb HB.out))
 replace D0 := kB D0 hb
 replace D1 := kB D1 hb
 replace D2 := kB D2 hb
 replace HB := hI (Nat.le_trans HB.out hb.size)
 clear hb
 go_wp2_with (first | (with_reducible refine lG (.tmp 3) B0.out ?_) | (with_reducible refine lG (.tmp 5) D0.out ?_) | (with_reducible refine lG (.tmp 6) D1.out ?_) | (with_reducible refine lG (.tmp 7) D2.out ?_))
 with_reducible refine (isZeroH orr q2 _ false ZR.out).mono ?_
 rintro e w9 ⟨rfl, hb⟩
 replace B0 := kB B0 hb
 replace KP := hI (KP.out.trans (Kp.of hb HB.out))
 replace KA := hI (KA.out.kp (Kp.of hb HB.out))
 replace OB := hI (OB.out.kept hb)
 replace k0 := hI (k0.out.kp (Kp.of hb HB.out))
 replace k1 := hI (k1.out.kp (Kp.of hb HB.out))
 replace k2 := hI (k2.out.kp (Kp.of hb HB.out))
 replace D0 := kB D0 hb
 replace D1 := kB D1 hb
 replace D2 := kB D2 hb
 replace HB := hI (Nat.le_trans HB.out hb.size)
 clear hb
 go_wp2_with (first | (at_builtin; refine appStr rfl (.tmp 57) (.const (.string ⟨#[32, 43, 32]⟩)) rfl rfl OB.out [32, 43, 32] rfl (by have := HL.out; (try simp only [List.length_append, List.length_cons, List.length_nil]); omega) HB.out ?_) | (with_reducible refine lG (.tmp 3) B0.out ?_) | (with_reducible refine lG (.tmp 5) D0.out ?_) | (with_reducible refine lG (.tmp 6) D1.out ?_) | (with_reducible refine lG (.tmp 7) D2.out ?_))
 intro v10 x10 h10 k10
 replace B0 := hI (B0.out.kp k10)
 replace KP := hI (KP.out.trans k10)
 replace KA := hI (KA.out.kp k10)
 replace k0 := hI (k0.out.kp k10)
 replace k1 := hI (k1.out.kp k10)
 replace k2 := hI (k2.out.kp k10)
 replace D0 := hI (D0.out.kp k10)
 replace D1 := hI (D1.out.kp k10)
 replace D2 := hI (D2.out.kp k10)
 replace HB := hI (Nat.le_trans HB.out k10.bel.size)
 replace OB : Hid (OwnB x10 B v10 (((((l ++ [119]) ++ [94, 40]) ++ te) ++ [41]) ++ [32, 43, 32])) := by
  have z := h10
  show OwnB _ _ _ _
  (try simp only [List.append_assoc, List.cons_append, List.nil_append] at z ⊢)
  exact z
 clear k10 h10
 go_wp2_with (first | (with_reducible refine lG (.tmp 3) B0.out ?_) | (with_reducible refine lG (.tmp 5) D0.out ?_) | (with_reducible refine lG (.tmp 6) D1.out ?_) | (with_reducible refine lG (.tmp 7) D2.out ?_))
 with_reducible refine (IR.out _ v10 (((((l ++ [119]) ++ [94, 40]) ++ te) ++ [41]) ++ [32, 43, 32]) q2 HB.out OB.out (by have := HL.out; (try simp only [List.length_append, List.length_cons, List.length_nil]); omega) k2.out).mono ?_
 rintro e x11 ⟨v11, rfl, h11, k11⟩
 replace B0 := hI (B0.out.kp k11)
 replace KP := hI (KP.out.trans k11)
 replace KA := hI (KA.out.kp k11)
 replace k0 := hI (k0.out.kp k11)
 replace k1 := hI (k1.out.kp k11)
 replace k2 := hI (k2.out.kp k11)
 replace D0 := hI (D0.out.kp k11)
 replace D1 := hI (D1.out.kp k11)
 replace D2 := hI (D2.out.kp k11)
 replace HB := hI (Nat.le_trans HB.out k11.bel.size)
 replace OB : Hid (OwnB x11 B v11 ((((((l ++ [119]) ++ [94, 40]) ++ te) ++ [41]) ++ [32, 43, 32]) ++ tr)) := by
  have z := h11
  show OwnB _ _ _ _
  (try simp only [List.append_assoc, List.cons_append, List.nil_append] at z ⊢)
  exact z
 clear k11 h11
 go_wp2_with (first | (with_reducible refine lG (.tmp 3) B0.out ?_) | (with_reducible refine lG (.tmp 5) D0.out ?_) | (with_reducible refine lG (.tmp 6) D1.out ?_) | (with_reducible refine lG (.tmp 7) D2.out ?_))
 go_ret
 exact ⟨v11, rfl, OB.out, KP.out⟩
theorem app_infc0 (oe oc orr : Ob) (te tc tr : List UInt8) (ne nc nr : Nat) (p bu : Value) (w : World) (B : Nat) (l : List UInt8) (ho : OwnB w B bu l) (hB : B ≤ w.heap.size) (hl : l.length + ne + nc + nr + 100 ≤ 1000000000000 ∧ te.length ≤ ne ∧ tc.length ≤ nc ∧ tr.length ≤ nr) (hp : Pb B w (.cons (.cons oe oc) orr) p)
 (iE : ∀ X bu l q, B ≤ X.heap.size → OwnB X B bu l → l.length + ne ≤ 1000000000000 → Pb B X oe q → Calls Tryz.prog 30 #[bu, vO oe q] X (RetA X B (l ++ te))) (iC : ∀ X bu l q, B ≤ X.heap.size → OwnB X B bu l → l.length + nc ≤ 1000000000000 → Pb B X oc q → Calls Tryz.prog 30 #[bu, vO oc q] X (RetA X B (l ++ tc))) (iR : ∀ X bu l q, B ≤ X.heap.size → OwnB X B bu l → l.length + nr ≤ 1000000000000 → Pb B X orr q → Calls Tryz.prog 30 #[bu, vO orr q] X (RetA X B (l ++ tr))) (fE : oe.isNum = false) (oE : oe.numIs 1 = false) (oC : oc.numIs 1 = false) (zR : orr.numIs 0 = true) :
 Calls Tryz.prog 30 #[bu, vO (.cons (.cons oe oc) orr) p] w (RetA w B ((((((l ++ [119]) ++ [94, 40]) ++ te) ++ [41]) ++ [42]) ++ tc)) := by
 have OB := hI ho
 clear ho
 have HL := hI hl
 clear hl
 have HB := hI hB
 clear hB
 have KA := hI hp
 clear hp
 have IE := hI iE
 clear iE
 have IR := hI iR
 clear iR
 have IC := hI iC
 clear iC
 have FE := hI fE
 clear fE
 have OE := hI oE
 clear oE
 have OC := hI oC
 clear oC
 have ZR := hI zR
 clear zR
 obtain ⟨a0, a1, a2, a3, a4, a5, ea⟩ := cells7 (.cons (.cons oe oc) orr) p
 have T := Bx1.new w #[a0, a1, a2, a3, a4, a5, p]
 rw [vO_cells ea]
 go_enter Tryz.func30, Tryz.ntmps30
 go_wp2_with fail
 generalize w.alloc (.cells #[a0, a1, a2, a3, a4, a5, p] 35) = W at T ⊢
 have B0 : Hid (Bx W (w.heap.size) (cellsO (.cons (.cons oe oc) orr) p).toArray) := by rw [ea]; exact T.b0
 have HW := hI T.bel
 try rw [← vO_cells ea]
 clear T ea 
 have KP := hI (Kp.of HW.out HB.out)
 replace KA := hI (KA.out.kp KP.out)
 replace OB := hI (OB.out.kept HW.out)
 replace HB := hI (Nat.le_trans HB.out HW.out.size)
 clear HW
 with_reducible refine (isFinH (.cons (.cons oe oc) orr) p _ false rfl).mono ?_
 rintro e w1 ⟨rfl, hb⟩
 replace B0 := kB B0 hb
 replace KP := hI (KP.out.trans (Kp.of hb HB.out))
 replace KA := hI (KA.out.kp (Kp.of hb HB.out))
 replace OB := hI (OB.out.kept hb)
 replace HB := hI (Nat.le_trans HB.out hb.size)
 clear hb
 go_wp2_with (with_reducible refine lG (.tmp 3) B0.out ?_)
 with_reducible refine (partsS oe oc orr p _ (fun b => b < B) (fun b hb => Nat.lt_of_lt_of_le hb HB.out) (pb_pair KA.out)).mono ?_
 rintro e w2 ⟨q0, q1, q2, rfl, k0, k1, k2, hb⟩
 replace B0 := kB B0 hb
 replace KP := hI (KP.out.trans (Kp.of hb HB.out))
 replace KA := hI (KA.out.kp (Kp.of hb HB.out))
 replace OB := hI (OB.out.kept hb)
 replace HB := hI (Nat.le_trans HB.out hb.size)
 clear hb
 replace k0 := hI k0
 replace k1 := hI k1
 replace k2 := hI k2
 replace k0 : Hid (Pb B w2 oe q0) := k0
 replace k1 : Hid (Pb B w2 oc q1) := k1
 replace k2 : Hid (Pb B w2 orr q2) := k2
 have T := hI (Bx3.new w2 #[.int .i64 0, .string ⟨#[]⟩, .string ⟨#[]⟩, .string ⟨#[]⟩, .string ⟨#[]⟩, .string ⟨#[]⟩, .slice none 0 0] #[.int .i64 0, .string ⟨#[]⟩, .string ⟨#[]⟩, .string ⟨#[]⟩, .string ⟨#[]⟩, .string ⟨#[]⟩, .slice none 0 0] #[.int .i64 0, .string ⟨#[]⟩, .string ⟨#[]⟩, .string ⟨#[]⟩, .string ⟨#[]⟩, .string ⟨#[]⟩, .slice none 0 0])
 go_wp2_with (first | (with_reducible refine sB (.tmp 5) (.tmp 17) (k0.out.hd HB.out) T.out.b0 ?_) | (with_reducible refine sB (.tmp 6) (.tmp 18) (k1.out.hd HB.out) T.out.n1 ?_) | (with_reducible refine sB (.tmp 7) (.tmp 19) (k2.out.hd HB.out) T.out.n2 ?_; have P := Pt3.new (w := w2) (o0 := oe) (o1 := oc) (o2 := orr) (p0 := q0) (p1 := q1) (p2 := q2) (z0 := #[.int .i64 0, .string ⟨#[]⟩, .string ⟨#[]⟩, .string ⟨#[]⟩, .string ⟨#[]⟩, .string ⟨#[]⟩, .slice none 0 0]) (z1 := #[.int .i64 0, .string ⟨#[]⟩, .string ⟨#[]⟩, .string ⟨#[]⟩, .string ⟨#[]⟩, .string ⟨#[]⟩, .slice none 0 0]) (z2 := #[.int .i64 0, .string ⟨#[]⟩, .string ⟨#[]⟩, .string ⟨#[]⟩, .string ⟨#[]⟩, .string ⟨#[]⟩, .slice none 0 0]); generalize World.setRow (World.setRow (World.setRow (((w2.alloc (.cells #[.int .i64 0, .string ⟨#[]⟩, .string ⟨#[]⟩, .string ⟨#[]⟩, .string ⟨#[]⟩, .string ⟨#[]⟩, .slice none 0 0] 35)).alloc (.cells #[.int .i64 0, .string ⟨#[]⟩, .string ⟨#[]⟩, .string ⟨#[]⟩, .string ⟨#[]⟩, .string ⟨#[]⟩, .slice none 0 0] 35)).alloc (.cells #[.int .i64 0, .string ⟨#[]⟩, .string ⟨#[]⟩, .string ⟨#[]⟩, .string ⟨#[]⟩, .string ⟨#[]⟩, .slice none 0 0] 35)) (w2.heap.size) (cellsO (oe) q0).toArray) (w2.heap.size + 1) (cellsO (oc) q1).toArray) (w2.heap.size + 1 + 1) (cellsO (orr) q2).toArray = X2 at P ⊢; have hb := P.bel; replace B0 := kB B0 hb; replace KP := hI (KP.out.trans (Kp.of hb HB.out)); replace KA := hI (KA.out.kp (Kp.of hb HB.out)); replace OB := hI (OB.out.kept hb); replace k0 := hI (k0.out.kp (Kp.of hb HB.out)); replace k1 := hI (k1.out.kp (Kp.of hb HB.out)); replace k2 := hI (k2.out.kp (Kp.of hb HB.out)); replace HB := hI (Nat.le_trans HB.out hb.size); have D0 := hI P.b0; have D1 := hI P.b1; have D2 := hI P.b2; clear P hb T; have hal := hI (show Below X2.heap.size X2 (X2.alloc (.cells #[.int .u8 119] 5)) from Below.alloc (Below.refl _ _) (Nat.le_refl _) _); have hnw := hI (show (X2.alloc (.cells #[.int .u8 119] 5)).heap[X2.heap.size]? = some (.cells #[.int .u8 ((119 : UInt8).toNat : Int)] 5 (0, 0)) from heap_alloc_new X2 _); have hob := hI (OB.out.kept hal.out)) | (at_builtin; refine appByte rfl (.tmp 20) (.tmp 21) rfl rfl hob.out 119 X2.heap.size 1 rfl hnw.out (by have := HL.out; (try simp only [List.length_append, List.length_cons, List.length_nil]); omega) (Nat.le_trans HB.out hal.out.size) ?_) | (with_reducible refine lG (.tmp 3) B0.out ?_) | (with_reducible refine lG (.tmp 5) D0.out ?_) | (with_reducible refine lG (.tmp 6) D1.out ?_) | (with_reducible refine lG (.tmp 7) D2.out ?_))
 intro v3 x3 h3 j3
 have k3 := (Kp.of hal.out HB.out).trans j3
 replace B0 := hI (B0.out.kp k3)
 replace KP := hI (KP.out.trans k3)
 replace KA := hI (KA.out.kp k3)
 replace k0 := hI (k0.out.kp k3)
 replace k1 := hI (k1.out.kp k3)
 replace k2 := hI (k2.out.kp k3)
 replace D0 := hI (D0.out.kp k3)
 replace D1 := hI (D1.out.kp k3)
 replace D2 := hI (D2.out.kp k3)
 replace HB := hI (Nat.le_trans HB.out k3.bel.size)
 replace OB := hI h3
 clear hal hnw hob k3 j3 h3
 go_wp2_with (first | (with_reducible refine lG (.tmp 3) B0.out ?_) | (with_reducible refine lG (.tmp 5) D0.out ?_) | (with_reducible refine lG (.tmp 6) D1.out ?_) | (with_reducible refine lG (.tmp 7) D2.out ?_))
 with_reducible refine (isFinH oe q0 _ false FE.out).mono ?_
 rintro e w4 ⟨rfl, hb⟩
 replace B0 := kB B0 hb
 replace KP := hI (KP.out.trans (Kp.of hb HB.out))
 replace KA := hI (KA.out.kp (Kp.of hb HB.out))
 replace OB := hI (OB.out.kept hb)
 replace k0 := hI (k0.out.kp (Kp.of hb HB.out))
 replace k1 := hI (k1.out.kp (Kp.of hb HB.out))
 replace k2 := hI (k2.out.kp (Kp.of hb HB.out))
 replace D0 := kB D0 hb
 replace D1 := kB D1 hb
 replace D2 := kB D2 hb
 replace HB := hI (Nat.le_trans HB.out hb.size)
 clear hb
 go_wp2_with (first | (at_builtin; refine appStr rfl (.tmp 27) (.const (.string ⟨#[94, 40]⟩)) rfl rfl OB.out [94, 40] rfl (by have := HL.out; (try simp only [List.length_append, List.length_cons, List.length_nil]); omega) HB.out ?_) | (with_reducible refine lG (.tmp 3) B0.out ?_) | (with_reducible refine lG (.tmp 5) D0.out ?_) | (with_reducible refine lG (.tmp 6) D1.out ?_) | (with_reducible refine lG (.tmp 7) D2.out ?_))
 intro v5 x5 h5 k5
 replace B0 := hI (B0.out.kp k5)
 replace KP := hI (KP.out.trans k5)
 replace KA := hI (KA.out.kp k5)
 replace k0 := hI (k0.out.kp k5)
 replace k1 := hI (k1.out.kp k5)
 replace k2 := hI (k2.out.kp k5)
 replace D0 := hI (D0.out.kp k5)
 replace D1 := hI (D1.out.kp k5)
 replace D2 := hI (D2.out.kp k5)
 replace HB := hI (Nat.le_trans HB.out k5.bel.size)
 replace OB : Hid (OwnB x5 B v5 ((l ++ [119]) ++ [94, 40])) := by
  have z := h5
  show OwnB _ _ _ _
  (try simp only [List.append_assoc, List.cons_append, List.nil_append] at z ⊢)
  exact z
 clear k5 h5
 go_wp2_with (first | (with_reducible refine lG (.tmp 3) B0.out ?_) | (with_reducible refine lG (.tmp 5) D0.out ?_) | (with_reducible refine lG (.tmp 6) D1.out ?_) | (with_reducible refine lG (.tmp 7) D2.out ?_))
 with_reducible refine (IE.out _ v5 ((l ++ [119]) ++ [94, 40]) q0 HB.out OB.out (by have := HL.out; (try simp only [List.length_append, List.length_cons, List.length_nil]); omega) k0.out).mono ?_
 rintro e x6 ⟨v6, rfl, h6, k6⟩
 replace B0 := hI (B0.out.kp k6)
 replace KP := hI (KP.out.trans k6)
 replace KA := hI (KA.out.kp k6)
 replace k0 := hI (k0.out.kp k6)
 replace k1 := hI (k1.out.kp k6)
 replace k2 := hI (k2.out.kp k6)
 replace D0 := hI (D0.out.kp k6)
 replace D1 := hI (D1.out.kp k6)
 replace D2 := hI (D2.out.kp k6)
 replace HB := hI (Nat.le_trans HB.out k6.bel.size)
 replace OB : Hid (OwnB x6 B v6 (((l ++ [119]) ++ [94, 40]) ++ te)) := by
  have z := h6
  show OwnB _ _ _ _
  (try simp only [List.append_assoc, List.cons_append, List.nil_append] at z ⊢)
  exact z
 clear k6 h6
 have hal := hI (show Below x6.heap.size x6 (x6.alloc (.cells #[.int .u8 41] 5)) from Below.alloc (Below.refl _ _) (Nat.le_refl _) _)
 have hnw := hI (show (x6.alloc (.cells #[.int .u8 41] 5)).heap[x6.heap.size]? = some (.cells #[.int .u8 ((41 : UInt8).toNat : Int)] 5 (0, 0)) from heap_alloc_new x6 _)
 have hob := hI (OB.out.kept hal.out)
 go_wp2_with (first | (at_builtin; refine appByte rfl (.tmp 32) (.tmp 33) rfl rfl hob.out 41 x6.heap.size 1 rfl hnw.out (by have := HL.out; (try simp only [List.length_append, List.length_cons, List.length_nil]); omega) (Nat.le_trans HB.out hal.out.size) ?_) | (with_reducible refine lG (.tmp 3) B0.out ?_) | (with_reducible refine lG (.tmp 5) D0.out ?_) | (with_reducible refine lG (.tmp 6) D1.out ?_) | (with_reducible refine lG (.tmp 7) D2.out ?_))
 intro v7 x7 h7 j7
 have k7 := (Kp.of hal.out HB.out).trans j7
 replace B0 := hI (B0.out.kp k7)
 replace KP := hI (KP.out.trans k7)
 replace KA := hI (KA.out.kp k7)
 replace k0 := hI (k0.out.kp k7)
 replace k1 := hI (k1.out.kp k7)
 replace k2 := hI (k2.out.kp k7)
 replace D0 := hI (D0.out.kp k7)
 replace D1 := hI (D1.out.kp k7)
 replace D2 := hI (D2.out.kp k7)
 replace HB := hI (Nat.le_trans HB.out k7.bel.size)
 replace OB : Hid (OwnB x7 B v7 ((((l ++ [119]) ++ [94, 40]) ++ te) ++ [41])) := by
  have z := h7
  show OwnB _ _ _ _
  (try simp only [List.append_assoc, List.cons_append, List.nil_append] at z ⊢)
  exact z
 clear hal hnw hob k7 j7 h7
 go_wp2_with (first | (with_reducible refine lG (.tmp 3) B0.out ?_) | (with_reducible refine lG (.tmp 5) D0.out ?_) | (with_reducible refine lG (.tmp 6) D1.out ?_) | (with_reducible refine lG (.tmp 7) D2.out ?_))
 with_reducible refine (isOneH oc q1 _ false OC.out).mono ?_
 rintro e w8 ⟨rfl, hb⟩
 replace B0 := kB B0 hb
 replace KP := hI (KP.out.trans (Kp.of hb HB.out))
 replace KA := hI (KA.out.kp (Kp.of hb HB.out))
 replace OB := hI (OB.out.kept hb)
 replace k0 := hI (k0.out.kp (Kp.of hb HB.out))
 replace k1 := hI (k1.out.kp (Kp.of hb HB.out))
 replace k2 := hI (k2.out.kp (Kp.of hb HB.out))
 replace D0 := kB D0 hb
 replace D1 := kB D1 hb
 replace D2 := kB D2 hb
 replace HB := hI (Nat.le_trans HB.out hb.size)
 clear hb
 have hal := hI (show Below w8.heap.size w8 (w8.alloc (.cells #[.int .u8 42] 5)) from Below.alloc (Below.refl _ _) (Nat.le_refl _) _)
 have hnw := hI (show (w8.alloc (.cells #[.int .u8 42] 5)).heap[w8.heap.size]? = some (.cells #[.int .u8 ((42 : UInt8).toNat : Int)] 5 (0, 0)) from heap_alloc_new w8 _)
 have hob := hI (OB.out.kept hal.out)
 go_wp2_with (first | (at_builtin; refine appByte rfl (.tmp 48) (.tmp 49) rfl rfl hob.out 42 w8.heap.size 1 rfl hnw.out (by have := HL.out; (try simp only [List.length_append, List.length_cons, List.length_nil]); omega) (Nat.le_trans HB.out hal.out.size) ?_) | (with_reducible refine lG (.tmp 3) B0.out ?_) | (with_reducible refine lG (.tmp 5) D0.out ?_) | (with_reducible refine lG (.tmp 6) D1.out ?_) | (with_reducible refine lG (.tmp 7) D2.out ?_))
 intro v9 x9 h9 j9
 have k9 := (Kp.of hal.out HB.out).trans j9
 replace B0 := hI (B0.out.kp k9)
 replace KP := hI (KP.out.trans k9)
 replace KA := hI (KA.out.kp k9)
 replace k0 := hI (k0.out.kp k9)
 replace k1 := hI (k1.out.kp k9)
 replace k2 := hI (k2.out.kp k9)
 replace D0 := hI (D0.out.kp k9)
 replace D1 := hI (D1.out.kp k9)
 replace D2 := hI (D2.out.kp k9)
 replace HB := hI (Nat.le_trans HB.out k9.bel.size)
 replace OB : Hid (OwnB x9 B v9 (((((l ++ [119]) ++ [94, 40]) ++ te) ++ [41]) ++ [42])) := by
  have z := h9
  show OwnB _ _ _ _
  (try simp only [List.append_assoc, List.cons_append, List.nil_append] at z ⊢)
  exact z
 clear hal hnw hob k9 j9 h9
 go_wp2_with (first | (with_reducible refine lG (.tmp 3) B0.out ?_) | (with_reducible refine lG (.tmp 5) D0.out ?_) | (with_reducible refine lG (.tmp 6) D1.out ?_) | (with_reducible refine lG (.tmp 7) D2.out ?_))
 with_reducible refine (IC.out _ v9 (((((l ++ [119]) ++ [94, 40]) ++ te) ++ [41]) ++ [42]) q1 HB.out OB.out (by have := HL.out; (try simp only [List.length_append, List.length_cons, List.length_nil]); omega) k1.out).mono ?_
 rintro e x10 ⟨v10, rfl, h10, k10⟩
 replace B0 := hI (B0.out.kp k10)
 replace KP := hI (KP.out.trans k10)
 replace KA := hI (KA.out.kp k10)
 replace k0 := hI (k0.out.kp k10)
 replace k1 := hI (k1.out.kp k10)
 replace k2 := hI (k2.out.kp k10)
 replace D0 := hI (D0.out.kp k10)
 replace D1 := hI (D1.out.kp k10)
 replace D2 := hI (D2.out.kp k10)
 replace HB := hI (Nat.le_trans HB.out k10.bel.size)
 replace OB : Hid (OwnB x10 B v10 ((((((l ++ [119]) ++ [94, 40]) ++ te) ++ [41]) ++ [42]) ++ tc)) := by
  have z := h10
  show OwnB _ _ _ _
  (try simp only [List.append_assoc, List.cons_append, List.nil_append] at z ⊢)
  exact z
 clear k10 h10
 go_wp2_with (first | (with_reducible refine lG (.tmp 3) B0.out ?_) | (with_reducible refine lG (.tmp 5) D0.out ?_) | (with_reducible refine lG (.tmp 6) D1.out ?_) | (with_reducible refine lG (.tmp 7) D2.out ?_))
 with_reducible refine (isZeroH orr q2 _ true ZR.out).mono ?_
 rintro e w11 ⟨rfl, hb⟩
 replace B0 := kB B0 hb
 replace KP := hI (KP.out.trans (Kp.of hb HB.out))
 replace KA := hI (KA.out.kp (Kp.of hb HB.out))
 replace OB := hI (OB.out.kept hb)
 replace k0 := hI (k0.out.kp (Kp.of hb HB.out))
 replace k1 := hI (k1.out.kp (Kp.of hb HB.out))
 replace k2 := hI (k2.out.kp (Kp.of hb HB.out))
 replace D0 := kB D0 hb
 replace D1 := kB D1 hb
 replace D2 := kB D2 hb
 replace HB := hI (Nat.le_trans HB.out hb.size)
 clear hb
 go_wp2_with (first | (with_reducible refine lG (.tmp 3) B0.out ?_) | (with_reducible refine lG (.tmp 5) D0.out ?_) | (with_reducible refine lG (.tmp 6) D1.out ?_) | (with_reducible refine lG (.tmp 7) D2.out ?_))
 go_ret
 exact ⟨v10, rfl, OB.out, KP.out⟩
theorem app_infcr (oe oc orr : Ob) (te tc tr : List UInt8) (ne nc nr : Nat) (p bu : Value) (w : World) (B : Nat) (l : List UInt8) (ho : OwnB w B bu l) (hB : B ≤ w.heap.size) (hl : l.length + ne + nc + nr + 100 ≤ 1000000000000 ∧ te.length ≤ ne ∧ tc.length ≤ nc ∧ tr.length ≤ nr) (hp : Pb B w (.cons (.cons oe oc) orr) p)
 (iE : ∀ X bu l q, B ≤ X.heap.size → OwnB X B bu l → l.length + ne ≤ 1000000000000 → Pb B X oe q → Calls Tryz.prog 30 #[bu, vO oe q] X (RetA X B (l ++ te))) (iC : ∀ X bu l q, B ≤ X.heap.size → OwnB X B bu l → l.length + nc ≤ 1000000000000 → Pb B X oc q → Calls Tryz.prog 30 #[bu, vO oc q] X (RetA X B (l ++ tc))) (iR : ∀ X bu l q, B ≤ X.heap.size → OwnB X B bu l → l.length + nr ≤ 1000000000000 → Pb B X orr q → Calls Tryz.prog 30 #[bu, vO orr q] X (RetA X B (l ++ tr))) (fE : oe.isNum = false) (oE : oe.numIs 1 = false) (oC : oc.numIs 1 = false) (zR : orr.numIs 0 = false) :
 Calls Tryz.prog 30 #[bu, vO (.cons (.cons oe oc) orr) p] w (RetA w B ((((((((l ++ [119]) ++ [94, 40]) ++ te) ++ [41]) ++ [42]) ++ tc) ++ [32, 43, 32]) ++ tr)) := by
 have OB := hI ho
 clear ho
 have HL := hI hl
 clear hl
 have HB := hI hB
 clear hB
 have KA := hI hp
 clear hp
 have IE := hI iE
 clear iE
 have IR := hI iR
 clear iR
 have IC := hI iC
 clear iC
 have FE := hI fE
 clear fE
 have OE := hI oE
 clear oE
 have OC := hI oC
 clear oC
 have ZR := hI zR
 clear zR
 obtain ⟨a0, a1, a2, a3, a4, a5, ea⟩ := cells7 (.cons (.cons oe oc) orr) p
 have T := Bx1.new w #[a0, a1, a2, a3, a4, a5, p]
 rw [vO_cells ea]
 go_enter Tryz.func30, Tryz.ntmps30
 go_wp2_with fail
 generalize w.alloc (.cells #[a0, a1, a2, a3, a4, a5, p] 35) = W at T ⊢
 have B0 : Hid (Bx W (w.heap.size) (cellsO (.cons (.cons oe oc) orr) p).toArray) := by rw [ea]; exact T.b0
 have HW := hI T.bel
 try rw [← vO_cells ea]
 clear T ea 
 have KP := hI (Kp.of HW.out HB.out)
 replace KA := hI (KA.out.kp KP.out)
 replace OB := hI (OB.out.kept HW.out)
 replace HB := hI (Nat.le_trans HB.out HW.out.size)
 clear HW
 with_reducible refine (isFinH (.cons (.cons oe oc) orr) p _ false rfl).mono ?_
 rintro e w1 ⟨rfl, hb⟩
 replace B0 := kB B0 hb
 replace KP := hI (KP.out.trans (Kp.of hb HB.out))
 replace KA := hI (KA.out.kp (Kp.of hb HB.out))
 replace OB := hI (OB.out.kept hb)
 replace HB := hI (Nat.le_trans HB.out hb.size)
 clear hb
 go_wp2_with (with_reducible refine lG (.tmp 3) B0.out ?_)
 with_reducible refine (partsS oe oc orr p _ (fun b => b < B) (fun b hb => Nat.lt_of_lt_of_le hb HB.out) (pb_pair KA.out)).mono ?_
 rintro e w2 ⟨q0, q1, q2, rfl, k0, k1, k2, hb⟩
 replace B0 := kB B0 hb
 replace KP := hI (KP.out.trans (Kp.of hb HB.out))
 replace KA := hI (KA.out.kp (Kp.of hb HB.out))
 replace OB := hI (OB.out.kept hb)
 replace HB := hI (Nat.le_trans HB.out hb.size)
 clear hb
 replace k0 := hI k0
 replace k1 := hI k1
 replace k2 := hI k2
 replace k0 : Hid (Pb B w2 oe q0) := k0
 replace k1 : Hid (Pb B w2 oc q1) := k1
 replace k2 : Hid (Pb B w2 orr q2) := k2
 have T := hI (Bx3.new w2 #[.int .i64 0, .string ⟨#[]⟩, .string ⟨#[]⟩, .string ⟨#[]⟩, .string ⟨#[]⟩, .string ⟨#[]⟩, .slice none 0 0] #[.int .i64 0, .string ⟨#[]⟩, .string ⟨#[]⟩, .string ⟨#[]⟩, .string ⟨#[]⟩, .string ⟨#[]⟩, .slice none 0 0] #[.int .i64 0, .string ⟨#[]⟩, .string ⟨#[]⟩, .string ⟨#[]⟩, .string ⟨#[]⟩, .string ⟨#[]⟩, .slice none 0 0])
 go_wp2_with (first | (with_reducible refine sB (.tmp 5) (.tmp 17) (k0.out.hd HB.out) T.out.b0 ?_) | (with_reducible refine sB (.tmp 6) (.tmp 18) (k1.out.hd HB.out) T.out.n1 ?_) | (with_reducible refine sB (.tmp 7) (.tmp 19) (k2.out.hd HB.out) T.out.n2 ?_; have P := Pt3.new (w := w2) (o0 := oe) (o1 := oc) (o2 := orr) (p0 := q0) (p1 := q1) (p2 := q2) (z0 := #[.int .i64 0, .string ⟨#[]⟩, .string ⟨#[]⟩, .string ⟨#[]⟩, .string ⟨#[]⟩, .string ⟨#[]⟩, .slice none 0 0]) (z1 := #[.int .i64 0, .string ⟨#[]⟩, .string ⟨#[]⟩, .string ⟨#[]⟩, .string ⟨#[]⟩, .string ⟨#[]⟩, .slice none 0 0]) (z2 := #[.int .i64 0, .string ⟨#[]⟩, .string ⟨#[]⟩, .string ⟨#[]⟩, .string ⟨#[]⟩, .string ⟨#[]⟩, .slice none 0 0]); generalize World.setRow (World.setRow (World.setRow (((w2.alloc (.cells #[.int .i64 0, .string ⟨#[]⟩, .string ⟨#[]⟩, .string ⟨#[]⟩, .string ⟨#[]⟩, .string ⟨#[]⟩, .slice none 0 0] 35)).alloc (.cells #[.int .i64 0, .string ⟨#[]⟩, .string ⟨#[]⟩, .string ⟨#[]⟩, .string ⟨#[]⟩, .string ⟨#[]⟩, .slice none 0 0] 35)).alloc (.cells #[.int .i64 0, .string ⟨#[]⟩, .string ⟨#[]⟩, .string ⟨#[]⟩, .string ⟨#[]⟩, .string ⟨#[]⟩, .slice none 0 0] 35)) (w2.heap.size) (cellsO (oe) q0).toArray) (w2.heap.size + 1) (cellsO (oc) q1).toArray) (w2.heap.size + 1 + 1) (cellsO (orr) q2).toArray = X2 at P ⊢; have hb := P.bel; replace B0 := kB B0 hb; replace KP := hI (KP.out.trans (Kp.of hb HB.out)); replace KA := hI (KA.out.kp (Kp.of hb HB.out)); replace OB := hI (OB.out.kept hb); replace k0 := hI (k0.out.kp (Kp.of hb HB.out)); replace k1 := hI (k1.out.kp (Kp.of hb HB.out)); replace k2 := hI (k2.out.kp (Kp.of hb HB.out)); replace HB := hI (Nat.le_trans HB.out hb.size); have D0 := hI P.b0; have D1 := hI P.b1; have D2 := hI P.b2; clear P hb T; have hal := hI (show Below X2.heap.size X2 (X2.alloc (.cells #[.int .u8 119] 5)) from Below.alloc (Below.refl _ _) (Nat.le_refl _) _); have hnw := hI (show (X2.alloc (.cells #[.int .u8 119] 5)).heap[X2.heap.size]? = some (.cells #[.int .u8 ((119 : UInt8).toNat : Int)] 5 (0, 0)) from heap_alloc_new X2 _); have hob := hI (OB.out.kept hal.out)) | (at_builtin; refine appByte rfl (.tmp 20) (.tmp 21) rfl rfl hob.out 119 X2.heap.size 1 rfl hnw.out (by have := HL.out; (try simp only [List.length_append, List.length_cons, List.length_nil]); omega) (Nat.le_trans HB.out hal.out.size) ?_) | (with_reducible refine lG (.tmp 3) B0.out ?_) | (with_reducible refine lG (.tmp 5) D0.out ?_) | (with_reducible refine lG (.tmp 6) D1.out ?_) | (with_reducible refine lG (.tmp 7) D2.out ?_))
 intro v3 x3 h3 j3
 have k3 := (Kp.of hal.out HB.out).trans j3
 replace B0 := hI (B0.out.kp k3)
 replace KP := hI (KP.out.trans k3)
 replace KA := hI (KA.out.kp k3)
 replace k0 := hI (k0.out.kp k3)
 replace k1 := hI (k1.out.kp k3)
 replace k2 := hI (k2.out.kp k3)
 replace D0 := hI (D0.out.kp k3)
 replace D1 := hI (D1.out.kp k3)
 replace D2 := hI (D2.out.kp k3)
 replace HB := hI (Nat.le_trans HB.out k3.bel.size)
 replace OB := hI h3
 clear hal hnw hob k3 j3 h3
 go_wp2_with (first | (with_reducible refine lG (.tmp 3) B0.out ?_) | (with_reducible refine lG (.tmp 5) D0.out ?_) | (with_reducible refine lG (.tmp 6) D1.out ?_) | (with_reducible refine lG (.tmp 7) D2.out ?_))
 with_reducible refine (isFinH oe q0 _ false FE.out).mono ?_
 rintro e w4 ⟨rfl, hb⟩
 replace B0 := kB B0 hb
 replace KP := hI (KP.out.trans (Kp.of hb HB.out))
 replace KA := hI (KA.out.kp (Kp.of hb HB.out))
 replace OB := hI (OB.out.kept hb)
 replace k0 := hI (k0.out.kp (Kp.of hb HB.out))
 replace k1 := hI (k1.out.kp (Kp.of hb HB.out))
 replace k2 := hI (k2.out.kp (Kp.of hb HB.out))
 replace D0 := kB D0 hb
 replace D1 := kB D1 hb
 replace D2 := kB D2 hb
 replace HB := hI (Nat.le_trans HB.out hb.size)
 clear hb
 go_wp2_with (first | (at_builtin; refine appStr rfl (.tmp 27) (.const (.string ⟨#[94, 40]⟩)) rfl rfl OB.out [94, 40] rfl (by have := HL.out; (try simp only [List.length_append, List.length_cons, List.length_nil]); omega) HB.out ?_) | (with_reducible refine lG (.tmp 3) B0.out ?_) | (with_reducible refine lG (.tmp 5) D0.out ?_) | (with_reducible refine lG (.tmp 6) D1.out ?_) | (with_reducible refine lG (.tmp 7) D2.out ?_))
 intro v5 x5 h5 k5
 replace B0 := hI (B0.out.kp k5)
 replace KP := hI (KP.out.trans k5)
 replace KA := hI (KA.out.kp k5)
 replace k0 := hI (k0.out.kp k5)
 replace k1 := hI (k1.out.kp k5)
 replace k2 := hI (k2.out.kp k5)
 replace D0 := hI (D0.out.kp k5)
 replace D1 := hI (D1.out.kp k5)
 replace D2 := hI (D2.out.kp k5)
 replace HB := hI (Nat.le_trans HB.out k5.bel.size)
 replace OB : Hid (OwnB x5 B v5 ((l ++ [119]) ++ [94, 40])) := by
  have z := h5
  show OwnB _ _ _ _
  (try simp only [List.append_assoc, List.cons_append, List.nil_append] at z ⊢)
  exact z
 clear k5 h5
 go_wp2_with (first | (with_reducible refine lG (.tmp 3) B0.out ?_) | (with_reducible refine lG (.tmp 5) D0.out ?_) | (with_reducible refine lG (.tmp 6) D1.out ?_) | (with_reducible refine lG (.tmp 7) D2.out ?_))
 with_reducible refine (IE.out _ v5 ((l ++ [119]) ++ [94, 40]) q0 HB.out OB.out (by have := HL.out; (try simp only [List.length_append, List.length_cons, List.length_nil]); omega) k0.out).mono ?_
 rintro e x6 ⟨v6, rfl, h6, k6⟩
 replace B0 := hI (B0.out.kp k6)
 replace KP := hI (KP.out.trans k6)
 replace KA := hI (KA.out.kp k6)
 replace k0 := hI (k0.out.kp k6)
 replace k1 := hI (k1.out.kp k6)
 replace k2 := hI (k2.out.kp k6)
 replace D0 := hI (D0.out.kp k6)
 replace D1 := hI (D1.out.kp k6)
 replace D2 := hI (D2.out.kp k6)
 replace HB := hI (Nat.le_trans HB.out k6.bel.size)
 replace OB : Hid (OwnB x6 B v6 (((l ++ [119]) ++ [94, 40]) ++ te)) := by
  have z := h6
  show OwnB _ _ _ _
  (try simp only [List.append_assoc, List.cons_append, List.nil_append] at z ⊢)
  exact z
 clear k6 h6
 have hal := hI (show Below x6.heap.size x6 (x6.alloc (.cells #[.int .u8 41] 5)) from Below.alloc (Below.refl _ _) (Nat.le_refl _) _)
 have hnw := hI (show (x6.alloc (.cells #[.int .u8 41] 5)).heap[x6.heap.size]? = some (.cells #[.int .u8 ((41 : UInt8).toNat : Int)] 5 (0, 0)) from heap_alloc_new x6 _)
 have hob := hI (OB.out.kept hal.out)
 go_wp2_with (first | (at_builtin; refine appByte rfl (.tmp 32) (.tmp 33) rfl rfl hob.out 41 x6.heap.size 1 rfl hnw.out (by have := HL.out; (try simp only [List.length_append, List.length_cons, List.length_nil]); omega) (Nat.le_trans HB.out hal.out.size) ?_) | (with_reducible refine lG (.tmp 3) B0.out ?_) | (with_reducible refine lG (.tmp 5) D0.out ?_) | (with_reducible refine lG (.tmp 6) D1.out ?_) | (with_reducible refine lG (.tmp 7) D2.out ?_))
 intro v7 x7 h7 j7
 have k7 := (Kp.of hal.out HB.out).trans j7
 replace B0 := hI (B0.out.kp k7)
 replace KP := hI (KP.out.trans k7)
 replace KA := hI (KA.out.kp k7)
 replace k0 := hI (k0.out.kp k7)
 replace k1 := hI (k1.out.kp k7)
 replace k2 := hI (k2.out.kp k7)
 replace D0 := hI (D0.out.kp k7)
 replace D1 := hI (D1.out.kp k7)
 replace D2 := hI (D2.out.kp k7)
 replace HB := hI (Nat.le_trans HB.out k7.bel.size)
 replace OB : Hid (OwnB x7 B v7 ((((l ++ [119]) ++ [94, 40]) ++ te) ++ [41])) := by
  have z := h7
  show OwnB _ _ _ _
  (try simp only [List.append_assoc, List.cons_append, List.nil_append] at z ⊢)
  exact z
 clear hal hnw hob k7 j7 h7
 go_wp2_with (first | (with_reducible refine lG (.tmp 3) B0.out ?_) | (with_reducible refine lG (.tmp 5) D0.out ?_) | (with_reducible refine lG (.tmp 6) D1.out ?_) | (with_reducible refine lG (.tmp 7) D2.out ?_))
 with_reducible refine (isOneH oc q1 _ false OC.out).mono ?_
 rintro e w8 ⟨rfl, hb⟩
 replace B0 := kB B0 hb
 replace KP := hI (KP.out.trans (Kp.of hb HB.out))
 replace KA := hI (KA.out.kp (Kp.of hb HB.out))
 replace OB := hI (OB.out.kept hb)
 replace k0 := hI (k0.out.kp (Kp.of hb HB.out))
 replace k1 := hI (k1.out.kp (Kp.of hb HB.out))
 replace k2 := hI (k2.out.kp (Kp.of hb HB.out))
 replace D0 := kB D0 hb
 replace D1 := kB D1 hb
 replace D2 := kB D2 hb
 replace HB := hI (Nat.le_trans HB.out hb.size)
 clear hb
 have hal := hI (show Below w8.heap.size w8 (w8.alloc (.cells #[.int .u8 42] 5)) from Below.alloc (Below.refl _ _) (Nat.le_refl _) _)
 have hnw := hI (show (w8.alloc (.cells #[.int .u8 42] 5)).heap[w8.heap.size]? = some (.cells #[.int .u8 ((42 : UInt8).toNat : Int)] 5 (0, 0)) from heap_alloc_new w8 _)
 have hob := hI (OB.out.kept hal.out)
 go_wp2_with (first | (at_builtin; refine appByte rfl (.tmp 48) (.tmp 49) rfl rfl hob.out 42 w8.heap.size 1 rfl hnw.out (by have := HL.out; (try simp only [List.length_append, List.length_cons, List.length_nil]); omega) (Nat.le_trans HB.out hal.out.size) ?_) | (with_reducible refine lG (.tmp 3) B0.out ?_) | (with_reducible refine lG (.tmp 5) D0.out ?_) | (with_reducible refine lG (.tmp 6) D1.out ?_) | (with_reducible refine lG (.tmp 7) D2.out ?_))
 intro v9 x9 h9 j9
 have k9 := (Kp.of hal.out HB.out).trans j9
 replace B0 := hI (B0.out.kp k9)
 replace KP := hI (KP.out.trans k9)
 replace KA := hI (KA.out.kp k9)
 replace k0 := hI (k0.out.kp k9)
 replace k1 := hI (k1.out.kp k9)
 replace k2 := hI (k2.out.kp k9)
 replace D0 := hI (D0.out.kp k9)
 replace D1 := hI (D1.out.kp k9)
 replace D2 := hI (D2.out.kp k9)
 replace HB := hI (Nat.le_trans HB.out k9.bel.size)
 replace OB : Hid (OwnB x9 B v9 (((((l ++ [119]) ++ [94, 40]) ++ te) ++ [41]) ++ [42])) := by
  have z := h9
  show OwnB _ _ _ _
  (try simp only [List.append_assoc, List.cons_append, List.nil_append] at z ⊢)
  exact z
 clear hal hnw hob k9 j9 h9
 go_wp2_with (first | (with_reducible refine lG (.tmp 3) B0.out ?_) | (with_reducible refine lG (.tmp 5) D0.out ?_) | (with_reducible refine lG (.tmp 6) D1.out ?_) | (with_reducible refine lG (.tmp 7) D2.out ?_))
 with_reducible refine (IC.out _ v9 (((((l ++ [119]) ++ [94, 40]) ++ te) ++ [41]) ++ [42]) q1 HB.out OB.out (by have := HL.out; (try simp only [List.length_append, List.length_cons, List.length_nil]); omega) k1.out).mono ?_
 rintro e x10 ⟨v10, rfl, h10, k10⟩
 replace B0 := hI (B0.out.kp k10)
 replace KP := hI (KP.out.trans k10)
 replace KA := hI (KA.out.kp k10)
 replace k0 := hI (k0.out.kp k10)
 replace k1 := hI (k1.out.kp k10)
 replace k2 := hI (k2.out.kp k10)
 replace D0 := hI (D0.out.kp k10)
 replace D1 := hI (D1.out.kp k10)
 replace D2 := hI (D2.out.kp k10)
 replace HB := hI (Nat.le_trans HB.out k10.bel.size)
 replace OB : Hid (OwnB x10 B v10 ((((((l ++ [119]) ++ [94, 40]) ++ te) ++ [41]) ++ [42]) ++ tc)) := by
  have z := h10
  show OwnB _ _ _ _
  (try simp only [List.append_assoc, List.cons_append, List.nil_append] at z ⊢)
  exact z
 clear k10 h10
 go_wp2_with (first | (with_reducible refine lG (.tmp 3) B0.out ?_) | (with_reducible refine lG (.tmp 5) D0.out ?_) | (with_reducible refine lG (.tmp 6) D1.out ?_) | (with_reducible refine lG (.tmp 7) D2.out ?_))
 with_reducible refine (isZeroH orr q2 _ false ZR.out).mono ?_
 rintro e w11 ⟨rfl, hb⟩
 replace B0 := kB B0 hb
 replace KP := hI (KP.out.trans (Kp.of hb HB.out))
 replace KA := hI (KA.out.kp (Kp.of hb HB.out))
 replace OB := hI (OB.out.kept hb)
 replace k0 := hI (k0.out.kp (Kp.of hb HB.out))
 replace k1 := hI (k1.out.kp (Kp.of hb HB.out))
 replace k2 := hI (k2.out.kp (Kp.of hb HB.out))
 replace D0 := kB D0 hb
 replace D1 := kB D1 hb
 replace D2 := kB D2 hb
 replace HB := hI (Nat.le_trans HB.out hb.size)
 clear hb
 go_wp2_with (first | (at_builtin; refine appStr rfl (.tmp 57) (.const (.string ⟨#[32, 43, 32]⟩)) rfl rfl OB.out [32, 43, 32] rfl (by have := HL.out; (try simp only [List.length_append, List.length_cons, List.length_nil]); omega) HB.out ?_) | (with_reducible refine lG (.tmp 3) B0.out ?_) | (with_reducible refine lG (.tmp 5) D0.out ?_) | (with_reducible refine lG (.tmp 6) D1.out ?_) | (with_reducible refine lG (.tmp 7) D2.out ?_))
 intro v12 x12 h12 k12
 replace B0 := hI (B0.out.kp k12)
 replace KP := hI (KP.out.trans k12)
 replace KA := hI (KA.out.kp k12)
 replace k0 := hI (k0.out.kp k12)
 replace k1 := hI (k1.out.kp k12)
 replace k2 := hI (k2.out.kp k12)
 replace D0 := hI (D0.out.kp k12)
 replace D1 := hI (D1.out.kp k12)
 replace D2 := hI (D2.out.kp k12)
 replace HB := hI (Nat.le_trans HB.out k12.bel.size)
 replace OB : Hid (OwnB x12 B v12 (((((((l ++ [119]) ++ [94, 40]) ++ te) ++ [41]) ++ [42]) ++ tc) ++ [32, 43, 32])) := by
  have z := h12
  show OwnB _ _ _ _
  (try simp only [List.append_assoc, List.cons_append, List.nil_append] at z ⊢)
  exact z
 clear k12 h12
 go_wp2_with (first | (with_reducible refine lG (.tmp 3) B0.out ?_) | (with_reducible refine lG (.tmp 5) D0.out ?_) | (with_reducible refine lG (.tmp 6) D1.out ?_) | (with_reducible refine lG (.tmp 7) D2.out ?_))
 with_reducible refine (IR.out _ v12 (((((((l ++ [119]) ++ [94, 40]) ++ te) ++ [41]) ++ [42]) ++ tc) ++ [32, 43, 32]) q2 HB.out OB.out (by have := HL.out; (try simp only [List.length_append, List.length_cons, List.length_nil]); omega) k2.out).mono ?_
 rintro e x13 ⟨v13, rfl, h13, k13⟩
 replace B0 := hI (B0.out.kp k13)
 replace KP := hI (KP.out.trans k13)
 replace KA := hI (KA.out.kp k13)
 replace k0 := hI (k0.out.kp k13)
 replace k1 := hI (k1.out.kp k13)
 replace k2 := hI (k2.out.kp k13)
 replace D0 := hI (D0.out.kp k13)
 replace D1 := hI (D1.out.kp k13)
 replace D2 := hI (D2.out.kp k13)
 replace HB := hI (Nat.le_trans HB.out k13.bel.size)
 replace OB : Hid (OwnB x13 B v13 ((((((((l ++ [119]) ++ [94, 40]) ++ te) ++ [41]) ++ [42]) ++ tc) ++ [32, 43, 32]) ++ tr)) := by
  have z := h13
  show OwnB _ _ _ _
  (try simp only [List.append_assoc, List.cons_append, List.nil_append] at z ⊢)
  exact z
 clear k13 h13
 go_wp2_with (first | (with_reducible refine lG (.tmp 3) B0.out ?_) | (with_reducible refine lG (.tmp 5) D0.out ?_) | (with_reducible refine lG (.tmp 6) D1.out ?_) | (with_reducible refine lG (.tmp 7) D2.out ?_))
 go_ret
 exact ⟨v13, rfl, OB.out, KP.out⟩
set_option linter.unusedSimpArgs false
theorem appT (B : Nat) : ∀ (a : On) (X : World) (bu : Value) (l : List UInt8) (q : Value), B ≤ X.heap.size → OwnB X B bu l → l.length + flen a ≤ 1000000000000 → Pb B X a.ob q →
 Calls Tryz.prog 30 #[bu, vO a.ob q] X (RetA X B (l ++ fmt a))
 | .fin n, X, bu, l, q, hB, ho, hl, hp => appFin n B X bu l q hB ho hl hp
 | .pw e c r, X, bu, l, q, hB, ho, hl, hp => by
  have iE := fun X bu l q hB ho hl hp => appT B e X bu l q hB ho hl hp
  have iR := fun X bu l q hB ho hl hp => appT B r X bu l q hB ho hl hp
  have iC := fun X bu l q hB ho hl hp => appFin c B X bu l q hB ho hl hp
  have oC : (On.fin c).ob.numIs 1 = decide (On.fin c = .fin 1) := On.numIs _ 1
  have oE : e.ob.numIs 1 = decide (e = .fin 1) := On.numIs _ 1
  have zR : r.ob.numIs 0 = decide (r = .fin 0) := On.numIs _ 0
  have hl' : l.length + flen e + (text (c : Int)).length + flen r + 100 ≤ 1000000000000 ∧ (fmt e).length ≤ flen e ∧ (text (c : Int)).length ≤ (text (c : Int)).length ∧ (fmt r).length ≤ flen r :=
   ⟨by unfold flen at hl; omega, fmt_len e, Nat.le_refl _, fmt_len r⟩
  have hx : ∀ t, t = l ++ fmt (.pw e c r) → Calls Tryz.prog 30 #[bu, vO (On.pw e c r).ob q] X (RetA X B t) → Calls Tryz.prog 30 #[bu, vO (On.pw e c r).ob q] X (RetA X B (l ++ fmt (.pw e c r))) := fun t ht h => ht ▸ h
  have hf : fmt (.pw e c r) = 119 :: (fmtE e (fmt e) ++ ((if c = 1 then [] else 42 :: text (c : Int)) ++ (if r = .fin 0 then [] else 32 :: 43 :: 32 :: fmt r))) := by conv => lhs; unfold fmt
  by_cases hc : c = 1
  · have oC' : (On.fin c).ob.numIs 1 = true := by rw [oC, hc]; rfl
    by_cases hr : r = .fin 0
    · have zR' : r.ob.numIs 0 = true := by rw [zR]; exact decide_eq_true hr
      cases e with
      | fin k =>
       by_cases hk : k = 1
       · refine hx _ ?_ (app_one10 _ _ _ _ _ _ _ _ _ q bu X B l ho hB hl' hp iE iC iR rfl (by rw [oE, hk]; rfl) oC' zR')
         rw [hf, if_pos hc, if_pos hr]
         rw [show fmtE (On.fin k) (fmt (On.fin k)) = [] from by unfold fmtE; simp only; rw [if_pos hk]]
         simp only [List.append_assoc, List.cons_append, List.nil_append, List.append_nil]
       · refine hx _ ?_ (app_fin10 _ _ _ _ _ _ _ _ _ q bu X B l ho hB hl' hp iE iC iR rfl (by rw [oE]; exact decide_eq_false (fun h => hk (by injection h))) oC' zR')
         rw [hf, if_pos hc, if_pos hr]
         rw [show fmtE (On.fin k) (fmt (On.fin k)) = 94 :: fmt (On.fin k) from by unfold fmtE; simp only; rw [if_neg hk]]
         simp only [List.append_assoc, List.cons_append, List.nil_append, List.append_nil]
      | pw e1 c1 r1 =>
       skip
       refine hx _ ?_ (app_inf10 _ _ _ _ _ _ _ _ _ q bu X B l ho hB hl' hp iE iC iR rfl (by rw [oE]; rfl) oC' zR')
       rw [hf, if_pos hc, if_pos hr]
       rw [show fmtE (On.pw e1 c1 r1) (fmt (On.pw e1 c1 r1)) = 94 :: 40 :: (fmt (On.pw e1 c1 r1) ++ [41]) from rfl]
       simp only [List.append_assoc, List.cons_append, List.nil_append, List.append_nil]
    · have zR' : r.ob.numIs 0 = false := by rw [zR]; exact decide_eq_false hr
      cases e with
      | fin k =>
       by_cases hk : k = 1
       · refine hx _ ?_ (app_one1r _ _ _ _ _ _ _ _ _ q bu X B l ho hB hl' hp iE iC iR rfl (by rw [oE, hk]; rfl) oC' zR')
         rw [hf, if_pos hc, if_neg hr]
         rw [show fmtE (On.fin k) (fmt (On.fin k)) = [] from by unfold fmtE; simp only; rw [if_pos hk]]
         simp only [List.append_assoc, List.cons_append, List.nil_append, List.append_nil]
       · refine hx _ ?_ (app_fin1r _ _ _ _ _ _ _ _ _ q bu X B l ho hB hl' hp iE iC iR rfl (by rw [oE]; exact decide_eq_false (fun h => hk (by injection h))) oC' zR')
         rw [hf, if_pos hc, if_neg hr]
         rw [show fmtE (On.fin k) (fmt (On.fin k)) = 94 :: fmt (On.fin k) from by unfold fmtE; simp only; rw [if_neg hk]]
         simp only [List.append_assoc, List.cons_append, List.nil_append, List.append_nil]
      | pw e1 c1 r1 =>
       skip
       refine hx _ ?_ (app_inf1r _ _ _ _ _ _ _ _ _ q bu X B l ho hB hl' hp iE iC iR rfl (by rw [oE]; rfl) oC' zR')
       rw [hf, if_pos hc, if_neg hr]
       rw [show fmtE (On.pw e1 c1 r1) (fmt (On.pw e1 c1 r1)) = 94 :: 40 :: (fmt (On.pw e1 c1 r1) ++ [41]) from rfl]
       simp only [List.append_assoc, List.cons_append, List.nil_append, List.append_nil]
  · have oC' : (On.fin c).ob.numIs 1 = false := by rw [oC]; exact decide_eq_false (fun h => hc (by injection h))
    by_cases hr : r = .fin 0
    · have zR' : r.ob.numIs 0 = true := by rw [zR]; exact decide_eq_true hr
      cases e with
      | fin k =>
       by_cases hk : k = 1
       · refine hx _ ?_ (app_onec0 _ _ _ _ _ _ _ _ _ q bu X B l ho hB hl' hp iE iC iR rfl (by rw [oE, hk]; rfl) oC' zR')
         rw [hf, if_neg hc, if_pos hr]
         rw [show fmtE (On.fin k) (fmt (On.fin k)) = [] from by unfold fmtE; simp only; rw [if_pos hk]]
         simp only [List.append_assoc, List.cons_append, List.nil_append, List.append_nil]
       · refine hx _ ?_ (app_finc0 _ _ _ _ _ _ _ _ _ q bu X B l ho hB hl' hp iE iC iR rfl (by rw [oE]; exact decide_eq_false (fun h => hk (by injection h))) oC' zR')
         rw [hf, if_neg hc, if_pos hr]
         rw [show fmtE (On.fin k) (fmt (On.fin k)) = 94 :: fmt (On.fin k) from by unfold fmtE; simp only; rw [if_neg hk]]
         simp only [List.append_assoc, List.cons_append, List.nil_append, List.append_nil]
      | pw e1 c1 r1 =>
       skip
       refine hx _ ?_ (app_infc0 _ _ _ _ _ _ _ _ _ q bu X B l ho hB hl' hp iE iC iR rfl (by rw [oE]; rfl) oC' zR')
       rw [hf, if_neg hc, if_pos hr]
       rw [show fmtE (On.pw e1 c1 r1) (fmt (On.pw e1 c1 r1)) = 94 :: 40 :: (fmt (On.pw e1 c1 r1) ++ [41]) from rfl]
       simp only [List.append_assoc, List.cons_append, List.nil_append, List.append_nil]
    · have zR' : r.ob.numIs 0 = false := by rw [zR]; exact decide_eq_false hr
      cases e with
      | fin k =>
       by_cases hk : k = 1
       · refine hx _ ?_ (app_onecr _ _ _ _ _ _ _ _ _ q bu X B l ho hB hl' hp iE iC iR rfl (by rw [oE, hk]; rfl) oC' zR')
         rw [hf, if_neg hc, if_neg hr]
         rw [show fmtE (On.fin k) (fmt (On.fin k)) = [] from by unfold fmtE; simp only; rw [if_pos hk]]
         simp only [List.append_assoc, List.cons_append, List.nil_append, List.append_nil]
       · refine hx _ ?_ (app_fincr _ _ _ _ _ _ _ _ _ q bu X B l ho hB hl' hp iE iC iR rfl (by rw [oE]; exact decide_eq_false (fun h => hk (by injection h))) oC' zR')
         rw [hf, if_neg hc, if_neg hr]
         rw [show fmtE (On.fin k) (fmt (On.fin k)) = 94 :: fmt (On.fin k) from by unfold fmtE; simp only; rw [if_neg hk]]
         simp only [List.append_assoc, List.cons_append, List.nil_append, List.append_nil]
      | pw e1 c1 r1 =>
       skip
       refine hx _ ?_ (app_infcr _ _ _ _ _ _ _ _ _ q bu X B l ho hB hl' hp iE iC iR rfl (by rw [oE]; rfl) oC' zR')
       rw [hf, if_neg hc, if_neg hr]
       rw [show fmtE (On.pw e1 c1 r1) (fmt (On.pw e1 c1 r1)) = 94 :: 40 :: (fmt (On.pw e1 c1 r1) ++ [41]) from rfl]
       simp only [List.append_assoc, List.cons_append, List.nil_append, List.append_nil]
theorem formatBy (a : On) (t : List UInt8) (p : Value) (w : World) (hx : t ≠ []) (hp : Hd w a.ob p) (ht : Tab w)
 (hA : ∀ X bu q, w.heap.size ≤ X.heap.size → OwnB X w.heap.size bu [] → Pb w.heap.size X a.ob q → Calls Tryz.prog 30 #[bu, vO a.ob q] X (RetA X w.heap.size t))
 (va : ∀ X, Hd X a.ob p → Tab X → Calls Tryz.prog 29 #[vO a.ob p] X (RetB X true)) :
 Calls Tryz.prog 8 #[vO a.ob p] w (fun e w' => e = .returned (.string (BA t)) ∧ Below w.heap.size w w') := by
 have VA := hI va
 have HP := hI hp
 have AP := hI hA
 have HX := hI hx
 clear va hA hx
 obtain ⟨a0, a1, a2, a3, a4, a5, ea⟩ := cells7 (a.ob) p
 have T := Bx1.new w #[a0, a1, a2, a3, a4, a5, p]
 rw [vO_cells ea]
 go_enter Tryz.func8, Tryz.ntmps8
 go_wp2_with fail
 generalize w.alloc (.cells #[a0, a1, a2, a3, a4, a5, p] 35) = W at T ⊢
 have B0 : Hid (Bx W (w.heap.size) (cellsO (a.ob) p).toArray) := by rw [ea]; exact T.b0
 have K0 := hI (hp.below T.bel)
 have HW := hI T.bel
 have HT := hI (ht.below T.bel)
 try rw [← vO_cells ea]
 clear T ea hp ht
 with_reducible refine (VA.out _ K0.out HT.out).mono ?_
 rintro e w1 ⟨rfl, hb⟩
 replace B0 := kB B0 hb
 replace K0 := kH K0 hb
 replace HW := kW HW hb
 replace HT := kT HT hb
 clear hb
 go_wp2_with (with_reducible refine lG (.tmp 1) B0.out ?_)
 have HA := hI (AP.out w1 (.slice none 0 0) p HW.out.size (OwnB.nil_ _ _) (Pair.below HP.out (fun _ h => h) HW.out))
 with_reducible refine HA.out.mono ?_
 rintro e w2 ⟨v2, rfl, h2, k2⟩
 obtain ⟨g, cc, rfl⟩ := h2.form HX.out
 have hconv := conv_back w2 g cc t.length w.heap.size t rfl h2
 have KB := hI (HW.out.trans k2.bel)
 clear h2 k2 HA HP AP
 go_wp2
 go_ret
 exact ⟨rfl, KB.out⟩
theorem formatGo (a : On) (p : Value) (w : World) (hl : flen a ≤ 1000000000000) (hx : fmt a ≠ []) (hp : Hd w a.ob p) (ht : Tab w)
 (va : ∀ X, Hd X a.ob p → Tab X → Calls Tryz.prog 29 #[vO a.ob p] X (RetB X true)) :
 Calls Tryz.prog 8 #[vO a.ob p] w (fun e w' => e = .returned (.string (BA (fmt a))) ∧ Below w.heap.size w w') :=
 formatBy a (fmt a) p w hx hp ht (fun X bu q hB ho hq => appT w.heap.size a X bu [] q hB ho (by simp only [List.length_nil]; omega) hq) va
theorem magText_ne (n : Nat) : magText n ≠ [] := by
 unfold magText
 split
 · simp
 · rename_i h; simp [digs_ne_nil h]
theorem text_ne (x : Int) : text x ≠ [] := by
 unfold text signText
 split
 · simp
 · exact magText_ne _
theorem fmt_ne (a : On) : fmt a ≠ [] := by
 cases a with
 | fin n => exact text_ne _
 | pw e c r => unfold fmt; simp
theorem text_short {n : Nat} (h : n < 10 ^ 90) : (text (n : Int)).length ≤ 92 := text_length (k := 90) (by rw [Int.natAbs_natCast]; exact h)
theorem flen_le : ∀ {a : On}, a.bd (10 ^ 90 - 1) → flen a ≤ 1000 * a.nd
 | .fin n, h => by
  have h' : n ≤ 10 ^ 90 - 1 := h
  have := text_short (n := n) (by omega)
  show (text (n : Int)).length ≤ 1000 * 1
  omega
 | .pw e c r, h => by
  obtain ⟨h1, h2, h3⟩ := h
  have i1 := flen_le h1
  have i2 := flen_le h3
  have := text_short (n := c) (by omega)
  show flen e + (text (c : Int)).length + flen r + 100 ≤ 1000 * (3 + e.nd + r.nd)
  omega
theorem on_bd : ∀ {a : On}, a.ob.bd 90 → a.bd (10 ^ 90 - 1)
 | .fin n, h => by
  have h' : Bd 90 (n : Rat) := h
  have h1 := h'.1
  rw [Rat.num_natCast, Int.natAbs_natCast] at h1
  show n ≤ 10 ^ 90 - 1
  omega
 | .pw e c r, h => by
  obtain ⟨⟨h1, h2⟩, h3⟩ := h
  have h2' : Bd 90 (c : Rat) := h2
  have h4 := h2'.1
  rw [Rat.num_natCast, Int.natAbs_natCast] at h4
  exact ⟨on_bd h1, by omega, on_bd h3⟩
theorem flen_ob {a : On} (hb : a.ob.bd 90) (hn : a.ob.nodes ≤ 3000) : flen a ≤ 1000000000000 := by
 have h1 := flen_le (on_bd hb)
 rw [On.nd_ob] at hn
 omega
def fo (o : Ob) : List UInt8 := match ordOf o with
 | some a => fmt a
 | none => []
theorem formatNo (o : Ob) (p : Value) (w : World) (hp : Hd w o p) (ht : Tab w) (va : ∀ X q, Hd X o q → Tab X → Calls Tryz.prog 29 #[vO o q] X (RetB X false)) :
 Calls Tryz.prog 8 #[vO o p] w (fun e w' => e = .returned (.string ⟨#[]⟩) ∧ Below w.heap.size w w') := by
 have VA := hI va
 clear va
 obtain ⟨a0, a1, a2, a3, a4, a5, ea⟩ := cells7 (o) p
 have T := Bx1.new w #[a0, a1, a2, a3, a4, a5, p]
 rw [vO_cells ea]
 go_enter Tryz.func8, Tryz.ntmps8
 go_wp2_with fail
 generalize w.alloc (.cells #[a0, a1, a2, a3, a4, a5, p] 35) = W at T ⊢
 have B0 : Hid (Bx W (w.heap.size) (cellsO (o) p).toArray) := by rw [ea]; exact T.b0
 have K0 := hI (hp.below T.bel)
 have HW := hI T.bel
 have HT := hI (ht.below T.bel)
 try rw [← vO_cells ea]
 clear T ea hp ht
 with_reducible refine (VA.out _ _ K0.out HT.out).mono ?_
 rintro e w1 ⟨rfl, hb⟩
 replace B0 := kB B0 hb
 replace K0 := kH K0 hb
 replace HW := kW HW hb
 replace HT := kT HT hb
 clear hb
 go_wp2_with (with_reducible refine lG (.tmp 1) B0.out ?_)
 go_ret
 exact ⟨rfl, HW.out⟩
theorem formatP (o : Ob) (p : Value) (w : World) (hb : o.bd 90) (hn : o.nodes ≤ 3000) (hp : Hd w o p) (ht : Tab w) :
 Calls Tryz.prog 8 #[vO o p] w (fun e w' => e = .returned (.string (BA (fo o))) ∧ Below w.heap.size w w') := by
 have VH := fun X q (h : Hd X o q) (hT : Tab X) => validH o q X hb hn h hT
 unfold fo
 cases ho : ordOf o with
 | none =>
  rw [ho] at VH
  exact formatNo o p w hp ht VH
 | some a =>
  rw [ho] at VH
  obtain ⟨hnf, rfl⟩ := ordOf_some ho
  exact formatGo a p w (flen_ob hb hn) (fmt_ne a) hp ht (fun X h hT => VH X p h hT)
theorem BA_app (l m : List UInt8) : BA (l ++ m) = BA l ++ BA m := by
 apply ByteArray.ext
 rw [ByteArray.data_append]
 show (l ++ m).toArray = l.toArray ++ m.toArray
 simp
def fs1 (e : On) (te : ByteArray) : ByteArray := if e = .fin 1 then ⟨#[119]⟩ else ⟨#[119]⟩ ++ (⟨#[94]⟩ ++ (if e.ob.inf then ⟨#[40]⟩ ++ te ++ ⟨#[41]⟩ else te))
def fs2 (c : Nat) (s nc : ByteArray) : ByteArray := if c = 1 then s else s ++ (⟨#[42]⟩ ++ nc)
def fs3 (r : On) (s tr : ByteArray) : ByteArray := if r = .fin 0 then s else s ++ (⟨#[32, 43, 32]⟩ ++ tr)
theorem fs_eq (e r : On) (c : Nat) : fs3 r (fs2 c (fs1 e (BA (fmt e))) (nt (c : Rat))) (BA (fmt r)) = BA (fmt (.pw e c r)) := by
 have h1 : fs1 e (BA (fmt e)) = BA (119 :: fmtE e (fmt e)) := by
  unfold fs1 fmtE
  cases e with
  | fin k =>
   by_cases hk : k = 1
   · subst hk; rw [if_pos rfl]; rfl
   · rw [if_neg (fun h => hk (by injection h))]
     show ⟨#[119]⟩ ++ (⟨#[94]⟩ ++ (if false = true then _ else BA (fmt (.fin k)))) = BA (119 :: if k = 1 then [] else 94 :: fmt (.fin k))
     rw [if_neg (by decide), if_neg hk, show (119 :: 94 :: fmt (.fin k)) = [119] ++ ([94] ++ fmt (.fin k)) from rfl, BA_app, BA_app]
     rfl
  | pw e' c' r' =>
   rw [if_neg (by intro h; cases h)]
   show ⟨#[119]⟩ ++ (⟨#[94]⟩ ++ (if true = true then _ else _)) = BA (119 :: 94 :: 40 :: (fmt (.pw e' c' r') ++ [41]))
   rw [if_pos rfl, show (119 :: 94 :: 40 :: (fmt (.pw e' c' r') ++ [41])) = [119] ++ ([94] ++ ([40] ++ fmt (.pw e' c' r') ++ [41])) from rfl, BA_app, BA_app, BA_app, BA_app]
   rfl
 have h2 : ∀ l, fs2 c (BA l) (nt (c : Rat)) = BA (l ++ (if c = 1 then [] else 42 :: text (c : Int))) := fun l => by
  unfold fs2
  split
  · rw [List.append_nil]
  · rw [show (42 :: text (c : Int)) = [42] ++ text (c : Int) from rfl, BA_app, BA_app]
    have : nt (c : Rat) = BA (text (c : Int)) := by unfold nt; rw [Rat.num_natCast]
    rw [this]
    rfl
 have h3 : ∀ l, fs3 r (BA l) (BA (fmt r)) = BA (l ++ (if r = .fin 0 then [] else 32 :: 43 :: 32 :: fmt r)) := fun l => by
  unfold fs3
  split
  · rw [List.append_nil]
  · rw [show (32 :: 43 :: 32 :: fmt r) = [32, 43, 32] ++ fmt r from rfl, BA_app, BA_app]
    rfl
 rw [h1, h2, h3]
 show _ = BA (119 :: (fmtE e (fmt e) ++ ((if c = 1 then [] else 42 :: text (c : Int)) ++ (if r = .fin 0 then [] else 32 :: 43 :: 32 :: fmt r))))
 congr 1
 simp [List.append_assoc]
def RetT (w : World) (s : ByteArray) (e : Ending) (w' : World) : Prop := e = .returned (.string s) ∧ Below w.heap.size w w'
theorem refFmt (e r : On) (c : Nat) (te tr : ByteArray) (p : Value) (w : World) (hp : Hd w (On.pw e c r).ob p) (ht : Tab w) (zte : te.size ≤ 4000000) (ztr : tr.size ≤ 4000000) (znc : (nt (c : Rat)).size ≤ 4000000)
 (va : ∀ X q, Hd X (On.pw e c r).ob q → Tab X → Calls Tryz.prog 34 #[vO (On.pw e c r).ob q] X (RetB X true))
 (ie : ∀ X q, Hd X e.ob q → Tab X → Calls Tryz.prog 10 #[vO e.ob q] X (RetT X te)) (ir : ∀ X q, Hd X r.ob q → Tab X → Calls Tryz.prog 10 #[vO r.ob q] X (RetT X tr)) :
 Calls Tryz.prog 10 #[vO (On.pw e c r).ob p] w (RetT w (fs3 r (fs2 c (fs1 e te) (nt (c : Rat))) tr)) := by
 have HO : Hid (∀ X q, Hd X (On.pw e c r).ob q → Calls Tryz.prog 35 #[vO (On.pw e c r).ob q] X (RetB X true)) := fun X q h => infR _ q X true rfl h
 have HX : Hid (∀ X q, Hd X (On.pw e c r).ob q → Tab X → Calls Tryz.prog 37 #[vO (On.pw e c r).ob q] X (RetH X e.ob)) := fun X q h hT => expE (.pw e c r) q X h hT
 have HCo : Hid (∀ X q, Hd X (On.pw e c r).ob q → Tab X → Calls Tryz.prog 38 #[vO (On.pw e c r).ob q] X (RetH X (.num (c : Rat)))) := fun X q h hT => coeE (.pw e c r) q X h hT
 have HR : Hid (∀ X q, Hd X (On.pw e c r).ob q → Tab X → Calls Tryz.prog 40 #[vO (On.pw e c r).ob q] X (RetH X r.ob)) := fun X q h hT => rstE (.pw e c r) q X h hT
 have H1 : Hid (∀ X q, Calls Tryz.prog 36 #[vO e.ob q] X (RetB X (decide (e = .fin 1)))) := fun X q => oneR e q X
 have H2 : Hid (∀ X q, Calls Tryz.prog 36 #[vO (.num (c : Rat)) q] X (RetB X (decide (c = 1)))) := fun X q => by
  have h := oneR (.fin c) q X
  have e0 : decide (On.fin c = .fin 1) = decide (c = 1) := by
   by_cases hc : c = 1
   · subst hc; rw [decide_eq_true rfl, decide_eq_true rfl]
   · rw [decide_eq_false (fun h => hc (by injection h)), decide_eq_false hc]
  rw [e0] at h
  exact h
 have H3 : Hid (∀ X q, Calls Tryz.prog 39 #[vO r.ob q] X (RetB X (decide (r = .fin 0)))) := fun X q => zeroR r.ob q X _ (On.numIs r 0)
 have HI : Hid (∀ X q, Hd X e.ob q → Calls Tryz.prog 35 #[vO e.ob q] X (RetB X e.ob.inf)) := fun X q h => infR e.ob q X _ rfl h
 have VA := hI va
 have IE := hI ie
 have IR := hI ir
 have hf : ∀ (q : Value) (W : World), (Instr.field 35 (vO (.num (c : Rat)) q) 1).run Tryz.prog W = .ok (.string (nt (c : Rat))) W := fun q W => by kernel_rfl
 clear va ie ir
 have z1 : (fs1 e te).size ≤ 4000010 := by
  unfold fs1
  split
  · show 1 ≤ 4000010; omega
  · split
    · simp only [ByteArray.size_append]; show 1 + (1 + (1 + te.size + 1)) ≤ _; omega
    · simp only [ByteArray.size_append]; show 1 + (1 + te.size) ≤ _; omega
 have z2 : (fs2 c (fs1 e te) (nt (c : Rat))).size ≤ 8000020 := by
  unfold fs2
  split
  · omega
  · simp only [ByteArray.size_append]; show _ + (1 + _) ≤ _; omega
 obtain ⟨S1, hS1⟩ : ∃ S1, fs1 e te = S1 := ⟨_, rfl⟩
 rw [hS1] at z1 z2 ⊢
 obtain ⟨S2, hS2⟩ : ∃ S2, fs2 c S1 (nt (c : Rat)) = S2 := ⟨_, rfl⟩
 rw [hS2] at z2 ⊢
 obtain ⟨S3, hS3⟩ : ∃ S3, fs3 r S2 tr = S3 := ⟨_, rfl⟩
 rw [hS3]
 obtain ⟨o, ho⟩ : ∃ o, (On.pw e c r).ob = o := ⟨_, rfl⟩
 rw [ho] at hp VA HO HX HCo HR ⊢
 clear ho
 have Q1 := hI hS1
 have Q2 := hI hS2
 have Q3 := hI hS3
 clear hS1 hS2 hS3
 obtain ⟨a0, a1, a2, a3, a4, a5, ea⟩ := cells7 (o) p
 have T := Bx1.new w #[a0, a1, a2, a3, a4, a5, p]
 rw [vO_cells ea]
 go_enter Tryz.func10, Tryz.ntmps10
 go_wp2_with fail
 generalize w.alloc (.cells #[a0, a1, a2, a3, a4, a5, p] 35) = W at T ⊢
 have B0 : Hid (Bx W (w.heap.size) (cellsO (o) p).toArray) := by rw [ea]; exact T.b0
 have K0 := hI (hp.below T.bel)
 have HW := hI T.bel
 have HT := hI (ht.below T.bel)
 try rw [← vO_cells ea]
 clear T ea hp ht
 with_reducible refine (VA.out _ _ K0.out HT.out).mono ?_
 rintro e w1 ⟨rfl, hb⟩
 replace B0 := kB B0 hb
 replace K0 := kH K0 hb
 replace HW := kW HW hb
 replace HT := kT HT hb
 clear hb
 go_wp2_with (with_reducible refine lG (.tmp 1) B0.out ?_)
 with_reducible refine (HO.out _ _ K0.out).mono ?_
 rintro e w2 ⟨rfl, hb⟩
 replace B0 := kB B0 hb
 replace K0 := kH K0 hb
 replace HW := kW HW hb
 replace HT := kT HT hb
 clear hb
 go_wp2_with (with_reducible refine lG (.tmp 1) B0.out ?_)
 with_reducible refine (HX.out _ _ K0.out HT.out).mono ?_
 rintro e w3 ⟨p1, rfl, k1, hb⟩
 replace B0 := kB B0 hb
 replace K0 := kH K0 hb
 replace HW := kW HW hb
 replace HT := kT HT hb
 clear hb
 replace k1 := hI k1
 go_wp2_with (with_reducible refine lG (.tmp 1) B0.out ?_)
 with_reducible refine (H1.out _ _).mono ?_
 rintro e w4 ⟨rfl, hb⟩
 replace B0 := kB B0 hb
 replace K0 := kH K0 hb
 replace HW := kW HW hb
 replace HT := kT HT hb
 replace k1 := kH k1 hb
 clear hb
 clear k1
 go_upto_if 16 with fail
 go_cut [3, 4] (fun s3 s4 wx => s3 = .string S1 ∧ Hid (Below w4.heap.size w4 wx))
 case first =>
  have HU := hI (Below.refl w4.heap.size w4)
  by_cases h1 : e = .fin 1
  · rw [decide_eq_true h1]
    go_wp2
    go_meet
    exact ⟨by rw [← Q1.out]; unfold fs1; rw [if_pos h1], HU⟩
  · rw [decide_eq_false h1]
    go_wp2_with (with_reducible refine lG (.tmp 1) B0.out ?_)
    with_reducible refine (HX.out _ _ K0.out HT.out).mono ?_
    rintro e w5 ⟨p2, rfl, k2, hb⟩
    replace B0 := kB B0 hb
    replace K0 := kH K0 hb
    replace HW := kW HW hb
    replace HT := kT HT hb
    replace HU := hI (chain2 HU.out hb (Nat.le_refl _))
    clear hb
    replace k2 := hI k2
    go_wp2_with (with_reducible refine lG (.tmp 1) B0.out ?_)
    with_reducible refine (IE.out _ _ k2.out HT.out).mono ?_
    rintro e w6 ⟨rfl, hb⟩
    replace B0 := kB B0 hb
    replace K0 := kH K0 hb
    replace HW := kW HW hb
    replace HT := kT HT hb
    replace HU := hI (chain2 HU.out hb (Nat.le_refl _))
    replace k2 := kH k2 hb
    clear hb
    go_wp2_with (with_reducible refine lG (.tmp 1) B0.out ?_)
    with_reducible refine (HX.out _ _ K0.out HT.out).mono ?_
    rintro e w7 ⟨p3, rfl, k3, hb⟩
    replace B0 := kB B0 hb
    replace K0 := kH K0 hb
    replace HW := kW HW hb
    replace HT := kT HT hb
    replace HU := hI (chain2 HU.out hb (Nat.le_refl _))
    replace k2 := kH k2 hb
    clear hb
    replace k3 := hI k3
    go_wp2_with (with_reducible refine lG (.tmp 1) B0.out ?_)
    with_reducible refine (HI.out _ _ k3.out).mono ?_
    rintro e w8 ⟨rfl, hb⟩
    replace B0 := kB B0 hb
    replace K0 := kH K0 hb
    replace HW := kW HW hb
    replace HT := kT HT hb
    replace HU := hI (chain2 HU.out hb (Nat.le_refl _))
    replace k2 := kH k2 hb
    replace k3 := kH k3 hb
    clear hb
    cases hi : e.ob.inf with
    | false =>
     go_wp2
     go_meet
     exact ⟨by rw [← Q1.out]; unfold fs1; rw [if_neg h1, hi]; rfl, HU⟩
    | true =>
     go_wp2
     go_meet
     exact ⟨by rw [← Q1.out]; unfold fs1; rw [if_neg h1, hi]; rfl, HU⟩
 case rest =>
  obtain ⟨rfl, hb0⟩ := hcut
  obtain ⟨wq1, rfl⟩ : ∃ x : World, x = wc := ⟨_, rfl⟩
  have hb := hb0.out
  replace B0 := kB B0 hb
  replace K0 := kH K0 hb
  replace HW := kW HW hb
  replace HT := kT HT hb
  clear hb hb0
  go_wp2_with (with_reducible refine lG (.tmp 1) B0.out ?_)
  with_reducible refine (HCo.out _ _ K0.out HT.out).mono ?_
  rintro e w5 ⟨p1, rfl, k1, hb⟩
  replace B0 := kB B0 hb
  replace K0 := kH K0 hb
  replace HW := kW HW hb
  replace HT := kT HT hb
  clear hb
  replace k1 := hI k1
  go_wp2_with (with_reducible refine lG (.tmp 1) B0.out ?_)
  with_reducible refine (H2.out _ _).mono ?_
  rintro e w6 ⟨rfl, hb⟩
  replace B0 := kB B0 hb
  replace K0 := kH K0 hb
  replace HW := kW HW hb
  replace HT := kT HT hb
  replace k1 := kH k1 hb
  clear hb
  clear k1
  go_upto_if 33 with fail
  go_cut [3] (fun s3 wx => s3 = .string S2 ∧ Hid (Below w6.heap.size w6 wx))
  case first =>
   have HU := hI (Below.refl w6.heap.size w6)
   by_cases h1 : c = 1
   · rw [decide_eq_true h1]
     go_wp2
     go_meet
     exact ⟨by rw [← Q2.out]; unfold fs2; rw [if_pos h1], HU⟩
   · rw [decide_eq_false h1]
     go_wp2_with (with_reducible refine lG (.tmp 1) B0.out ?_)
     with_reducible refine (HCo.out _ _ K0.out HT.out).mono ?_
     rintro e w7 ⟨p2, rfl, k2, hb⟩
     replace B0 := kB B0 hb
     replace K0 := kH K0 hb
     replace HW := kW HW hb
     replace HT := kT HT hb
     replace HU := hI (chain2 HU.out hb (Nat.le_refl _))
     clear hb
     replace k2 := hI k2
     have hf2 := hf p2
     generalize vO (.num (c : Rat)) p2 = vc at *
     go_wp2
     go_meet
     exact ⟨by rw [← Q2.out]; unfold fs2; rw [if_neg h1], HU⟩
  case rest =>
   obtain ⟨rfl, hb0⟩ := hcut
   obtain ⟨wq2, rfl⟩ : ∃ x : World, x = wc := ⟨_, rfl⟩
   have hb := hb0.out
   replace B0 := kB B0 hb
   replace K0 := kH K0 hb
   replace HW := kW HW hb
   replace HT := kT HT hb
   clear hb hb0
   go_wp2_with (with_reducible refine lG (.tmp 1) B0.out ?_)
   with_reducible refine (HR.out _ _ K0.out HT.out).mono ?_
   rintro e w7 ⟨p1, rfl, k1, hb⟩
   replace B0 := kB B0 hb
   replace K0 := kH K0 hb
   replace HW := kW HW hb
   replace HT := kT HT hb
   clear hb
   replace k1 := hI k1
   go_wp2_with (with_reducible refine lG (.tmp 1) B0.out ?_)
   with_reducible refine (H3.out _ _).mono ?_
   rintro e w8 ⟨rfl, hb⟩
   replace B0 := kB B0 hb
   replace K0 := kH K0 hb
   replace HW := kW HW hb
   replace HT := kT HT hb
   replace k1 := kH k1 hb
   clear hb
   clear k1
   by_cases h1 : r = .fin 0
   · rw [decide_eq_true h1]
     go_wp2
     go_ret
     refine ⟨?_, HW.out⟩
     rw [← Q3.out]; unfold fs3; rw [if_pos h1]; rfl
   · rw [decide_eq_false h1]
     go_wp2_with (with_reducible refine lG (.tmp 1) B0.out ?_)
     with_reducible refine (HR.out _ _ K0.out HT.out).mono ?_
     rintro e w9 ⟨p2, rfl, k2, hb⟩
     replace B0 := kB B0 hb
     replace K0 := kH K0 hb
     replace HW := kW HW hb
     replace HT := kT HT hb
     clear hb
     replace k2 := hI k2
     go_wp2_with (with_reducible refine lG (.tmp 1) B0.out ?_)
     with_reducible refine (IR.out _ _ k2.out HT.out).mono ?_
     rintro e w10 ⟨rfl, hb⟩
     replace B0 := kB B0 hb
     replace K0 := kH K0 hb
     replace HW := kW HW hb
     replace HT := kT HT hb
     replace k2 := kH k2 hb
     clear hb
     go_wp2
     go_ret
     refine ⟨?_, HW.out⟩
     rw [← Q3.out]; unfold fs3; rw [if_neg h1]; rfl
theorem refFmtFin (n : Nat) (p : Value) (w : World) (hp : Hd w (On.fin n).ob p) (ht : Tab w) (va : ∀ X q, Hd X (On.fin n).ob q → Tab X → Calls Tryz.prog 34 #[vO (On.fin n).ob q] X (RetB X true)) :
 Calls Tryz.prog 10 #[vO (On.fin n).ob p] w (RetT w (nt (n : Rat))) := by
 have VA := hI va
 have HO : Hid (∀ X q, Hd X (On.fin n).ob q → Calls Tryz.prog 35 #[vO (On.fin n).ob q] X (RetB X false)) := fun X q h => infR _ q X false rfl h
 clear va
 obtain rfl : p = .slice none 0 0 := hp.flat rfl
 obtain ⟨a0, a1, a2, a3, a4, a5, ea⟩ := cells7 ((On.fin n).ob) (.slice none 0 0)
 have T := Bx1.new w #[a0, a1, a2, a3, a4, a5, (.slice none 0 0)]
 rw [vO_cells ea]
 go_enter Tryz.func10, Tryz.ntmps10
 go_wp2_with fail
 generalize w.alloc (.cells #[a0, a1, a2, a3, a4, a5, (.slice none 0 0)] 35) = W at T ⊢
 have B0 : Hid (Bx W (w.heap.size) (cellsO ((On.fin n).ob) (.slice none 0 0)).toArray) := by rw [ea]; exact T.b0
 have K0 := hI (hp.below T.bel)
 have HW := hI T.bel
 have HT := hI (ht.below T.bel)
 try rw [← vO_cells ea]
 clear T ea hp ht
 with_reducible refine (VA.out _ _ K0.out HT.out).mono ?_
 rintro e w1 ⟨rfl, hb⟩
 replace B0 := kB B0 hb
 replace K0 := kH K0 hb
 replace HW := kW HW hb
 replace HT := kT HT hb
 clear hb
 go_wp2_with (with_reducible refine lG (.tmp 1) B0.out ?_)
 with_reducible refine (HO.out _ _ K0.out).mono ?_
 rintro e w2 ⟨rfl, hb⟩
 replace B0 := kB B0 hb
 replace K0 := kH K0 hb
 replace HW := kW HW hb
 replace HT := kT HT hb
 clear hb
 obtain ⟨m0, m1, m2, m3, m4, m5, m6⟩ := Bx.c (W := w2) (a0 := .int .i64 1) (a1 := .string (nt (n : Rat))) (a2 := .string (dt (n : Rat))) (a3 := .string ⟨#[]⟩) (a4 := .string ⟨#[]⟩) (a5 := .string ⟨#[]⟩) (a6 := .slice none 0 0) B0.out
 go_wp2_with fail
 go_ret
 exact ⟨rfl, HW.out⟩
theorem refFmtNo (o : Ob) (p : Value) (w : World) (hp : Hd w o p) (ht : Tab w) (va : ∀ X q, Hd X o q → Tab X → Calls Tryz.prog 34 #[vO o q] X (RetB X false)) :
 Calls Tryz.prog 10 #[vO o p] w (RetT w ⟨#[]⟩) := by
 have VA := hI va
 clear va
 obtain ⟨a0, a1, a2, a3, a4, a5, ea⟩ := cells7 (o) p
 have T := Bx1.new w #[a0, a1, a2, a3, a4, a5, p]
 rw [vO_cells ea]
 go_enter Tryz.func10, Tryz.ntmps10
 go_wp2_with fail
 generalize w.alloc (.cells #[a0, a1, a2, a3, a4, a5, p] 35) = W at T ⊢
 have B0 : Hid (Bx W (w.heap.size) (cellsO (o) p).toArray) := by rw [ea]; exact T.b0
 have K0 := hI (hp.below T.bel)
 have HW := hI T.bel
 have HT := hI (ht.below T.bel)
 try rw [← vO_cells ea]
 clear T ea hp ht
 with_reducible refine (VA.out _ _ K0.out HT.out).mono ?_
 rintro e w1 ⟨rfl, hb⟩
 replace B0 := kB B0 hb
 replace K0 := kH K0 hb
 replace HW := kW HW hb
 replace HT := kT HT hb
 clear hb
 go_wp2_with (with_reducible refine lG (.tmp 1) B0.out ?_)
 go_ret
 exact ⟨rfl, HW.out⟩
theorem fmt_size {a : On} (hb : a.ob.bd 90) (hn : a.ob.nodes ≤ 3000) : (BA (fmt a)).size ≤ 4000000 := by
 have h1 := flen_le (on_bd hb)
 have h2 := fmt_len a
 rw [On.nd_ob] at hn
 rw [BA_size]
 omega
theorem formatR : ∀ (a : On) (p : Value) (w : World), a.nf → a.ob.bd 90 → a.ob.nodes ≤ 3000 → Hd w a.ob p → Tab w → Calls Tryz.prog 10 #[vO a.ob p] w (RetT w (BA (fmt a)))
 | .fin n, p, w, hf, hb, hn, hp, ht => by
  have h := refFmtFin n p w hp ht (fun X q h hT => validRE (.fin n) q X hf hb hn h hT)
  have : nt (n : Rat) = BA (fmt (.fin n)) := by unfold nt; rw [Rat.num_natCast]; rfl
  rw [this] at h
  exact h
 | .pw e c r, p, w, hf, hb, hn, hp, ht => by
  obtain ⟨⟨b1, b2⟩, b3⟩ := id hb
  have hn' : 3 + e.ob.nodes + r.ob.nodes ≤ 3000 := by rw [← On.nodes_pw e r c]; exact hn
  have b2' : Bd 90 (c : Rat) := b2
  have h := refFmt e r c (BA (fmt e)) (BA (fmt r)) p w hp ht (fmt_size b1 (by omega)) (fmt_size b3 (by omega)) (by have := bd_nt b2'; omega) (fun X q h hT => validRE (.pw e c r) q X hf hb hn h hT)
   (fun X q h hT => formatR e q X hf.1 b1 (by omega) h hT) (fun X q h hT => formatR r q X hf.2.2.2.1 b3 (by omega) h hT)
  rw [fs_eq] at h
  exact h
theorem formatRO (o : Ob) (p : Value) (w : World) (hb : o.bd 90) (hn : o.nodes ≤ 3000) (hp : Hd w o p) (ht : Tab w) :
 Calls Tryz.prog 10 #[vO o p] w (RetT w (BA (fo o))) := by
 have VH := fun X q (h : Hd X o q) (hT : Tab X) => validR3 o q X hb hn h hT
 unfold fo
 cases ho : ordOf o with
 | none =>
  rw [ho] at VH
  exact refFmtNo o p w hp ht VH
 | some a =>
  obtain ⟨hnf, rfl⟩ := ordOf_some ho
  exact formatR a p w hnf hb hn hp ht
def oW : On := .pw (.fin 1) 1 (.fin 0)
def oW1 : On := .pw (.fin 1) 1 (.fin 1)
theorem oW_nf : oW.nf := pw_nf (e := .fin 1) trivial (by intro h; injection h with h; omega) (Nat.le_refl 1)
theorem oW_sm : oW.sm 5 1 1 := ⟨oW_nf, Nat.le_refl 5, Nat.le_refl 1, ⟨Nat.le_refl 1, Nat.le_refl 1, Nat.zero_le _⟩⟩
theorem one_sm : (On.fin 1).sm 1 0 1 := ⟨trivial, Nat.le_refl 1, Nat.le_refl 0, Nat.le_refl 1⟩
theorem two_sm : (On.fin 2).sm 1 0 2 := ⟨trivial, Nat.le_refl 1, Nat.le_refl 0, Nat.le_refl 2⟩
theorem oneW : addE (.fin 1) oW = oW := by decide
theorem Wone : addE oW (.fin 1) = oW1 := by decide
theorem twoW : mulE (.fin 2) oW = oW := by decide
theorem oW1_sm : oW1.sm 6 1 2 := Wone ▸ oW_sm.add one_sm
theorem formatW1 (p : Value) (w : World) (hp : Hd w oW1.ob p) (ht : Tab w) :
 Calls Tryz.prog 8 #[vO oW1.ob p] w (fun e w' => e = .returned (.string ⟨#[119, 32, 43, 32, 49]⟩) ∧ Below w.heap.size w w') := by
 refine formatBy oW1 [119, 32, 43, 32, 49] p w (by intro h; cases h) hp ht (fun X bu q hB ho hq => ?_) (fun X h hT => validE oW1 p X oW1_sm.nf (On.ob_bd oW1_sm.bd (by omega)) (On.ob_nodes oW1_sm.nd (by omega)) h hT)
 exact app_one1r (On.fin 1).ob (On.fin 1).ob (On.fin 1).ob (text (1 : Nat)) (text (1 : Nat)) (text (1 : Nat)) _ _ _ q bu X w.heap.size [] ho hB ⟨by decide, Nat.le_refl _, Nat.le_refl _, Nat.le_refl _⟩ hq
  (fun X bu l q hB ho hl hp => appFin 1 w.heap.size X bu l q hB ho hl hp) (fun X bu l q hB ho hl hp => appFin 1 w.heap.size X bu l q hB ho hl hp) (fun X bu l q hB ho hl hp => appFin 1 w.heap.size X bu l q hB ho hl hp)
  rfl (On.numIs (.fin 1) 1) (On.numIs (.fin 1) 1) (On.numIs (.fin 1) 0)
theorem powPS {e r : On} {c N L K : Nat} (sp : (On.pw e c r).sm N L K) (hN : N ≤ 3000) (hK : K ≤ 1000000000) (pe pc pr : Value) (w : World) (he : Hd w e.ob pe) (hc : Hd w (On.fin c).ob pc) (hr : Hd w r.ob pr) (ht : Tab w) :
 Calls Tryz.prog 12 #[vO e.ob pe, vO (On.fin c).ob pc, vO r.ob pr] w (RetHB w (On.pw e c r).ob true) := by
 have h := powerH e.ob (On.fin c).ob r.ob pe pc pr w (On.ob_bd sp.bd hK) (On.ob_nodes sp.nd hN) he hc hr ht
 have hv : (ordOf (.cons (.cons e.ob (On.fin c).ob) r.ob)).isSome = true := by
  have := ordOf_ob sp.nf
  rw [show Ob.cons (.cons e.ob (On.fin c).ob) r.ob = (On.pw e c r).ob from rfl, this]
  rfl
 rw [hv] at h
 exact h
theorem pW (pe pc pr : Value) (w : World) (he : Hd w (On.fin 1).ob pe) (hc : Hd w (On.fin 1).ob pc) (hr : Hd w (On.fin 0).ob pr) (ht : Tab w) :
 Calls Tryz.prog 12 #[vO (On.fin 1).ob pe, vO (On.fin 1).ob pc, vO (On.fin 0).ob pr] w (RetHB w oW.ob true) := powPS oW_sm (by omega) (by omega) pe pc pr w he hc hr ht
theorem aOneW (p p' : Value) (w : World) (hp : Hd w (On.fin 1).ob p) (hp' : Hd w oW.ob p') (ht : Tab w) :
 Calls Tryz.prog 13 #[vO (On.fin 1).ob p, vO oW.ob p'] w (RetHB w oW.ob true) := by
 have h := addPS one_sm oW_sm (by omega) (by omega) p p' w hp hp' ht
 rw [oneW] at h
 exact h
theorem aWOne (p p' : Value) (w : World) (hp : Hd w oW.ob p) (hp' : Hd w (On.fin 1).ob p') (ht : Tab w) :
 Calls Tryz.prog 13 #[vO oW.ob p, vO (On.fin 1).ob p'] w (RetHB w oW1.ob true) := by
 have h := addPS oW_sm one_sm (by omega) (by omega) p p' w hp hp' ht
 rw [Wone] at h
 exact h
theorem mTwoW (p p' : Value) (w : World) (hp : Hd w (On.fin 2).ob p) (hp' : Hd w oW.ob p') (ht : Tab w) :
 Calls Tryz.prog 14 #[vO (On.fin 2).ob p, vO oW.ob p'] w (RetHB w oW.ob true) := by
 have h := mulPS two_sm oW_sm (by omega) (by omega) (by omega) (by omega) p p' w hp hp' ht
 rw [twoW] at h
 exact h
theorem natP0 (w : World) (ht : Tab w) : Calls Tryz.prog 11 #[.int .i64 0] w (RetH w (On.fin 0).ob) := natPO 0 (by omega) w ht
theorem natP1 (w : World) (ht : Tab w) : Calls Tryz.prog 11 #[.int .i64 1] w (RetH w (On.fin 1).ob) := natPO 1 (by omega) w ht
theorem natP2 (w : World) (ht : Tab w) : Calls Tryz.prog 11 #[.int .i64 2] w (RetH w (On.fin 2).ob) := natPO 2 (by omega) w ht
theorem firstGo (w : World) (ht : Tab w) (he2 : decide (oW1.ob = oW.ob) = false)
 (hl : ∀ X q t, Hd X oW.ob q → Hd X oW1.ob t → Tab X → Calls Tryz.prog 16 #[vO oW.ob q, vO oW1.ob t] X (RetB X true)) :
 Calls Tryz.prog 4 #[] w (RetB w true) := by
 have HT := hI ht
 have HW := hI (Below.refl w.heap.size w)
 clear ht
 have HE2 := hI he2
 have HL := hI hl
 clear he2 hl
 go_enter Tryz.func4, Tryz.ntmps4
 go_wp2_with fail
 with_reducible refine (natP1 _ HT.out).mono ?_
 rintro e w1 ⟨q1, rfl, k1, hb⟩
 replace HT := kT HT hb
 replace HW := kW HW hb
 clear hb
 replace k1 := hI k1
 have T := hI (Bx1.new w1 #[.int .i64 0, .string ⟨#[]⟩, .string ⟨#[]⟩, .string ⟨#[]⟩, .string ⟨#[]⟩, .string ⟨#[]⟩, .slice none 0 0])
 go_wp2_with (first | (with_reducible refine sB (.tmp 1) (.tmp 10) k1.out T.out.b0 ?_; have P := Pt1.new (w := w1) (o := (On.fin 1).ob) (p := q1) (z := #[.int .i64 0, .string ⟨#[]⟩, .string ⟨#[]⟩, .string ⟨#[]⟩, .string ⟨#[]⟩, .string ⟨#[]⟩, .slice none 0 0]); generalize World.setRow (w1.alloc (.cells #[.int .i64 0, .string ⟨#[]⟩, .string ⟨#[]⟩, .string ⟨#[]⟩, .string ⟨#[]⟩, .string ⟨#[]⟩, .slice none 0 0] 35)) w1.heap.size (cellsO ((On.fin 1).ob) q1).toArray = X1 at P ⊢; have hb := P.bel; replace HT := kT HT hb; replace HW := kW HW hb; replace k1 := kH k1 hb; have G1 := hI P.b0; clear P hb T) | (with_reducible refine lG (.tmp 1) G1.out ?_))
 refine wp_region_growS (l := _) 8 (by kernel_rfl) (by kernel_rfl) (fun i => [12, 13, 14, 15, 11, 16, 17, 2].getD i 0) (LR [LV (vO ((On.fin 1).ob) q1), LV (vO ((On.fin 1).ob) q1), LH ((On.fin 0).ob), LHB (oW.ob) true, LHB (oW.ob) true, LH (oW.ob), LV (.bool true), LBx]) (LR_mono ⟨mLV _, mLV _, mLH _, mLHB _ _, mLHB _ _, mLH _, mLV _, mLBx, trivial⟩) (by
  intro i j hi hj h
  exact inj_getD [12, 13, 14, 15, 11, 16, 17, 2] (by decide) i j hi hj h) (by
  intro i hi
  exact lt_getD 72 [12, 13, 14, 15, 11, 16, 17, 2] (by decide) i hi) [6] (by kernel_rfl) 7 5 (by omega) (by omega) (by kernel_rfl) (by kernel_rfl) _ rfl rfl rfl rfl
  (fun _ _ _ _ h => h) (oW.ob) (fun _ _ _ _ h => h) ?step ?stepL ?done
 case step =>
  intro i hi a w9 v lo hi' hoth hb hw
  have sl1 : a.tmps[1]? = some (.pointer (some ⟨w1.heap.size, 0, none⟩)) := (hoth 1 (fun j hj => ne_getD 1 _ (by decide) j hj)).trans rfl
  match i, hi with
  | 0, _ =>
   exact gr_box rfl rfl (.tmp 1) rfl (eval_of sl1) (G1.out.keep hb) ⟨_, rfl, Below.refl _ _, rfl⟩
  | 1, _ =>
   exact gr_box rfl rfl (.tmp 1) rfl (eval_of sl1) (G1.out.keep hb) ⟨_, rfl, Below.refl _ _, rfl⟩
  | 2, _ =>
   refine gr_c rfl rfl 11  _ _ rfl (fun v w => by go_simp)  ?_
   with_reducible refine (natP0 w9 (HT.out.below hb)).mono ?_
   rintro e w3 ⟨p, rfl, hp, hb3⟩
   exact ⟨_, rfl, _, rfl, hb3, p, rfl, hp⟩
  | 3, _ =>
   obtain ⟨s0, r0, _⟩ := hw 0 (by omega) (by kernel_rfl)
   have e0 : v 0 = vO ((On.fin 1).ob) q1 := r0
   rw [e0] at s0
   obtain ⟨s1, r1, _⟩ := hw 1 (by omega) (by kernel_rfl)
   have e1 : v 1 = vO ((On.fin 1).ob) q1 := r1
   rw [e1] at s1
   obtain ⟨s2, r2, _⟩ := hw 2 (by omega) (by kernel_rfl)
   obtain ⟨q2, e2, k2⟩ : LH ((On.fin 0).ob) (v 2) (lo 2) (hi' 2) w9 := r2
   rw [e2] at s2
   refine gr_ttt rfl rfl 12 12 13 14 _ _ _ _ rfl (fun v u x w => by go_simp) s0 s1 s2 ?_
   with_reducible refine (pW q1 q1 q2 w9 (k1.out.below hb) (k1.out.below hb) k2 (HT.out.below hb)).mono ?_
   rintro e w3 ⟨p, rfl, hp, hb3⟩
   exact ⟨_, rfl, _, rfl, hb3, p, rfl, hp⟩
  | 4, _ =>
   obtain ⟨s0, r0, _⟩ := hw 3 (by omega) (by kernel_rfl)
   obtain ⟨q0, e0, k0⟩ : LHB (oW.ob) true (v 3) (lo 3) (hi' 3) w9 := r0
   rw [e0] at s0
   exact gr_move rfl rfl 15 _ rfl s0 ⟨_, rfl, Below.refl _ _, q0, rfl, k0⟩
  | 5, _ =>
   obtain ⟨s0, r0, _⟩ := hw 4 (by omega) (by kernel_rfl)
   obtain ⟨q0, e0, k0⟩ : LHB (oW.ob) true (v 4) (lo 4) (hi' 4) w9 := r0
   rw [e0] at s0
   exact gr_ext2 rfl rfl 11 _ _ rfl s0 ⟨_, rfl, Below.refl _ _, q0, rfl, k0⟩
  | 6, _ =>
   obtain ⟨s0, r0, _⟩ := hw 4 (by omega) (by kernel_rfl)
   obtain ⟨q0, e0, k0⟩ : LHB (oW.ob) true (v 4) (lo 4) (hi' 4) w9 := r0
   rw [e0] at s0
   exact gr_ext2' rfl rfl 11 _ _ rfl s0 ⟨_, rfl, Below.refl _ _, rfl⟩
  | 7, _ =>
   exact grow_allocO rfl rfl rfl ⟨_, rfl, Below.alloc (Below.refl _ _) (Nat.le_refl _) _, rfl, heap_alloc_new _ _, by simp⟩
 case stepL =>
  intro i hi hl a w1 w9 v lo hi' hw
  match i, hi with
  | 0, _ => exact absurd hl (by decide)
  | 1, _ => exact absurd hl (by decide)
  | 2, _ => exact absurd hl (by decide)
  | 3, _ => exact absurd hl (by decide)
  | 4, _ => exact absurd hl (by decide)
  | 5, _ => exact absurd hl (by decide)
  | 6, _ =>
   obtain ⟨s0, r0⟩ := hw 4 (by omega) (by kernel_rfl)
   obtain ⟨q0, e0, k0⟩ : LHB (oW.ob) true (v 4) (lo 4) (hi' 4) w1 := r0
   rw [e0] at s0
   exact gr_ext2' rfl rfl 11 _ _ rfl s0 ⟨_, rfl, rfl, rfl⟩
  | 7, _ => exact absurd hl (by decide)
 case done =>
  intro a w9 v lo hi' p5 hdef hsz hoth hb hj hap hv5 k5 hv7 B7
  obtain ⟨_, _, hlo7, _⟩ := hj 7 (by omega)
  obtain ⟨_, hv6, _, _⟩ := hj 6 (by omega)
  change v 6 = _ at hv6
  have ha := eq_puts hdef hsz hoth (fun i hi => (hj i hi).1)
  subst ha
  clear hj hoth hdef hsz hap
  have hX := below_setRowO hb hlo7 (cellsO (oW.ob) p5).toArray
  have kX := Hd.box k5 B7 rfl (cellsO (oW.ob) p5).toArray
  have bX := Bx.set (y := (cellsO (oW.ob) p5).toArray) B7
  generalize World.setRow w9 (lo 7) (cellsO (oW.ob) p5).toArray = XA at hX kX bX ⊢
  clear hb k5 B7
  simp only [puts, List.getD_cons_zero, List.getD_cons_succ, hv5, hv7, hv6]
  generalize v 0 = v0
  generalize v 1 = v1
  generalize v 2 = v2
  generalize v 3 = v3
  generalize v 4 = v4
  clear hv5 hv7 hv6
  generalize lo 7 = g7 at *
  simp only [Act.put, List.setIfInBounds_toArray, List.set_cons_zero, List.set_cons_succ]
  show wpList _ _ _ [_] _ _
  have hb := hX
  clear hX
  replace HT := kT HT hb
  replace HW := kW HW hb
  replace k1 := kH k1 hb
  replace G1 := kB G1 hb
  replace k5 := hI kX
  have G2 := hI bX
  clear hb kX bX
  go_wp2_with (first | (with_reducible refine lG (.tmp 1) G1.out ?_) | (with_reducible refine lG (.tmp 2) G2.out ?_))
  with_reducible refine (aOneW _ _ _ k1.out k5.out HT.out).mono ?_
  rintro e w2 ⟨q3, rfl, k3, hb⟩
  replace HT := kT HT hb
  replace HW := kW HW hb
  replace k1 := kH k1 hb
  replace G1 := kB G1 hb
  replace k5 := kH k5 hb
  replace G2 := kB G2 hb
  clear hb
  replace k3 := hI k3
  have T := hI (Bx1.new w2 #[.int .i64 0, .string ⟨#[]⟩, .string ⟨#[]⟩, .string ⟨#[]⟩, .string ⟨#[]⟩, .string ⟨#[]⟩, .slice none 0 0])
  go_wp2_with (first | (with_reducible refine sB (.tmp 4) (.tmp 22) k3.out T.out.b0 ?_; have P := Pt1.new (w := w2) (o := oW.ob) (p := q3) (z := #[.int .i64 0, .string ⟨#[]⟩, .string ⟨#[]⟩, .string ⟨#[]⟩, .string ⟨#[]⟩, .string ⟨#[]⟩, .slice none 0 0]); generalize World.setRow (w2.alloc (.cells #[.int .i64 0, .string ⟨#[]⟩, .string ⟨#[]⟩, .string ⟨#[]⟩, .string ⟨#[]⟩, .string ⟨#[]⟩, .slice none 0 0] 35)) w2.heap.size (cellsO (oW.ob) q3).toArray = X2 at P ⊢; have hb := P.bel; replace HT := kT HT hb; replace HW := kW HW hb; replace k1 := kH k1 hb; replace G1 := kB G1 hb; replace k5 := kH k5 hb; replace G2 := kB G2 hb; replace k3 := kH k3 hb; have G3 := hI P.b0; clear P hb T) | (with_reducible refine lG (.tmp 1) G1.out ?_) | (with_reducible refine lG (.tmp 2) G2.out ?_) | (with_reducible refine lG (.tmp 4) G3.out ?_))
  with_reducible refine (aWOne _ _ _ k5.out k1.out HT.out).mono ?_
  rintro e w3 ⟨q4, rfl, k4, hb⟩
  replace HT := kT HT hb
  replace HW := kW HW hb
  replace k1 := kH k1 hb
  replace G1 := kB G1 hb
  replace k5 := kH k5 hb
  replace G2 := kB G2 hb
  replace k3 := kH k3 hb
  replace G3 := kB G3 hb
  clear hb
  replace k4 := hI k4
  have T := hI (Bx1.new w3 #[.int .i64 0, .string ⟨#[]⟩, .string ⟨#[]⟩, .string ⟨#[]⟩, .string ⟨#[]⟩, .string ⟨#[]⟩, .slice none 0 0])
  go_wp2_with (first | (with_reducible refine sB (.tmp 6) (.tmp 28) k4.out T.out.b0 ?_; have P := Pt1.new (w := w3) (o := oW1.ob) (p := q4) (z := #[.int .i64 0, .string ⟨#[]⟩, .string ⟨#[]⟩, .string ⟨#[]⟩, .string ⟨#[]⟩, .string ⟨#[]⟩, .slice none 0 0]); generalize World.setRow (w3.alloc (.cells #[.int .i64 0, .string ⟨#[]⟩, .string ⟨#[]⟩, .string ⟨#[]⟩, .string ⟨#[]⟩, .string ⟨#[]⟩, .slice none 0 0] 35)) w3.heap.size (cellsO (oW1.ob) q4).toArray = X3 at P ⊢; have hb := P.bel; replace HT := kT HT hb; replace HW := kW HW hb; replace k1 := kH k1 hb; replace G1 := kB G1 hb; replace k5 := kH k5 hb; replace G2 := kB G2 hb; replace k3 := kH k3 hb; replace G3 := kB G3 hb; replace k4 := kH k4 hb; have G4 := hI P.b0; clear P hb T) | (with_reducible refine lG (.tmp 1) G1.out ?_) | (with_reducible refine lG (.tmp 2) G2.out ?_) | (with_reducible refine lG (.tmp 4) G3.out ?_) | (with_reducible refine lG (.tmp 6) G4.out ?_))
  refine wp_region_growS (l := _) 7 (by kernel_rfl) (by kernel_rfl) (fun i => [31, 32, 33, 30, 34, 35, 8].getD i 0) (LR [LH ((On.fin 2).ob), LV (vO (oW.ob) p5), LHB (oW.ob) true, LHB (oW.ob) true, LH (oW.ob), LV (.bool true), LBx]) (LR_mono ⟨mLH _, mLV _, mLHB _ _, mLHB _ _, mLH _, mLV _, mLBx, trivial⟩) (by
   intro i j hi hj h
   exact inj_getD [31, 32, 33, 30, 34, 35, 8] (by decide) i j hi hj h) (by
   intro i hi
   exact lt_getD 72 [31, 32, 33, 30, 34, 35, 8] (by decide) i hi) [5] (by kernel_rfl) 6 4 (by omega) (by omega) (by kernel_rfl) (by kernel_rfl) _ rfl rfl rfl rfl
   (fun _ _ _ _ h => h) (oW.ob) (fun _ _ _ _ h => h) ?step ?stepL ?done
  case step =>
   intro i hi a w9 v lo hi' hoth hb hw
   have sl2 : a.tmps[2]? = some (.pointer (some ⟨g7, 0, none⟩)) := (hoth 2 (fun j hj => ne_getD 2 _ (by decide) j hj)).trans rfl
   match i, hi with
   | 0, _ =>
    refine gr_c rfl rfl 11  _ _ rfl (fun v w => by go_simp)  ?_
    with_reducible refine (natP2 w9 (HT.out.below hb)).mono ?_
    rintro e w3 ⟨p, rfl, hp, hb3⟩
    exact ⟨_, rfl, _, rfl, hb3, p, rfl, hp⟩
   | 1, _ =>
    exact gr_box rfl rfl (.tmp 2) rfl (eval_of sl2) (G2.out.keep hb) ⟨_, rfl, Below.refl _ _, rfl⟩
   | 2, _ =>
    obtain ⟨s0, r0, _⟩ := hw 0 (by omega) (by kernel_rfl)
    obtain ⟨q0, e0, k0⟩ : LH ((On.fin 2).ob) (v 0) (lo 0) (hi' 0) w9 := r0
    rw [e0] at s0
    obtain ⟨s1, r1, _⟩ := hw 1 (by omega) (by kernel_rfl)
    have e1 : v 1 = vO (oW.ob) p5 := r1
    rw [e1] at s1
    refine gr_tt rfl rfl 14 31 32 _ _ _ rfl (fun v u w => by go_simp) s0 s1 ?_
    with_reducible refine (mTwoW q0 p5 w9 k0 (k5.out.below hb) (HT.out.below hb)).mono ?_
    rintro e w3 ⟨p, rfl, hp, hb3⟩
    exact ⟨_, rfl, _, rfl, hb3, p, rfl, hp⟩
   | 3, _ =>
    obtain ⟨s0, r0, _⟩ := hw 2 (by omega) (by kernel_rfl)
    obtain ⟨q0, e0, k0⟩ : LHB (oW.ob) true (v 2) (lo 2) (hi' 2) w9 := r0
    rw [e0] at s0
    exact gr_move rfl rfl 33 _ rfl s0 ⟨_, rfl, Below.refl _ _, q0, rfl, k0⟩
   | 4, _ =>
    obtain ⟨s0, r0, _⟩ := hw 3 (by omega) (by kernel_rfl)
    obtain ⟨q0, e0, k0⟩ : LHB (oW.ob) true (v 3) (lo 3) (hi' 3) w9 := r0
    rw [e0] at s0
    exact gr_ext2 rfl rfl 30 _ _ rfl s0 ⟨_, rfl, Below.refl _ _, q0, rfl, k0⟩
   | 5, _ =>
    obtain ⟨s0, r0, _⟩ := hw 3 (by omega) (by kernel_rfl)
    obtain ⟨q0, e0, k0⟩ : LHB (oW.ob) true (v 3) (lo 3) (hi' 3) w9 := r0
    rw [e0] at s0
    exact gr_ext2' rfl rfl 30 _ _ rfl s0 ⟨_, rfl, Below.refl _ _, rfl⟩
   | 6, _ =>
    exact grow_allocO rfl rfl rfl ⟨_, rfl, Below.alloc (Below.refl _ _) (Nat.le_refl _) _, rfl, heap_alloc_new _ _, by simp⟩
  case stepL =>
   intro i hi hl a w1 w9 v lo hi' hw
   match i, hi with
   | 0, _ => exact absurd hl (by decide)
   | 1, _ => exact absurd hl (by decide)
   | 2, _ => exact absurd hl (by decide)
   | 3, _ => exact absurd hl (by decide)
   | 4, _ => exact absurd hl (by decide)
   | 5, _ =>
    obtain ⟨s0, r0⟩ := hw 3 (by omega) (by kernel_rfl)
    obtain ⟨q0, e0, k0⟩ : LHB (oW.ob) true (v 3) (lo 3) (hi' 3) w1 := r0
    rw [e0] at s0
    exact gr_ext2' rfl rfl 30 _ _ rfl s0 ⟨_, rfl, rfl, rfl⟩
   | 6, _ => exact absurd hl (by decide)
  case done =>
   intro a w9 v lo hi' u4 hdef hsz hoth hb hj hap hv4 k40 hv6 B6
   obtain ⟨_, _, hlo6, _⟩ := hj 6 (by omega)
   obtain ⟨_, hv5, _, _⟩ := hj 5 (by omega)
   change v 5 = _ at hv5
   have ha := eq_puts hdef hsz hoth (fun i hi => (hj i hi).1)
   subst ha
   clear hj hoth hdef hsz hap
   have hX := below_setRowO hb hlo6 (cellsO (oW.ob) u4).toArray
   have kX := Hd.box k40 B6 rfl (cellsO (oW.ob) u4).toArray
   have bX := Bx.set (y := (cellsO (oW.ob) u4).toArray) B6
   generalize World.setRow w9 (lo 6) (cellsO (oW.ob) u4).toArray = XB at hX kX bX ⊢
   clear hb k40 B6
   simp only [puts, List.getD_cons_zero, List.getD_cons_succ, hv4, hv6, hv5]
   generalize v 0 = v0
   generalize v 1 = v1
   generalize v 2 = v2
   generalize v 3 = v3
   clear hv4 hv6 hv5
   generalize lo 6 = g6 at *
   simp only [Act.put, List.setIfInBounds_toArray, List.set_cons_zero, List.set_cons_succ]
   show wpList _ _ _ [_] _ _
   have hb := hX
   clear hX
   replace HT := kT HT hb
   replace HW := kW HW hb
   replace k1 := kH k1 hb
   replace G1 := kB G1 hb
   replace k5 := kH k5 hb
   replace G2 := kB G2 hb
   replace k3 := kH k3 hb
   replace G3 := kB G3 hb
   replace k4 := kH k4 hb
   replace G4 := kB G4 hb
   replace k40 := hI kX
   have G5 := hI bX
   clear hb kX bX
   go_wp2_with (first | (with_reducible refine lG (.tmp 1) G1.out ?_) | (with_reducible refine lG (.tmp 2) G2.out ?_) | (with_reducible refine lG (.tmp 4) G3.out ?_) | (with_reducible refine lG (.tmp 6) G4.out ?_) | (with_reducible refine lG (.tmp 8) G5.out ?_))
   with_reducible refine (equalH oW.ob oW.ob _ _ _ true (decide_eq_true rfl) k3.out k5.out).mono ?_
   rintro e w4 ⟨rfl, hb⟩
   replace HT := kT HT hb
   replace HW := kW HW hb
   replace k1 := kH k1 hb
   replace G1 := kB G1 hb
   replace k5 := kH k5 hb
   replace G2 := kB G2 hb
   replace k3 := kH k3 hb
   replace G3 := kB G3 hb
   replace k4 := kH k4 hb
   replace G4 := kB G4 hb
   replace k40 := kH k40 hb
   replace G5 := kB G5 hb
   clear hb
   go_wp2_with (first | (with_reducible refine lG (.tmp 1) G1.out ?_) | (with_reducible refine lG (.tmp 2) G2.out ?_) | (with_reducible refine lG (.tmp 4) G3.out ?_) | (with_reducible refine lG (.tmp 6) G4.out ?_) | (with_reducible refine lG (.tmp 8) G5.out ?_))
   with_reducible refine (equalH oW1.ob oW.ob _ _ _ false HE2.out k4.out k5.out).mono ?_
   rintro e w5 ⟨rfl, hb⟩
   replace HT := kT HT hb
   replace HW := kW HW hb
   replace k1 := kH k1 hb
   replace G1 := kB G1 hb
   replace k5 := kH k5 hb
   replace G2 := kB G2 hb
   replace k3 := kH k3 hb
   replace G3 := kB G3 hb
   replace k4 := kH k4 hb
   replace G4 := kB G4 hb
   replace k40 := kH k40 hb
   replace G5 := kB G5 hb
   clear hb
   go_wp2_with (first | (with_reducible refine lG (.tmp 1) G1.out ?_) | (with_reducible refine lG (.tmp 2) G2.out ?_) | (with_reducible refine lG (.tmp 4) G3.out ?_) | (with_reducible refine lG (.tmp 6) G4.out ?_) | (with_reducible refine lG (.tmp 8) G5.out ?_))
   with_reducible refine (equalH oW.ob oW.ob _ _ _ true (decide_eq_true rfl) k40.out k5.out).mono ?_
   rintro e w6 ⟨rfl, hb⟩
   replace HT := kT HT hb
   replace HW := kW HW hb
   replace k1 := kH k1 hb
   replace G1 := kB G1 hb
   replace k5 := kH k5 hb
   replace G2 := kB G2 hb
   replace k3 := kH k3 hb
   replace G3 := kB G3 hb
   replace k4 := kH k4 hb
   replace G4 := kB G4 hb
   replace k40 := kH k40 hb
   replace G5 := kB G5 hb
   clear hb
   go_wp2_with (first | (with_reducible refine lG (.tmp 1) G1.out ?_) | (with_reducible refine lG (.tmp 2) G2.out ?_) | (with_reducible refine lG (.tmp 4) G3.out ?_) | (with_reducible refine lG (.tmp 6) G4.out ?_) | (with_reducible refine lG (.tmp 8) G5.out ?_))
   with_reducible refine (HL.out _ _ _ k5.out k4.out HT.out).mono ?_
   rintro e w7 ⟨rfl, hb⟩
   replace HT := kT HT hb
   replace HW := kW HW hb
   replace k1 := kH k1 hb
   replace G1 := kB G1 hb
   replace k5 := kH k5 hb
   replace G2 := kB G2 hb
   replace k3 := kH k3 hb
   replace G3 := kB G3 hb
   replace k4 := kH k4 hb
   replace G4 := kB G4 hb
   replace k40 := kH k40 hb
   replace G5 := kB G5 hb
   clear hb
   go_wp2_with (first | (with_reducible refine lG (.tmp 1) G1.out ?_) | (with_reducible refine lG (.tmp 2) G2.out ?_) | (with_reducible refine lG (.tmp 4) G3.out ?_) | (with_reducible refine lG (.tmp 6) G4.out ?_) | (with_reducible refine lG (.tmp 8) G5.out ?_))
   with_reducible refine (formatW1 _ _ k4.out HT.out).mono ?_
   rintro e w8 ⟨rfl, hb⟩
   replace HT := kT HT hb
   replace HW := kW HW hb
   replace k1 := kH k1 hb
   replace G1 := kB G1 hb
   replace k5 := kH k5 hb
   replace G2 := kB G2 hb
   replace k3 := kH k3 hb
   replace G3 := kB G3 hb
   replace k4 := kH k4 hb
   replace G4 := kB G4 hb
   replace k40 := kH k40 hb
   replace G5 := kB G5 hb
   clear hb
   go_wp2_with (first | (with_reducible refine lG (.tmp 1) G1.out ?_) | (with_reducible refine lG (.tmp 2) G2.out ?_) | (with_reducible refine lG (.tmp 4) G3.out ?_) | (with_reducible refine lG (.tmp 6) G4.out ?_) | (with_reducible refine lG (.tmp 8) G5.out ?_))
   go_ret
   exact ⟨rfl, HW.out⟩
theorem firstO (w : World) (ht : Tab w) : Calls Tryz.prog 4 #[] w (RetB w true) := by
 refine firstGo w ht ?_ ?_
 · refine decide_eq_false fun h => ?_
   have h1 := ordOf_ob oW1_sm.nf
   rw [h, ordOf_ob oW_nf] at h1
   injection h1 with h1
   exact absurd h1 (by decide)
 · intro X q t h h' hT
   have c := lessH oW.ob oW1.ob q t X (On.ob_bd oW_sm.bd (by omega)) (On.ob_bd oW1_sm.bd (by omega)) (On.ob_nodes oW_sm.nd (by omega)) (On.ob_nodes oW1_sm.nd (by omega)) h h' hT
   have e : lessO oW.ob oW1.ob = true := by
    unfold lessO
    rw [ordOf_ob oW_nf, ordOf_ob oW1_sm.nf]
    decide
   rw [e] at c
   exact c
end Go.Proofs.YtocbedijpomemaaGreatDoor
