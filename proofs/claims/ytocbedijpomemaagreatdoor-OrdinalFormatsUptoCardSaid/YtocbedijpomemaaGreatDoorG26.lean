/- The program's appendText of a number. -/
import Derived.Test.YtocbedijpomemaaGreatDoorG19
import Derived.Test.YtocbedijpomemaaGreatDoorG25
import Derived.Test.YtocbedijpomemaaGreatDoorG20
namespace Go.Proofs.YtocbedijpomemaaGreatDoor
open Go Go.RowKit
set_option linter.unusedVariables false
set_option maxHeartbeats 32000000
set_option maxRecDepth 100000
theorem pb_pair {B : Nat} {w : World} {o : Ob} {p : Value} (h : Pb B w o p) : Pair w (fun b => b < B) o p := h
theorem appNum (q : Rat) (p bu : Value) (w : World) (B : Nat) (l : List UInt8) (ho : OwnB w B bu l) (hB : B ≤ w.heap.size) (hl : l.length + (text q.num).length ≤ 1000000000000) (hp : Hd w (.num q) p) :
 Calls Tryz.prog 30 #[bu, vO (.num q) p] w (RetA w B (l ++ text q.num)) := by
 have HO := hI ho
 have HL := hI hl
 have HB := hI hB
 clear ho hl hB
 have ea : cellsO (.num q) p = [.int .i64 1, .string (nt q), .string (dt q), .string ⟨#[]⟩, .string ⟨#[]⟩, .string ⟨#[]⟩, p] := rfl
 have T := Bx1.new w #[.int .i64 1, .string (nt q), .string (dt q), .string ⟨#[]⟩, .string ⟨#[]⟩, .string ⟨#[]⟩, p]
 rw [vO_cells ea]
 go_enter Tryz.func30, Tryz.ntmps30
 go_wp2_with fail
 generalize w.alloc (.cells #[.int .i64 1, .string (nt q), .string (dt q), .string ⟨#[]⟩, .string ⟨#[]⟩, .string ⟨#[]⟩, p] 35) = W at T ⊢
 have B0 : Hid (Bx W (w.heap.size) (cellsO (.num q) p).toArray) := by rw [ea]; exact T.b0
 have K0 := hI (hp.below T.bel)
 have HW := hI T.bel
 try rw [← vO_cells ea]
 clear T ea hp
 with_reducible refine (isFinH (.num q) p _ true rfl).mono ?_
 rintro e w1 ⟨rfl, hb⟩
 replace B0 := kB B0 hb
 replace K0 := kH K0 hb
 replace HW := kW HW hb
 clear hb
 obtain ⟨m0, m1, m2, m3, m4, m5, m6⟩ := Bx.c B0.out
 have HO2 := hI (HO.out.kept HW.out)
 have HB2 := hI (Nat.le_trans HB.out HW.out.size)
 clear HO B0 K0
 go_wp2_with (at_builtin; refine appStr rfl (.tmp 10) (.tmp 12) rfl rfl HO2.out (text q.num) rfl HL.out HB2.out ?_)
 intro v2 w2 h2 k2
 have H2 := hI h2
 have KP := hI ((Kp.of HW.out HB.out).trans k2)
 clear h2 k2
 go_wp2
 go_ret
 exact ⟨v2, rfl, H2.out, KP.out⟩
theorem app_one10 (oe oc orr : Ob) (te tc tr : List UInt8) (ne nc nr : Nat) (p bu : Value) (w : World) (B : Nat) (l : List UInt8) (ho : OwnB w B bu l) (hB : B ≤ w.heap.size) (hl : l.length + ne + nc + nr + 100 ≤ 1000000000000 ∧ te.length ≤ ne ∧ tc.length ≤ nc ∧ tr.length ≤ nr) (hp : Pb B w (.cons (.cons oe oc) orr) p)
 (iE : ∀ X bu l q, B ≤ X.heap.size → OwnB X B bu l → l.length + ne ≤ 1000000000000 → Pb B X oe q → Calls Tryz.prog 30 #[bu, vO oe q] X (RetA X B (l ++ te))) (iC : ∀ X bu l q, B ≤ X.heap.size → OwnB X B bu l → l.length + nc ≤ 1000000000000 → Pb B X oc q → Calls Tryz.prog 30 #[bu, vO oc q] X (RetA X B (l ++ tc))) (iR : ∀ X bu l q, B ≤ X.heap.size → OwnB X B bu l → l.length + nr ≤ 1000000000000 → Pb B X orr q → Calls Tryz.prog 30 #[bu, vO orr q] X (RetA X B (l ++ tr))) (fE : oe.isNum = true) (oE : oe.numIs 1 = true) (oC : oc.numIs 1 = true) (zR : orr.numIs 0 = true) :
 Calls Tryz.prog 30 #[bu, vO (.cons (.cons oe oc) orr) p] w (RetA w B (l ++ [119])) := by
 have OB := hI ho
 clear ho
 have HL := hI hl
 clear hl
 have HB := hI hB
 clear hB
 have KA := hI hp
 clear hp
 have IE := hI iE
 clear iE
 have IR := hI iR
 clear iR
 have IC := hI iC
 clear iC
 have FE := hI fE
 clear fE
 have OE := hI oE
 clear oE
 have OC := hI oC
 clear oC
 have ZR := hI zR
 clear zR
 obtain ⟨a0, a1, a2, a3, a4, a5, ea⟩ := cells7 (.cons (.cons oe oc) orr) p
 have T := Bx1.new w #[a0, a1, a2, a3, a4, a5, p]
 rw [vO_cells ea]
 go_enter Tryz.func30, Tryz.ntmps30
 go_wp2_with fail
 generalize w.alloc (.cells #[a0, a1, a2, a3, a4, a5, p] 35) = W at T ⊢
 have B0 : Hid (Bx W (w.heap.size) (cellsO (.cons (.cons oe oc) orr) p).toArray) := by rw [ea]; exact T.b0
 have HW := hI T.bel
 try rw [← vO_cells ea]
 clear T ea 
 have KP := hI (Kp.of HW.out HB.out)
 replace KA := hI (KA.out.kp KP.out)
 replace OB := hI (OB.out.kept HW.out)
 replace HB := hI (Nat.le_trans HB.out HW.out.size)
 clear HW
 with_reducible refine (isFinH (.cons (.cons oe oc) orr) p _ false rfl).mono ?_
 rintro e w1 ⟨rfl, hb⟩
 replace B0 := kB B0 hb
 replace KP := hI (KP.out.trans (Kp.of hb HB.out))
 replace KA := hI (KA.out.kp (Kp.of hb HB.out))
 replace OB := hI (OB.out.kept hb)
 replace HB := hI (Nat.le_trans HB.out hb.size)
 clear hb
 go_wp2_with (with_reducible refine lG (.tmp 3) B0.out ?_)
 with_reducible refine (partsS oe oc orr p _ (fun b => b < B) (fun b hb => Nat.lt_of_lt_of_le hb HB.out) (pb_pair KA.out)).mono ?_
 rintro e w2 ⟨q0, q1, q2, rfl, k0, k1, k2, hb⟩
 replace B0 := kB B0 hb
 replace KP := hI (KP.out.trans (Kp.of hb HB.out))
 replace KA := hI (KA.out.kp (Kp.of hb HB.out))
 replace OB := hI (OB.out.kept hb)
 replace HB := hI (Nat.le_trans HB.out hb.size)
 clear hb
 replace k0 := hI k0
 replace k1 := hI k1
 replace k2 := hI k2
 replace k0 : Hid (Pb B w2 oe q0) := k0
 replace k1 : Hid (Pb B w2 oc q1) := k1
 replace k2 : Hid (Pb B w2 orr q2) := k2
 have T := hI (Bx3.new w2 #[.int .i64 0, .string ⟨#[]⟩, .string ⟨#[]⟩, .string ⟨#[]⟩, .string ⟨#[]⟩, .string ⟨#[]⟩, .slice none 0 0] #[.int .i64 0, .string ⟨#[]⟩, .string ⟨#[]⟩, .string ⟨#[]⟩, .string ⟨#[]⟩, .string ⟨#[]⟩, .slice none 0 0] #[.int .i64 0, .string ⟨#[]⟩, .string ⟨#[]⟩, .string ⟨#[]⟩, .string ⟨#[]⟩, .string ⟨#[]⟩, .slice none 0 0])
 go_wp2_with (first | (with_reducible refine sB (.tmp 5) (.tmp 17) (k0.out.hd HB.out) T.out.b0 ?_) | (with_reducible refine sB (.tmp 6) (.tmp 18) (k1.out.hd HB.out) T.out.n1 ?_) | (with_reducible refine sB (.tmp 7) (.tmp 19) (k2.out.hd HB.out) T.out.n2 ?_; have P := Pt3.new (w := w2) (o0 := oe) (o1 := oc) (o2 := orr) (p0 := q0) (p1 := q1) (p2 := q2) (z0 := #[.int .i64 0, .string ⟨#[]⟩, .string ⟨#[]⟩, .string ⟨#[]⟩, .string ⟨#[]⟩, .string ⟨#[]⟩, .slice none 0 0]) (z1 := #[.int .i64 0, .string ⟨#[]⟩, .string ⟨#[]⟩, .string ⟨#[]⟩, .string ⟨#[]⟩, .string ⟨#[]⟩, .slice none 0 0]) (z2 := #[.int .i64 0, .string ⟨#[]⟩, .string ⟨#[]⟩, .string ⟨#[]⟩, .string ⟨#[]⟩, .string ⟨#[]⟩, .slice none 0 0]); generalize World.setRow (World.setRow (World.setRow (((w2.alloc (.cells #[.int .i64 0, .string ⟨#[]⟩, .string ⟨#[]⟩, .string ⟨#[]⟩, .string ⟨#[]⟩, .string ⟨#[]⟩, .slice none 0 0] 35)).alloc (.cells #[.int .i64 0, .string ⟨#[]⟩, .string ⟨#[]⟩, .string ⟨#[]⟩, .string ⟨#[]⟩, .string ⟨#[]⟩, .slice none 0 0] 35)).alloc (.cells #[.int .i64 0, .string ⟨#[]⟩, .string ⟨#[]⟩, .string ⟨#[]⟩, .string ⟨#[]⟩, .string ⟨#[]⟩, .slice none 0 0] 35)) (w2.heap.size) (cellsO (oe) q0).toArray) (w2.heap.size + 1) (cellsO (oc) q1).toArray) (w2.heap.size + 1 + 1) (cellsO (orr) q2).toArray = X2 at P ⊢; have hb := P.bel; replace B0 := kB B0 hb; replace KP := hI (KP.out.trans (Kp.of hb HB.out)); replace KA := hI (KA.out.kp (Kp.of hb HB.out)); replace OB := hI (OB.out.kept hb); replace k0 := hI (k0.out.kp (Kp.of hb HB.out)); replace k1 := hI (k1.out.kp (Kp.of hb HB.out)); replace k2 := hI (k2.out.kp (Kp.of hb HB.out)); replace HB := hI (Nat.le_trans HB.out hb.size); have D0 := hI P.b0; have D1 := hI P.b1; have D2 := hI P.b2; clear P hb T; have hal := hI (show Below X2.heap.size X2 (X2.alloc (.cells #[.int .u8 119] 5)) from Below.alloc (Below.refl _ _) (Nat.le_refl _) _); have hnw := hI (show (X2.alloc (.cells #[.int .u8 119] 5)).heap[X2.heap.size]? = some (.cells #[.int .u8 ((119 : UInt8).toNat : Int)] 5 (0, 0)) from heap_alloc_new X2 _); have hob := hI (OB.out.kept hal.out)) | (at_builtin; refine appByte rfl (.tmp 20) (.tmp 21) rfl rfl hob.out 119 X2.heap.size 1 rfl hnw.out (by have := HL.out; (try simp only [List.length_append, List.length_cons, List.length_nil]); omega) (Nat.le_trans HB.out hal.out.size) ?_) | (with_reducible refine lG (.tmp 3) B0.out ?_) | (with_reducible refine lG (.tmp 5) D0.out ?_) | (with_reducible refine lG (.tmp 6) D1.out ?_) | (with_reducible refine lG (.tmp 7) D2.out ?_))
 intro v3 x3 h3 j3
 have k3 := (Kp.of hal.out HB.out).trans j3
 replace B0 := hI (B0.out.kp k3)
 replace KP := hI (KP.out.trans k3)
 replace KA := hI (KA.out.kp k3)
 replace k0 := hI (k0.out.kp k3)
 replace k1 := hI (k1.out.kp k3)
 replace k2 := hI (k2.out.kp k3)
 replace D0 := hI (D0.out.kp k3)
 replace D1 := hI (D1.out.kp k3)
 replace D2 := hI (D2.out.kp k3)
 replace HB := hI (Nat.le_trans HB.out k3.bel.size)
 replace OB := hI h3
 clear hal hnw hob k3 j3 h3
 go_wp2_with (first | (with_reducible refine lG (.tmp 3) B0.out ?_) | (with_reducible refine lG (.tmp 5) D0.out ?_) | (with_reducible refine lG (.tmp 6) D1.out ?_) | (with_reducible refine lG (.tmp 7) D2.out ?_))
 with_reducible refine (isFinH oe q0 _ true FE.out).mono ?_
 rintro e w4 ⟨rfl, hb⟩
 replace B0 := kB B0 hb
 replace KP := hI (KP.out.trans (Kp.of hb HB.out))
 replace KA := hI (KA.out.kp (Kp.of hb HB.out))
 replace OB := hI (OB.out.kept hb)
 replace k0 := hI (k0.out.kp (Kp.of hb HB.out))
 replace k1 := hI (k1.out.kp (Kp.of hb HB.out))
 replace k2 := hI (k2.out.kp (Kp.of hb HB.out))
 replace D0 := kB D0 hb
 replace D1 := kB D1 hb
 replace D2 := kB D2 hb
 replace HB := hI (Nat.le_trans HB.out hb.size)
 clear hb
 go_wp2_with (first | (with_reducible refine lG (.tmp 3) B0.out ?_) | (with_reducible refine lG (.tmp 5) D0.out ?_) | (with_reducible refine lG (.tmp 6) D1.out ?_) | (with_reducible refine lG (.tmp 7) D2.out ?_))
 with_reducible refine (isOneH oe q0 _ true OE.out).mono ?_
 rintro e w5 ⟨rfl, hb⟩
 replace B0 := kB B0 hb
 replace KP := hI (KP.out.trans (Kp.of hb HB.out))
 replace KA := hI (KA.out.kp (Kp.of hb HB.out))
 replace OB := hI (OB.out.kept hb)
 replace k0 := hI (k0.out.kp (Kp.of hb HB.out))
 replace k1 := hI (k1.out.kp (Kp.of hb HB.out))
 replace k2 := hI (k2.out.kp (Kp.of hb HB.out))
 replace D0 := kB D0 hb
 replace D1 := kB D1 hb
 replace D2 := kB D2 hb
 replace HB := hI (Nat.le_trans HB.out hb.size)
 clear hb
 go_wp2_with (first | (with_reducible refine lG (.tmp 3) B0.out ?_) | (with_reducible refine lG (.tmp 5) D0.out ?_) | (with_reducible refine lG (.tmp 6) D1.out ?_) | (with_reducible refine lG (.tmp 7) D2.out ?_))
 with_reducible refine (isOneH oc q1 _ true OC.out).mono ?_
 rintro e w6 ⟨rfl, hb⟩
 replace B0 := kB B0 hb
 replace KP := hI (KP.out.trans (Kp.of hb HB.out))
 replace KA := hI (KA.out.kp (Kp.of hb HB.out))
 replace OB := hI (OB.out.kept hb)
 replace k0 := hI (k0.out.kp (Kp.of hb HB.out))
 replace k1 := hI (k1.out.kp (Kp.of hb HB.out))
 replace k2 := hI (k2.out.kp (Kp.of hb HB.out))
 replace D0 := kB D0 hb
 replace D1 := kB D1 hb
 replace D2 := kB D2 hb
 replace HB := hI (Nat.le_trans HB.out hb.size)
 clear hb
 go_wp2_with (first | (with_reducible refine lG (.tmp 3) B0.out ?_) | (with_reducible refine lG (.tmp 5) D0.out ?_) | (with_reducible refine lG (.tmp 6) D1.out ?_) | (with_reducible refine lG (.tmp 7) D2.out ?_))
 with_reducible refine (isZeroH orr q2 _ true ZR.out).mono ?_
 rintro e w7 ⟨rfl, hb⟩
 replace B0 := kB B0 hb
 replace KP := hI (KP.out.trans (Kp.of hb HB.out))
 replace KA := hI (KA.out.kp (Kp.of hb HB.out))
 replace OB := hI (OB.out.kept hb)
 replace k0 := hI (k0.out.kp (Kp.of hb HB.out))
 replace k1 := hI (k1.out.kp (Kp.of hb HB.out))
 replace k2 := hI (k2.out.kp (Kp.of hb HB.out))
 replace D0 := kB D0 hb
 replace D1 := kB D1 hb
 replace D2 := kB D2 hb
 replace HB := hI (Nat.le_trans HB.out hb.size)
 clear hb
 go_wp2_with (first | (with_reducible refine lG (.tmp 3) B0.out ?_) | (with_reducible refine lG (.tmp 5) D0.out ?_) | (with_reducible refine lG (.tmp 6) D1.out ?_) | (with_reducible refine lG (.tmp 7) D2.out ?_))
 go_ret
 exact ⟨v3, rfl, OB.out, KP.out⟩
theorem app_one1r (oe oc orr : Ob) (te tc tr : List UInt8) (ne nc nr : Nat) (p bu : Value) (w : World) (B : Nat) (l : List UInt8) (ho : OwnB w B bu l) (hB : B ≤ w.heap.size) (hl : l.length + ne + nc + nr + 100 ≤ 1000000000000 ∧ te.length ≤ ne ∧ tc.length ≤ nc ∧ tr.length ≤ nr) (hp : Pb B w (.cons (.cons oe oc) orr) p)
 (iE : ∀ X bu l q, B ≤ X.heap.size → OwnB X B bu l → l.length + ne ≤ 1000000000000 → Pb B X oe q → Calls Tryz.prog 30 #[bu, vO oe q] X (RetA X B (l ++ te))) (iC : ∀ X bu l q, B ≤ X.heap.size → OwnB X B bu l → l.length + nc ≤ 1000000000000 → Pb B X oc q → Calls Tryz.prog 30 #[bu, vO oc q] X (RetA X B (l ++ tc))) (iR : ∀ X bu l q, B ≤ X.heap.size → OwnB X B bu l → l.length + nr ≤ 1000000000000 → Pb B X orr q → Calls Tryz.prog 30 #[bu, vO orr q] X (RetA X B (l ++ tr))) (fE : oe.isNum = true) (oE : oe.numIs 1 = true) (oC : oc.numIs 1 = true) (zR : orr.numIs 0 = false) :
 Calls Tryz.prog 30 #[bu, vO (.cons (.cons oe oc) orr) p] w (RetA w B (((l ++ [119]) ++ [32, 43, 32]) ++ tr)) := by
 have OB := hI ho
 clear ho
 have HL := hI hl
 clear hl
 have HB := hI hB
 clear hB
 have KA := hI hp
 clear hp
 have IE := hI iE
 clear iE
 have IR := hI iR
 clear iR
 have IC := hI iC
 clear iC
 have FE := hI fE
 clear fE
 have OE := hI oE
 clear oE
 have OC := hI oC
 clear oC
 have ZR := hI zR
 clear zR
 obtain ⟨a0, a1, a2, a3, a4, a5, ea⟩ := cells7 (.cons (.cons oe oc) orr) p
 have T := Bx1.new w #[a0, a1, a2, a3, a4, a5, p]
 rw [vO_cells ea]
 go_enter Tryz.func30, Tryz.ntmps30
 go_wp2_with fail
 generalize w.alloc (.cells #[a0, a1, a2, a3, a4, a5, p] 35) = W at T ⊢
 have B0 : Hid (Bx W (w.heap.size) (cellsO (.cons (.cons oe oc) orr) p).toArray) := by rw [ea]; exact T.b0
 have HW := hI T.bel
 try rw [← vO_cells ea]
 clear T ea 
 have KP := hI (Kp.of HW.out HB.out)
 replace KA := hI (KA.out.kp KP.out)
 replace OB := hI (OB.out.kept HW.out)
 replace HB := hI (Nat.le_trans HB.out HW.out.size)
 clear HW
 with_reducible refine (isFinH (.cons (.cons oe oc) orr) p _ false rfl).mono ?_
 rintro e w1 ⟨rfl, hb⟩
 replace B0 := kB B0 hb
 replace KP := hI (KP.out.trans (Kp.of hb HB.out))
 replace KA := hI (KA.out.kp (Kp.of hb HB.out))
 replace OB := hI (OB.out.kept hb)
 replace HB := hI (Nat.le_trans HB.out hb.size)
 clear hb
 go_wp2_with (with_reducible refine lG (.tmp 3) B0.out ?_)
 with_reducible refine (partsS oe oc orr p _ (fun b => b < B) (fun b hb => Nat.lt_of_lt_of_le hb HB.out) (pb_pair KA.out)).mono ?_
 rintro e w2 ⟨q0, q1, q2, rfl, k0, k1, k2, hb⟩
 replace B0 := kB B0 hb
 replace KP := hI (KP.out.trans (Kp.of hb HB.out))
 replace KA := hI (KA.out.kp (Kp.of hb HB.out))
 replace OB := hI (OB.out.kept hb)
 replace HB := hI (Nat.le_trans HB.out hb.size)
 clear hb
 replace k0 := hI k0
 replace k1 := hI k1
 replace k2 := hI k2
 replace k0 : Hid (Pb B w2 oe q0) := k0
 replace k1 : Hid (Pb B w2 oc q1) := k1
 replace k2 : Hid (Pb B w2 orr q2) := k2
 have T := hI (Bx3.new w2 #[.int .i64 0, .string ⟨#[]⟩, .string ⟨#[]⟩, .string ⟨#[]⟩, .string ⟨#[]⟩, .string ⟨#[]⟩, .slice none 0 0] #[.int .i64 0, .string ⟨#[]⟩, .string ⟨#[]⟩, .string ⟨#[]⟩, .string ⟨#[]⟩, .string ⟨#[]⟩, .slice none 0 0] #[.int .i64 0, .string ⟨#[]⟩, .string ⟨#[]⟩, .string ⟨#[]⟩, .string ⟨#[]⟩, .string ⟨#[]⟩, .slice none 0 0])
 go_wp2_with (first | (with_reducible refine sB (.tmp 5) (.tmp 17) (k0.out.hd HB.out) T.out.b0 ?_) | (with_reducible refine sB (.tmp 6) (.tmp 18) (k1.out.hd HB.out) T.out.n1 ?_) | (with_reducible refine sB (.tmp 7) (.tmp 19) (k2.out.hd HB.out) T.out.n2 ?_; have P := Pt3.new (w := w2) (o0 := oe) (o1 := oc) (o2 := orr) (p0 := q0) (p1 := q1) (p2 := q2) (z0 := #[.int .i64 0, .string ⟨#[]⟩, .string ⟨#[]⟩, .string ⟨#[]⟩, .string ⟨#[]⟩, .string ⟨#[]⟩, .slice none 0 0]) (z1 := #[.int .i64 0, .string ⟨#[]⟩, .string ⟨#[]⟩, .string ⟨#[]⟩, .string ⟨#[]⟩, .string ⟨#[]⟩, .slice none 0 0]) (z2 := #[.int .i64 0, .string ⟨#[]⟩, .string ⟨#[]⟩, .string ⟨#[]⟩, .string ⟨#[]⟩, .string ⟨#[]⟩, .slice none 0 0]); generalize World.setRow (World.setRow (World.setRow (((w2.alloc (.cells #[.int .i64 0, .string ⟨#[]⟩, .string ⟨#[]⟩, .string ⟨#[]⟩, .string ⟨#[]⟩, .string ⟨#[]⟩, .slice none 0 0] 35)).alloc (.cells #[.int .i64 0, .string ⟨#[]⟩, .string ⟨#[]⟩, .string ⟨#[]⟩, .string ⟨#[]⟩, .string ⟨#[]⟩, .slice none 0 0] 35)).alloc (.cells #[.int .i64 0, .string ⟨#[]⟩, .string ⟨#[]⟩, .string ⟨#[]⟩, .string ⟨#[]⟩, .string ⟨#[]⟩, .slice none 0 0] 35)) (w2.heap.size) (cellsO (oe) q0).toArray) (w2.heap.size + 1) (cellsO (oc) q1).toArray) (w2.heap.size + 1 + 1) (cellsO (orr) q2).toArray = X2 at P ⊢; have hb := P.bel; replace B0 := kB B0 hb; replace KP := hI (KP.out.trans (Kp.of hb HB.out)); replace KA := hI (KA.out.kp (Kp.of hb HB.out)); replace OB := hI (OB.out.kept hb); replace k0 := hI (k0.out.kp (Kp.of hb HB.out)); replace k1 := hI (k1.out.kp (Kp.of hb HB.out)); replace k2 := hI (k2.out.kp (Kp.of hb HB.out)); replace HB := hI (Nat.le_trans HB.out hb.size); have D0 := hI P.b0; have D1 := hI P.b1; have D2 := hI P.b2; clear P hb T; have hal := hI (show Below X2.heap.size X2 (X2.alloc (.cells #[.int .u8 119] 5)) from Below.alloc (Below.refl _ _) (Nat.le_refl _) _); have hnw := hI (show (X2.alloc (.cells #[.int .u8 119] 5)).heap[X2.heap.size]? = some (.cells #[.int .u8 ((119 : UInt8).toNat : Int)] 5 (0, 0)) from heap_alloc_new X2 _); have hob := hI (OB.out.kept hal.out)) | (at_builtin; refine appByte rfl (.tmp 20) (.tmp 21) rfl rfl hob.out 119 X2.heap.size 1 rfl hnw.out (by have := HL.out; (try simp only [List.length_append, List.length_cons, List.length_nil]); omega) (Nat.le_trans HB.out hal.out.size) ?_) | (with_reducible refine lG (.tmp 3) B0.out ?_) | (with_reducible refine lG (.tmp 5) D0.out ?_) | (with_reducible refine lG (.tmp 6) D1.out ?_) | (with_reducible refine lG (.tmp 7) D2.out ?_))
 intro v3 x3 h3 j3
 have k3 := (Kp.of hal.out HB.out).trans j3
 replace B0 := hI (B0.out.kp k3)
 replace KP := hI (KP.out.trans k3)
 replace KA := hI (KA.out.kp k3)
 replace k0 := hI (k0.out.kp k3)
 replace k1 := hI (k1.out.kp k3)
 replace k2 := hI (k2.out.kp k3)
 replace D0 := hI (D0.out.kp k3)
 replace D1 := hI (D1.out.kp k3)
 replace D2 := hI (D2.out.kp k3)
 replace HB := hI (Nat.le_trans HB.out k3.bel.size)
 replace OB := hI h3
 clear hal hnw hob k3 j3 h3
 go_wp2_with (first | (with_reducible refine lG (.tmp 3) B0.out ?_) | (with_reducible refine lG (.tmp 5) D0.out ?_) | (with_reducible refine lG (.tmp 6) D1.out ?_) | (with_reducible refine lG (.tmp 7) D2.out ?_))
 with_reducible refine (isFinH oe q0 _ true FE.out).mono ?_
 rintro e w4 ⟨rfl, hb⟩
 replace B0 := kB B0 hb
 replace KP := hI (KP.out.trans (Kp.of hb HB.out))
 replace KA := hI (KA.out.kp (Kp.of hb HB.out))
 replace OB := hI (OB.out.kept hb)
 replace k0 := hI (k0.out.kp (Kp.of hb HB.out))
 replace k1 := hI (k1.out.kp (Kp.of hb HB.out))
 replace k2 := hI (k2.out.kp (Kp.of hb HB.out))
 replace D0 := kB D0 hb
 replace D1 := kB D1 hb
 replace D2 := kB D2 hb
 replace HB := hI (Nat.le_trans HB.out hb.size)
 clear hb
 go_wp2_with (first | (with_reducible refine lG (.tmp 3) B0.out ?_) | (with_reducible refine lG (.tmp 5) D0.out ?_) | (with_reducible refine lG (.tmp 6) D1.out ?_) | (with_reducible refine lG (.tmp 7) D2.out ?_))
 with_reducible refine (isOneH oe q0 _ true OE.out).mono ?_
 rintro e w5 ⟨rfl, hb⟩
 replace B0 := kB B0 hb
 replace KP := hI (KP.out.trans (Kp.of hb HB.out))
 replace KA := hI (KA.out.kp (Kp.of hb HB.out))
 replace OB := hI (OB.out.kept hb)
 replace k0 := hI (k0.out.kp (Kp.of hb HB.out))
 replace k1 := hI (k1.out.kp (Kp.of hb HB.out))
 replace k2 := hI (k2.out.kp (Kp.of hb HB.out))
 replace D0 := kB D0 hb
 replace D1 := kB D1 hb
 replace D2 := kB D2 hb
 replace HB := hI (Nat.le_trans HB.out hb.size)
 clear hb
 go_wp2_with (first | (with_reducible refine lG (.tmp 3) B0.out ?_) | (with_reducible refine lG (.tmp 5) D0.out ?_) | (with_reducible refine lG (.tmp 6) D1.out ?_) | (with_reducible refine lG (.tmp 7) D2.out ?_))
 with_reducible refine (isOneH oc q1 _ true OC.out).mono ?_
 rintro e w6 ⟨rfl, hb⟩
 replace B0 := kB B0 hb
 replace KP := hI (KP.out.trans (Kp.of hb HB.out))
 replace KA := hI (KA.out.kp (Kp.of hb HB.out))
 replace OB := hI (OB.out.kept hb)
 replace k0 := hI (k0.out.kp (Kp.of hb HB.out))
 replace k1 := hI (k1.out.kp (Kp.of hb HB.out))
 replace k2 := hI (k2.out.kp (Kp.of hb HB.out))
 replace D0 := kB D0 hb
 replace D1 := kB D1 hb
 replace D2 := kB D2 hb
 replace HB := hI (Nat.le_trans HB.out hb.size)
 clear hb
 go_wp2_with (first | (with_reducible refine lG (.tmp 3) B0.out ?_) | (with_reducible refine lG (.tmp 5) D0.out ?_) | (with_reducible refine lG (.tmp 6) D1.out ?_) | (with_reducible refine lG (.tmp 7) D2.out ?_))
 with_reducible refine (isZeroH orr q2 _ false ZR.out).mono ?_
 rintro e w7 ⟨rfl, hb⟩
 replace B0 := kB B0 hb
 replace KP := hI (KP.out.trans (Kp.of hb HB.out))
 replace KA := hI (KA.out.kp (Kp.of hb HB.out))
 replace OB := hI (OB.out.kept hb)
 replace k0 := hI (k0.out.kp (Kp.of hb HB.out))
 replace k1 := hI (k1.out.kp (Kp.of hb HB.out))
 replace k2 := hI (k2.out.kp (Kp.of hb HB.out))
 replace D0 := kB D0 hb
 replace D1 := kB D1 hb
 replace D2 := kB D2 hb
 replace HB := hI (Nat.le_trans HB.out hb.size)
 clear hb
 go_wp2_with (first | (at_builtin; refine appStr rfl (.tmp 57) (.const (.string ⟨#[32, 43, 32]⟩)) rfl rfl OB.out [32, 43, 32] rfl (by have := HL.out; (try simp only [List.length_append, List.length_cons, List.length_nil]); omega) HB.out ?_) | (with_reducible refine lG (.tmp 3) B0.out ?_) | (with_reducible refine lG (.tmp 5) D0.out ?_) | (with_reducible refine lG (.tmp 6) D1.out ?_) | (with_reducible refine lG (.tmp 7) D2.out ?_))
 intro v8 x8 h8 k8
 replace B0 := hI (B0.out.kp k8)
 replace KP := hI (KP.out.trans k8)
 replace KA := hI (KA.out.kp k8)
 replace k0 := hI (k0.out.kp k8)
 replace k1 := hI (k1.out.kp k8)
 replace k2 := hI (k2.out.kp k8)
 replace D0 := hI (D0.out.kp k8)
 replace D1 := hI (D1.out.kp k8)
 replace D2 := hI (D2.out.kp k8)
 replace HB := hI (Nat.le_trans HB.out k8.bel.size)
 replace OB : Hid (OwnB x8 B v8 ((l ++ [119]) ++ [32, 43, 32])) := by
  have z := h8
  show OwnB _ _ _ _
  (try simp only [List.append_assoc, List.cons_append, List.nil_append] at z ⊢)
  exact z
 clear k8 h8
 go_wp2_with (first | (with_reducible refine lG (.tmp 3) B0.out ?_) | (with_reducible refine lG (.tmp 5) D0.out ?_) | (with_reducible refine lG (.tmp 6) D1.out ?_) | (with_reducible refine lG (.tmp 7) D2.out ?_))
 with_reducible refine (IR.out _ v8 ((l ++ [119]) ++ [32, 43, 32]) q2 HB.out OB.out (by have := HL.out; (try simp only [List.length_append, List.length_cons, List.length_nil]); omega) k2.out).mono ?_
 rintro e x9 ⟨v9, rfl, h9, k9⟩
 replace B0 := hI (B0.out.kp k9)
 replace KP := hI (KP.out.trans k9)
 replace KA := hI (KA.out.kp k9)
 replace k0 := hI (k0.out.kp k9)
 replace k1 := hI (k1.out.kp k9)
 replace k2 := hI (k2.out.kp k9)
 replace D0 := hI (D0.out.kp k9)
 replace D1 := hI (D1.out.kp k9)
 replace D2 := hI (D2.out.kp k9)
 replace HB := hI (Nat.le_trans HB.out k9.bel.size)
 replace OB : Hid (OwnB x9 B v9 (((l ++ [119]) ++ [32, 43, 32]) ++ tr)) := by
  have z := h9
  show OwnB _ _ _ _
  (try simp only [List.append_assoc, List.cons_append, List.nil_append] at z ⊢)
  exact z
 clear k9 h9
 go_wp2_with (first | (with_reducible refine lG (.tmp 3) B0.out ?_) | (with_reducible refine lG (.tmp 5) D0.out ?_) | (with_reducible refine lG (.tmp 6) D1.out ?_) | (with_reducible refine lG (.tmp 7) D2.out ?_))
 go_ret
 exact ⟨v9, rfl, OB.out, KP.out⟩
theorem app_onec0 (oe oc orr : Ob) (te tc tr : List UInt8) (ne nc nr : Nat) (p bu : Value) (w : World) (B : Nat) (l : List UInt8) (ho : OwnB w B bu l) (hB : B ≤ w.heap.size) (hl : l.length + ne + nc + nr + 100 ≤ 1000000000000 ∧ te.length ≤ ne ∧ tc.length ≤ nc ∧ tr.length ≤ nr) (hp : Pb B w (.cons (.cons oe oc) orr) p)
 (iE : ∀ X bu l q, B ≤ X.heap.size → OwnB X B bu l → l.length + ne ≤ 1000000000000 → Pb B X oe q → Calls Tryz.prog 30 #[bu, vO oe q] X (RetA X B (l ++ te))) (iC : ∀ X bu l q, B ≤ X.heap.size → OwnB X B bu l → l.length + nc ≤ 1000000000000 → Pb B X oc q → Calls Tryz.prog 30 #[bu, vO oc q] X (RetA X B (l ++ tc))) (iR : ∀ X bu l q, B ≤ X.heap.size → OwnB X B bu l → l.length + nr ≤ 1000000000000 → Pb B X orr q → Calls Tryz.prog 30 #[bu, vO orr q] X (RetA X B (l ++ tr))) (fE : oe.isNum = true) (oE : oe.numIs 1 = true) (oC : oc.numIs 1 = false) (zR : orr.numIs 0 = true) :
 Calls Tryz.prog 30 #[bu, vO (.cons (.cons oe oc) orr) p] w (RetA w B (((l ++ [119]) ++ [42]) ++ tc)) := by
 have OB := hI ho
 clear ho
 have HL := hI hl
 clear hl
 have HB := hI hB
 clear hB
 have KA := hI hp
 clear hp
 have IE := hI iE
 clear iE
 have IR := hI iR
 clear iR
 have IC := hI iC
 clear iC
 have FE := hI fE
 clear fE
 have OE := hI oE
 clear oE
 have OC := hI oC
 clear oC
 have ZR := hI zR
 clear zR
 obtain ⟨a0, a1, a2, a3, a4, a5, ea⟩ := cells7 (.cons (.cons oe oc) orr) p
 have T := Bx1.new w #[a0, a1, a2, a3, a4, a5, p]
 rw [vO_cells ea]
 go_enter Tryz.func30, Tryz.ntmps30
 go_wp2_with fail
 generalize w.alloc (.cells #[a0, a1, a2, a3, a4, a5, p] 35) = W at T ⊢
 have B0 : Hid (Bx W (w.heap.size) (cellsO (.cons (.cons oe oc) orr) p).toArray) := by rw [ea]; exact T.b0
 have HW := hI T.bel
 try rw [← vO_cells ea]
 clear T ea 
 have KP := hI (Kp.of HW.out HB.out)
 replace KA := hI (KA.out.kp KP.out)
 replace OB := hI (OB.out.kept HW.out)
 replace HB := hI (Nat.le_trans HB.out HW.out.size)
 clear HW
 with_reducible refine (isFinH (.cons (.cons oe oc) orr) p _ false rfl).mono ?_
 rintro e w1 ⟨rfl, hb⟩
 replace B0 := kB B0 hb
 replace KP := hI (KP.out.trans (Kp.of hb HB.out))
 replace KA := hI (KA.out.kp (Kp.of hb HB.out))
 replace OB := hI (OB.out.kept hb)
 replace HB := hI (Nat.le_trans HB.out hb.size)
 clear hb
 go_wp2_with (with_reducible refine lG (.tmp 3) B0.out ?_)
 with_reducible refine (partsS oe oc orr p _ (fun b => b < B) (fun b hb => Nat.lt_of_lt_of_le hb HB.out) (pb_pair KA.out)).mono ?_
 rintro e w2 ⟨q0, q1, q2, rfl, k0, k1, k2, hb⟩
 replace B0 := kB B0 hb
 replace KP := hI (KP.out.trans (Kp.of hb HB.out))
 replace KA := hI (KA.out.kp (Kp.of hb HB.out))
 replace OB := hI (OB.out.kept hb)
 replace HB := hI (Nat.le_trans HB.out hb.size)
 clear hb
 replace k0 := hI k0
 replace k1 := hI k1
 replace k2 := hI k2
 replace k0 : Hid (Pb B w2 oe q0) := k0
 replace k1 : Hid (Pb B w2 oc q1) := k1
 replace k2 : Hid (Pb B w2 orr q2) := k2
 have T := hI (Bx3.new w2 #[.int .i64 0, .string ⟨#[]⟩, .string ⟨#[]⟩, .string ⟨#[]⟩, .string ⟨#[]⟩, .string ⟨#[]⟩, .slice none 0 0] #[.int .i64 0, .string ⟨#[]⟩, .string ⟨#[]⟩, .string ⟨#[]⟩, .string ⟨#[]⟩, .string ⟨#[]⟩, .slice none 0 0] #[.int .i64 0, .string ⟨#[]⟩, .string ⟨#[]⟩, .string ⟨#[]⟩, .string ⟨#[]⟩, .string ⟨#[]⟩, .slice none 0 0])
 go_wp2_with (first | (with_reducible refine sB (.tmp 5) (.tmp 17) (k0.out.hd HB.out) T.out.b0 ?_) | (with_reducible refine sB (.tmp 6) (.tmp 18) (k1.out.hd HB.out) T.out.n1 ?_) | (with_reducible refine sB (.tmp 7) (.tmp 19) (k2.out.hd HB.out) T.out.n2 ?_; have P := Pt3.new (w := w2) (o0 := oe) (o1 := oc) (o2 := orr) (p0 := q0) (p1 := q1) (p2 := q2) (z0 := #[.int .i64 0, .string ⟨#[]⟩, .string ⟨#[]⟩, .string ⟨#[]⟩, .string ⟨#[]⟩, .string ⟨#[]⟩, .slice none 0 0]) (z1 := #[.int .i64 0, .string ⟨#[]⟩, .string ⟨#[]⟩, .string ⟨#[]⟩, .string ⟨#[]⟩, .string ⟨#[]⟩, .slice none 0 0]) (z2 := #[.int .i64 0, .string ⟨#[]⟩, .string ⟨#[]⟩, .string ⟨#[]⟩, .string ⟨#[]⟩, .string ⟨#[]⟩, .slice none 0 0]); generalize World.setRow (World.setRow (World.setRow (((w2.alloc (.cells #[.int .i64 0, .string ⟨#[]⟩, .string ⟨#[]⟩, .string ⟨#[]⟩, .string ⟨#[]⟩, .string ⟨#[]⟩, .slice none 0 0] 35)).alloc (.cells #[.int .i64 0, .string ⟨#[]⟩, .string ⟨#[]⟩, .string ⟨#[]⟩, .string ⟨#[]⟩, .string ⟨#[]⟩, .slice none 0 0] 35)).alloc (.cells #[.int .i64 0, .string ⟨#[]⟩, .string ⟨#[]⟩, .string ⟨#[]⟩, .string ⟨#[]⟩, .string ⟨#[]⟩, .slice none 0 0] 35)) (w2.heap.size) (cellsO (oe) q0).toArray) (w2.heap.size + 1) (cellsO (oc) q1).toArray) (w2.heap.size + 1 + 1) (cellsO (orr) q2).toArray = X2 at P ⊢; have hb := P.bel; replace B0 := kB B0 hb; replace KP := hI (KP.out.trans (Kp.of hb HB.out)); replace KA := hI (KA.out.kp (Kp.of hb HB.out)); replace OB := hI (OB.out.kept hb); replace k0 := hI (k0.out.kp (Kp.of hb HB.out)); replace k1 := hI (k1.out.kp (Kp.of hb HB.out)); replace k2 := hI (k2.out.kp (Kp.of hb HB.out)); replace HB := hI (Nat.le_trans HB.out hb.size); have D0 := hI P.b0; have D1 := hI P.b1; have D2 := hI P.b2; clear P hb T; have hal := hI (show Below X2.heap.size X2 (X2.alloc (.cells #[.int .u8 119] 5)) from Below.alloc (Below.refl _ _) (Nat.le_refl _) _); have hnw := hI (show (X2.alloc (.cells #[.int .u8 119] 5)).heap[X2.heap.size]? = some (.cells #[.int .u8 ((119 : UInt8).toNat : Int)] 5 (0, 0)) from heap_alloc_new X2 _); have hob := hI (OB.out.kept hal.out)) | (at_builtin; refine appByte rfl (.tmp 20) (.tmp 21) rfl rfl hob.out 119 X2.heap.size 1 rfl hnw.out (by have := HL.out; (try simp only [List.length_append, List.length_cons, List.length_nil]); omega) (Nat.le_trans HB.out hal.out.size) ?_) | (with_reducible refine lG (.tmp 3) B0.out ?_) | (with_reducible refine lG (.tmp 5) D0.out ?_) | (with_reducible refine lG (.tmp 6) D1.out ?_) | (with_reducible refine lG (.tmp 7) D2.out ?_))
 intro v3 x3 h3 j3
 have k3 := (Kp.of hal.out HB.out).trans j3
 replace B0 := hI (B0.out.kp k3)
 replace KP := hI (KP.out.trans k3)
 replace KA := hI (KA.out.kp k3)
 replace k0 := hI (k0.out.kp k3)
 replace k1 := hI (k1.out.kp k3)
 replace k2 := hI (k2.out.kp k3)
 replace D0 := hI (D0.out.kp k3)
 replace D1 := hI (D1.out.kp k3)
 replace D2 := hI (D2.out.kp k3)
 replace HB := hI (Nat.le_trans HB.out k3.bel.size)
 replace OB := hI h3
 clear hal hnw hob k3 j3 h3
 go_wp2_with (first | (with_reducible refine lG (.tmp 3) B0.out ?_) | (with_reducible refine lG (.tmp 5) D0.out ?_) | (with_reducible refine lG (.tmp 6) D1.out ?_) | (with_reducible refine lG (.tmp 7) D2.out ?_))
 with_reducible refine (isFinH oe q0 _ true FE.out).mono ?_
 rintro e w4 ⟨rfl, hb⟩
 replace B0 := kB B0 hb
 replace KP := hI (KP.out.trans (Kp.of hb HB.out))
 replace KA := hI (KA.out.kp (Kp.of hb HB.out))
 replace OB := hI (OB.out.kept hb)
 replace k0 := hI (k0.out.kp (Kp.of hb HB.out))
 replace k1 := hI (k1.out.kp (Kp.of hb HB.out))
 replace k2 := hI (k2.out.kp (Kp.of hb HB.out))
 replace D0 := kB D0 hb
 replace D1 := kB D1 hb
 replace D2 := kB D2 hb
 replace HB := hI (Nat.le_trans HB.out hb.size)
 clear hb
 go_wp2_with (first | (with_reducible refine lG (.tmp 3) B0.out ?_) | (with_reducible refine lG (.tmp 5) D0.out ?_) | (with_reducible refine lG (.tmp 6) D1.out ?_) | (with_reducible refine lG (.tmp 7) D2.out ?_))
 with_reducible refine (isOneH oe q0 _ true OE.out).mono ?_
 rintro e w5 ⟨rfl, hb⟩
 replace B0 := kB B0 hb
 replace KP := hI (KP.out.trans (Kp.of hb HB.out))
 replace KA := hI (KA.out.kp (Kp.of hb HB.out))
 replace OB := hI (OB.out.kept hb)
 replace k0 := hI (k0.out.kp (Kp.of hb HB.out))
 replace k1 := hI (k1.out.kp (Kp.of hb HB.out))
 replace k2 := hI (k2.out.kp (Kp.of hb HB.out))
 replace D0 := kB D0 hb
 replace D1 := kB D1 hb
 replace D2 := kB D2 hb
 replace HB := hI (Nat.le_trans HB.out hb.size)
 clear hb
 go_wp2_with (first | (with_reducible refine lG (.tmp 3) B0.out ?_) | (with_reducible refine lG (.tmp 5) D0.out ?_) | (with_reducible refine lG (.tmp 6) D1.out ?_) | (with_reducible refine lG (.tmp 7) D2.out ?_))
 with_reducible refine (isOneH oc q1 _ false OC.out).mono ?_
 rintro e w6 ⟨rfl, hb⟩
 replace B0 := kB B0 hb
 replace KP := hI (KP.out.trans (Kp.of hb HB.out))
 replace KA := hI (KA.out.kp (Kp.of hb HB.out))
 replace OB := hI (OB.out.kept hb)
 replace k0 := hI (k0.out.kp (Kp.of hb HB.out))
 replace k1 := hI (k1.out.kp (Kp.of hb HB.out))
 replace k2 := hI (k2.out.kp (Kp.of hb HB.out))
 replace D0 := kB D0 hb
 replace D1 := kB D1 hb
 replace D2 := kB D2 hb
 replace HB := hI (Nat.le_trans HB.out hb.size)
 clear hb
 have hal := hI (show Below w6.heap.size w6 (w6.alloc (.cells #[.int .u8 42] 5)) from Below.alloc (Below.refl _ _) (Nat.le_refl _) _)
 have hnw := hI (show (w6.alloc (.cells #[.int .u8 42] 5)).heap[w6.heap.size]? = some (.cells #[.int .u8 ((42 : UInt8).toNat : Int)] 5 (0, 0)) from heap_alloc_new w6 _)
 have hob := hI (OB.out.kept hal.out)
 go_wp2_with (first | (at_builtin; refine appByte rfl (.tmp 48) (.tmp 49) rfl rfl hob.out 42 w6.heap.size 1 rfl hnw.out (by have := HL.out; (try simp only [List.length_append, List.length_cons, List.length_nil]); omega) (Nat.le_trans HB.out hal.out.size) ?_) | (with_reducible refine lG (.tmp 3) B0.out ?_) | (with_reducible refine lG (.tmp 5) D0.out ?_) | (with_reducible refine lG (.tmp 6) D1.out ?_) | (with_reducible refine lG (.tmp 7) D2.out ?_))
 intro v7 x7 h7 j7
 have k7 := (Kp.of hal.out HB.out).trans j7
 replace B0 := hI (B0.out.kp k7)
 replace KP := hI (KP.out.trans k7)
 replace KA := hI (KA.out.kp k7)
 replace k0 := hI (k0.out.kp k7)
 replace k1 := hI (k1.out.kp k7)
 replace k2 := hI (k2.out.kp k7)
 replace D0 := hI (D0.out.kp k7)
 replace D1 := hI (D1.out.kp k7)
 replace D2 := hI (D2.out.kp k7)
 replace HB := hI (Nat.le_trans HB.out k7.bel.size)
 replace OB : Hid (OwnB x7 B v7 ((l ++ [119]) ++ [42])) := by
  have z := h7
  show OwnB _ _ _ _
  (try simp only [List.append_assoc, List.cons_append, List.nil_append] at z ⊢)
  exact z
 clear hal hnw hob k7 j7 h7
 go_wp2_with (first | (with_reducible refine lG (.tmp 3) B0.out ?_) | (with_reducible refine lG (.tmp 5) D0.out ?_) | (with_reducible refine lG (.tmp 6) D1.out ?_) | (with_reducible refine lG (.tmp 7) D2.out ?_))
 with_reducible refine (IC.out _ v7 ((l ++ [119]) ++ [42]) q1 HB.out OB.out (by have := HL.out; (try simp only [List.length_append, List.length_cons, List.length_nil]); omega) k1.out).mono ?_
 rintro e x8 ⟨v8, rfl, h8, k8⟩
 replace B0 := hI (B0.out.kp k8)
 replace KP := hI (KP.out.trans k8)
 replace KA := hI (KA.out.kp k8)
 replace k0 := hI (k0.out.kp k8)
 replace k1 := hI (k1.out.kp k8)
 replace k2 := hI (k2.out.kp k8)
 replace D0 := hI (D0.out.kp k8)
 replace D1 := hI (D1.out.kp k8)
 replace D2 := hI (D2.out.kp k8)
 replace HB := hI (Nat.le_trans HB.out k8.bel.size)
 replace OB : Hid (OwnB x8 B v8 (((l ++ [119]) ++ [42]) ++ tc)) := by
  have z := h8
  show OwnB _ _ _ _
  (try simp only [List.append_assoc, List.cons_append, List.nil_append] at z ⊢)
  exact z
 clear k8 h8
 go_wp2_with (first | (with_reducible refine lG (.tmp 3) B0.out ?_) | (with_reducible refine lG (.tmp 5) D0.out ?_) | (with_reducible refine lG (.tmp 6) D1.out ?_) | (with_reducible refine lG (.tmp 7) D2.out ?_))
 with_reducible refine (isZeroH orr q2 _ true ZR.out).mono ?_
 rintro e w9 ⟨rfl, hb⟩
 replace B0 := kB B0 hb
 replace KP := hI (KP.out.trans (Kp.of hb HB.out))
 replace KA := hI (KA.out.kp (Kp.of hb HB.out))
 replace OB := hI (OB.out.kept hb)
 replace k0 := hI (k0.out.kp (Kp.of hb HB.out))
 replace k1 := hI (k1.out.kp (Kp.of hb HB.out))
 replace k2 := hI (k2.out.kp (Kp.of hb HB.out))
 replace D0 := kB D0 hb
 replace D1 := kB D1 hb
 replace D2 := kB D2 hb
 replace HB := hI (Nat.le_trans HB.out hb.size)
 clear hb
 go_wp2_with (first | (with_reducible refine lG (.tmp 3) B0.out ?_) | (with_reducible refine lG (.tmp 5) D0.out ?_) | (with_reducible refine lG (.tmp 6) D1.out ?_) | (with_reducible refine lG (.tmp 7) D2.out ?_))
 go_ret
 exact ⟨v8, rfl, OB.out, KP.out⟩
theorem app_onecr (oe oc orr : Ob) (te tc tr : List UInt8) (ne nc nr : Nat) (p bu : Value) (w : World) (B : Nat) (l : List UInt8) (ho : OwnB w B bu l) (hB : B ≤ w.heap.size) (hl : l.length + ne + nc + nr + 100 ≤ 1000000000000 ∧ te.length ≤ ne ∧ tc.length ≤ nc ∧ tr.length ≤ nr) (hp : Pb B w (.cons (.cons oe oc) orr) p)
 (iE : ∀ X bu l q, B ≤ X.heap.size → OwnB X B bu l → l.length + ne ≤ 1000000000000 → Pb B X oe q → Calls Tryz.prog 30 #[bu, vO oe q] X (RetA X B (l ++ te))) (iC : ∀ X bu l q, B ≤ X.heap.size → OwnB X B bu l → l.length + nc ≤ 1000000000000 → Pb B X oc q → Calls Tryz.prog 30 #[bu, vO oc q] X (RetA X B (l ++ tc))) (iR : ∀ X bu l q, B ≤ X.heap.size → OwnB X B bu l → l.length + nr ≤ 1000000000000 → Pb B X orr q → Calls Tryz.prog 30 #[bu, vO orr q] X (RetA X B (l ++ tr))) (fE : oe.isNum = true) (oE : oe.numIs 1 = true) (oC : oc.numIs 1 = false) (zR : orr.numIs 0 = false) :
 Calls Tryz.prog 30 #[bu, vO (.cons (.cons oe oc) orr) p] w (RetA w B (((((l ++ [119]) ++ [42]) ++ tc) ++ [32, 43, 32]) ++ tr)) := by
 have OB := hI ho
 clear ho
 have HL := hI hl
 clear hl
 have HB := hI hB
 clear hB
 have KA := hI hp
 clear hp
 have IE := hI iE
 clear iE
 have IR := hI iR
 clear iR
 have IC := hI iC
 clear iC
 have FE := hI fE
 clear fE
 have OE := hI oE
 clear oE
 have OC := hI oC
 clear oC
 have ZR := hI zR
 clear zR
 obtain ⟨a0, a1, a2, a3, a4, a5, ea⟩ := cells7 (.cons (.cons oe oc) orr) p
 have T := Bx1.new w #[a0, a1, a2, a3, a4, a5, p]
 rw [vO_cells ea]
 go_enter Tryz.func30, Tryz.ntmps30
 go_wp2_with fail
 generalize w.alloc (.cells #[a0, a1, a2, a3, a4, a5, p] 35) = W at T ⊢
 have B0 : Hid (Bx W (w.heap.size) (cellsO (.cons (.cons oe oc) orr) p).toArray) := by rw [ea]; exact T.b0
 have HW := hI T.bel
 try rw [← vO_cells ea]
 clear T ea 
 have KP := hI (Kp.of HW.out HB.out)
 replace KA := hI (KA.out.kp KP.out)
 replace OB := hI (OB.out.kept HW.out)
 replace HB := hI (Nat.le_trans HB.out HW.out.size)
 clear HW
 with_reducible refine (isFinH (.cons (.cons oe oc) orr) p _ false rfl).mono ?_
 rintro e w1 ⟨rfl, hb⟩
 replace B0 := kB B0 hb
 replace KP := hI (KP.out.trans (Kp.of hb HB.out))
 replace KA := hI (KA.out.kp (Kp.of hb HB.out))
 replace OB := hI (OB.out.kept hb)
 replace HB := hI (Nat.le_trans HB.out hb.size)
 clear hb
 go_wp2_with (with_reducible refine lG (.tmp 3) B0.out ?_)
 with_reducible refine (partsS oe oc orr p _ (fun b => b < B) (fun b hb => Nat.lt_of_lt_of_le hb HB.out) (pb_pair KA.out)).mono ?_
 rintro e w2 ⟨q0, q1, q2, rfl, k0, k1, k2, hb⟩
 replace B0 := kB B0 hb
 replace KP := hI (KP.out.trans (Kp.of hb HB.out))
 replace KA := hI (KA.out.kp (Kp.of hb HB.out))
 replace OB := hI (OB.out.kept hb)
 replace HB := hI (Nat.le_trans HB.out hb.size)
 clear hb
 replace k0 := hI k0
 replace k1 := hI k1
 replace k2 := hI k2
 replace k0 : Hid (Pb B w2 oe q0) := k0
 replace k1 : Hid (Pb B w2 oc q1) := k1
 replace k2 : Hid (Pb B w2 orr q2) := k2
 have T := hI (Bx3.new w2 #[.int .i64 0, .string ⟨#[]⟩, .string ⟨#[]⟩, .string ⟨#[]⟩, .string ⟨#[]⟩, .string ⟨#[]⟩, .slice none 0 0] #[.int .i64 0, .string ⟨#[]⟩, .string ⟨#[]⟩, .string ⟨#[]⟩, .string ⟨#[]⟩, .string ⟨#[]⟩, .slice none 0 0] #[.int .i64 0, .string ⟨#[]⟩, .string ⟨#[]⟩, .string ⟨#[]⟩, .string ⟨#[]⟩, .string ⟨#[]⟩, .slice none 0 0])
 go_wp2_with (first | (with_reducible refine sB (.tmp 5) (.tmp 17) (k0.out.hd HB.out) T.out.b0 ?_) | (with_reducible refine sB (.tmp 6) (.tmp 18) (k1.out.hd HB.out) T.out.n1 ?_) | (with_reducible refine sB (.tmp 7) (.tmp 19) (k2.out.hd HB.out) T.out.n2 ?_; have P := Pt3.new (w := w2) (o0 := oe) (o1 := oc) (o2 := orr) (p0 := q0) (p1 := q1) (p2 := q2) (z0 := #[.int .i64 0, .string ⟨#[]⟩, .string ⟨#[]⟩, .string ⟨#[]⟩, .string ⟨#[]⟩, .string ⟨#[]⟩, .slice none 0 0]) (z1 := #[.int .i64 0, .string ⟨#[]⟩, .string ⟨#[]⟩, .string ⟨#[]⟩, .string ⟨#[]⟩, .string ⟨#[]⟩, .slice none 0 0]) (z2 := #[.int .i64 0, .string ⟨#[]⟩, .string ⟨#[]⟩, .string ⟨#[]⟩, .string ⟨#[]⟩, .string ⟨#[]⟩, .slice none 0 0]); generalize World.setRow (World.setRow (World.setRow (((w2.alloc (.cells #[.int .i64 0, .string ⟨#[]⟩, .string ⟨#[]⟩, .string ⟨#[]⟩, .string ⟨#[]⟩, .string ⟨#[]⟩, .slice none 0 0] 35)).alloc (.cells #[.int .i64 0, .string ⟨#[]⟩, .string ⟨#[]⟩, .string ⟨#[]⟩, .string ⟨#[]⟩, .string ⟨#[]⟩, .slice none 0 0] 35)).alloc (.cells #[.int .i64 0, .string ⟨#[]⟩, .string ⟨#[]⟩, .string ⟨#[]⟩, .string ⟨#[]⟩, .string ⟨#[]⟩, .slice none 0 0] 35)) (w2.heap.size) (cellsO (oe) q0).toArray) (w2.heap.size + 1) (cellsO (oc) q1).toArray) (w2.heap.size + 1 + 1) (cellsO (orr) q2).toArray = X2 at P ⊢; have hb := P.bel; replace B0 := kB B0 hb; replace KP := hI (KP.out.trans (Kp.of hb HB.out)); replace KA := hI (KA.out.kp (Kp.of hb HB.out)); replace OB := hI (OB.out.kept hb); replace k0 := hI (k0.out.kp (Kp.of hb HB.out)); replace k1 := hI (k1.out.kp (Kp.of hb HB.out)); replace k2 := hI (k2.out.kp (Kp.of hb HB.out)); replace HB := hI (Nat.le_trans HB.out hb.size); have D0 := hI P.b0; have D1 := hI P.b1; have D2 := hI P.b2; clear P hb T; have hal := hI (show Below X2.heap.size X2 (X2.alloc (.cells #[.int .u8 119] 5)) from Below.alloc (Below.refl _ _) (Nat.le_refl _) _); have hnw := hI (show (X2.alloc (.cells #[.int .u8 119] 5)).heap[X2.heap.size]? = some (.cells #[.int .u8 ((119 : UInt8).toNat : Int)] 5 (0, 0)) from heap_alloc_new X2 _); have hob := hI (OB.out.kept hal.out)) | (at_builtin; refine appByte rfl (.tmp 20) (.tmp 21) rfl rfl hob.out 119 X2.heap.size 1 rfl hnw.out (by have := HL.out; (try simp only [List.length_append, List.length_cons, List.length_nil]); omega) (Nat.le_trans HB.out hal.out.size) ?_) | (with_reducible refine lG (.tmp 3) B0.out ?_) | (with_reducible refine lG (.tmp 5) D0.out ?_) | (with_reducible refine lG (.tmp 6) D1.out ?_) | (with_reducible refine lG (.tmp 7) D2.out ?_))
 intro v3 x3 h3 j3
 have k3 := (Kp.of hal.out HB.out).trans j3
 replace B0 := hI (B0.out.kp k3)
 replace KP := hI (KP.out.trans k3)
 replace KA := hI (KA.out.kp k3)
 replace k0 := hI (k0.out.kp k3)
 replace k1 := hI (k1.out.kp k3)
 replace k2 := hI (k2.out.kp k3)
 replace D0 := hI (D0.out.kp k3)
 replace D1 := hI (D1.out.kp k3)
 replace D2 := hI (D2.out.kp k3)
 replace HB := hI (Nat.le_trans HB.out k3.bel.size)
 replace OB := hI h3
 clear hal hnw hob k3 j3 h3
 go_wp2_with (first | (with_reducible refine lG (.tmp 3) B0.out ?_) | (with_reducible refine lG (.tmp 5) D0.out ?_) | (with_reducible refine lG (.tmp 6) D1.out ?_) | (with_reducible refine lG (.tmp 7) D2.out ?_))
 with_reducible refine (isFinH oe q0 _ true FE.out).mono ?_
 rintro e w4 ⟨rfl, hb⟩
 replace B0 := kB B0 hb
 replace KP := hI (KP.out.trans (Kp.of hb HB.out))
 replace KA := hI (KA.out.kp (Kp.of hb HB.out))
 replace OB := hI (OB.out.kept hb)
 replace k0 := hI (k0.out.kp (Kp.of hb HB.out))
 replace k1 := hI (k1.out.kp (Kp.of hb HB.out))
 replace k2 := hI (k2.out.kp (Kp.of hb HB.out))
 replace D0 := kB D0 hb
 replace D1 := kB D1 hb
 replace D2 := kB D2 hb
 replace HB := hI (Nat.le_trans HB.out hb.size)
 clear hb
 go_wp2_with (first | (with_reducible refine lG (.tmp 3) B0.out ?_) | (with_reducible refine lG (.tmp 5) D0.out ?_) | (with_reducible refine lG (.tmp 6) D1.out ?_) | (with_reducible refine lG (.tmp 7) D2.out ?_))
 with_reducible refine (isOneH oe q0 _ true OE.out).mono ?_
 rintro e w5 ⟨rfl, hb⟩
 replace B0 := kB B0 hb
 replace KP := hI (KP.out.trans (Kp.of hb HB.out))
 replace KA := hI (KA.out.kp (Kp.of hb HB.out))
 replace OB := hI (OB.out.kept hb)
 replace k0 := hI (k0.out.kp (Kp.of hb HB.out))
 replace k1 := hI (k1.out.kp (Kp.of hb HB.out))
 replace k2 := hI (k2.out.kp (Kp.of hb HB.out))
 replace D0 := kB D0 hb
 replace D1 := kB D1 hb
 replace D2 := kB D2 hb
 replace HB := hI (Nat.le_trans HB.out hb.size)
 clear hb
 go_wp2_with (first | (with_reducible refine lG (.tmp 3) B0.out ?_) | (with_reducible refine lG (.tmp 5) D0.out ?_) | (with_reducible refine lG (.tmp 6) D1.out ?_) | (with_reducible refine lG (.tmp 7) D2.out ?_))
 with_reducible refine (isOneH oc q1 _ false OC.out).mono ?_
 rintro e w6 ⟨rfl, hb⟩
 replace B0 := kB B0 hb
 replace KP := hI (KP.out.trans (Kp.of hb HB.out))
 replace KA := hI (KA.out.kp (Kp.of hb HB.out))
 replace OB := hI (OB.out.kept hb)
 replace k0 := hI (k0.out.kp (Kp.of hb HB.out))
 replace k1 := hI (k1.out.kp (Kp.of hb HB.out))
 replace k2 := hI (k2.out.kp (Kp.of hb HB.out))
 replace D0 := kB D0 hb
 replace D1 := kB D1 hb
 replace D2 := kB D2 hb
 replace HB := hI (Nat.le_trans HB.out hb.size)
 clear hb
 have hal := hI (show Below w6.heap.size w6 (w6.alloc (.cells #[.int .u8 42] 5)) from Below.alloc (Below.refl _ _) (Nat.le_refl _) _)
 have hnw := hI (show (w6.alloc (.cells #[.int .u8 42] 5)).heap[w6.heap.size]? = some (.cells #[.int .u8 ((42 : UInt8).toNat : Int)] 5 (0, 0)) from heap_alloc_new w6 _)
 have hob := hI (OB.out.kept hal.out)
 go_wp2_with (first | (at_builtin; refine appByte rfl (.tmp 48) (.tmp 49) rfl rfl hob.out 42 w6.heap.size 1 rfl hnw.out (by have := HL.out; (try simp only [List.length_append, List.length_cons, List.length_nil]); omega) (Nat.le_trans HB.out hal.out.size) ?_) | (with_reducible refine lG (.tmp 3) B0.out ?_) | (with_reducible refine lG (.tmp 5) D0.out ?_) | (with_reducible refine lG (.tmp 6) D1.out ?_) | (with_reducible refine lG (.tmp 7) D2.out ?_))
 intro v7 x7 h7 j7
 have k7 := (Kp.of hal.out HB.out).trans j7
 replace B0 := hI (B0.out.kp k7)
 replace KP := hI (KP.out.trans k7)
 replace KA := hI (KA.out.kp k7)
 replace k0 := hI (k0.out.kp k7)
 replace k1 := hI (k1.out.kp k7)
 replace k2 := hI (k2.out.kp k7)
 replace D0 := hI (D0.out.kp k7)
 replace D1 := hI (D1.out.kp k7)
 replace D2 := hI (D2.out.kp k7)
 replace HB := hI (Nat.le_trans HB.out k7.bel.size)
 replace OB : Hid (OwnB x7 B v7 ((l ++ [119]) ++ [42])) := by
  have z := h7
  show OwnB _ _ _ _
  (try simp only [List.append_assoc, List.cons_append, List.nil_append] at z ⊢)
  exact z
 clear hal hnw hob k7 j7 h7
 go_wp2_with (first | (with_reducible refine lG (.tmp 3) B0.out ?_) | (with_reducible refine lG (.tmp 5) D0.out ?_) | (with_reducible refine lG (.tmp 6) D1.out ?_) | (with_reducible refine lG (.tmp 7) D2.out ?_))
 with_reducible refine (IC.out _ v7 ((l ++ [119]) ++ [42]) q1 HB.out OB.out (by have := HL.out; (try simp only [List.length_append, List.length_cons, List.length_nil]); omega) k1.out).mono ?_
 rintro e x8 ⟨v8, rfl, h8, k8⟩
 replace B0 := hI (B0.out.kp k8)
 replace KP := hI (KP.out.trans k8)
 replace KA := hI (KA.out.kp k8)
 replace k0 := hI (k0.out.kp k8)
 replace k1 := hI (k1.out.kp k8)
 replace k2 := hI (k2.out.kp k8)
 replace D0 := hI (D0.out.kp k8)
 replace D1 := hI (D1.out.kp k8)
 replace D2 := hI (D2.out.kp k8)
 replace HB := hI (Nat.le_trans HB.out k8.bel.size)
 replace OB : Hid (OwnB x8 B v8 (((l ++ [119]) ++ [42]) ++ tc)) := by
  have z := h8
  show OwnB _ _ _ _
  (try simp only [List.append_assoc, List.cons_append, List.nil_append] at z ⊢)
  exact z
 clear k8 h8
 go_wp2_with (first | (with_reducible refine lG (.tmp 3) B0.out ?_) | (with_reducible refine lG (.tmp 5) D0.out ?_) | (with_reducible refine lG (.tmp 6) D1.out ?_) | (with_reducible refine lG (.tmp 7) D2.out ?_))
 with_reducible refine (isZeroH orr q2 _ false ZR.out).mono ?_
 rintro e w9 ⟨rfl, hb⟩
 replace B0 := kB B0 hb
 replace KP := hI (KP.out.trans (Kp.of hb HB.out))
 replace KA := hI (KA.out.kp (Kp.of hb HB.out))
 replace OB := hI (OB.out.kept hb)
 replace k0 := hI (k0.out.kp (Kp.of hb HB.out))
 replace k1 := hI (k1.out.kp (Kp.of hb HB.out))
 replace k2 := hI (k2.out.kp (Kp.of hb HB.out))
 replace D0 := kB D0 hb
 replace D1 := kB D1 hb
 replace D2 := kB D2 hb
 replace HB := hI (Nat.le_trans HB.out hb.size)
 clear hb
 go_wp2_with (first | (at_builtin; refine appStr rfl (.tmp 57) (.const (.string ⟨#[32, 43, 32]⟩)) rfl rfl OB.out [32, 43, 32] rfl (by have := HL.out; (try simp only [List.length_append, List.length_cons, List.length_nil]); omega) HB.out ?_) | (with_reducible refine lG (.tmp 3) B0.out ?_) | (with_reducible refine lG (.tmp 5) D0.out ?_) | (with_reducible refine lG (.tmp 6) D1.out ?_) | (with_reducible refine lG (.tmp 7) D2.out ?_))
 intro v10 x10 h10 k10
 replace B0 := hI (B0.out.kp k10)
 replace KP := hI (KP.out.trans k10)
 replace KA := hI (KA.out.kp k10)
 replace k0 := hI (k0.out.kp k10)
 replace k1 := hI (k1.out.kp k10)
 replace k2 := hI (k2.out.kp k10)
 replace D0 := hI (D0.out.kp k10)
 replace D1 := hI (D1.out.kp k10)
 replace D2 := hI (D2.out.kp k10)
 replace HB := hI (Nat.le_trans HB.out k10.bel.size)
 replace OB : Hid (OwnB x10 B v10 ((((l ++ [119]) ++ [42]) ++ tc) ++ [32, 43, 32])) := by
  have z := h10
  show OwnB _ _ _ _
  (try simp only [List.append_assoc, List.cons_append, List.nil_append] at z ⊢)
  exact z
 clear k10 h10
 go_wp2_with (first | (with_reducible refine lG (.tmp 3) B0.out ?_) | (with_reducible refine lG (.tmp 5) D0.out ?_) | (with_reducible refine lG (.tmp 6) D1.out ?_) | (with_reducible refine lG (.tmp 7) D2.out ?_))
 with_reducible refine (IR.out _ v10 ((((l ++ [119]) ++ [42]) ++ tc) ++ [32, 43, 32]) q2 HB.out OB.out (by have := HL.out; (try simp only [List.length_append, List.length_cons, List.length_nil]); omega) k2.out).mono ?_
 rintro e x11 ⟨v11, rfl, h11, k11⟩
 replace B0 := hI (B0.out.kp k11)
 replace KP := hI (KP.out.trans k11)
 replace KA := hI (KA.out.kp k11)
 replace k0 := hI (k0.out.kp k11)
 replace k1 := hI (k1.out.kp k11)
 replace k2 := hI (k2.out.kp k11)
 replace D0 := hI (D0.out.kp k11)
 replace D1 := hI (D1.out.kp k11)
 replace D2 := hI (D2.out.kp k11)
 replace HB := hI (Nat.le_trans HB.out k11.bel.size)
 replace OB : Hid (OwnB x11 B v11 (((((l ++ [119]) ++ [42]) ++ tc) ++ [32, 43, 32]) ++ tr)) := by
  have z := h11
  show OwnB _ _ _ _
  (try simp only [List.append_assoc, List.cons_append, List.nil_append] at z ⊢)
  exact z
 clear k11 h11
 go_wp2_with (first | (with_reducible refine lG (.tmp 3) B0.out ?_) | (with_reducible refine lG (.tmp 5) D0.out ?_) | (with_reducible refine lG (.tmp 6) D1.out ?_) | (with_reducible refine lG (.tmp 7) D2.out ?_))
 go_ret
 exact ⟨v11, rfl, OB.out, KP.out⟩
def flen : On → Nat
 | .fin n => (text (n : Int)).length
 | .pw e c r => flen e + (text (c : Int)).length + flen r + 100
theorem fmt_len : ∀ a : On, (fmt a).length ≤ flen a
 | .fin n => Nat.le_refl _
 | .pw e c r => by
  have h1 := fmt_len e
  have h2 := fmt_len r
  have h3 : (fmtE e (fmt e)).length ≤ flen e + 3 := by
   unfold fmtE
   cases e with
   | fin k => simp only; split <;> simp only [List.length_nil, List.length_cons] <;> omega
   | pw e' c' r' => simp only [List.length_cons, List.length_append, List.length_nil]; omega
  have h4 : (if c = 1 then [] else 42 :: text (c : Int)).length ≤ (text (c : Int)).length + 1 := by split <;> simp only [List.length_nil, List.length_cons] <;> omega
  have h5 : (if r = .fin 0 then [] else 32 :: 43 :: 32 :: fmt r).length ≤ flen r + 3 := by split <;> simp only [List.length_nil, List.length_cons] <;> omega
  unfold fmt flen
  simp only [List.length_cons, List.length_append]
  omega
theorem appFin (n : Nat) (B : Nat) (X : World) (bu : Value) (l : List UInt8) (q : Value) (hB : B ≤ X.heap.size) (ho : OwnB X B bu l) (hl : l.length + (text (n : Int)).length ≤ 1000000000000) (hp : Pb B X (On.fin n).ob q) :
 Calls Tryz.prog 30 #[bu, vO (On.fin n).ob q] X (RetA X B (l ++ text (n : Int))) := appNum ((n : Nat) : Rat) q bu X B l ho hB hl (hp.hd hB)
theorem app_fin10 (oe oc orr : Ob) (te tc tr : List UInt8) (ne nc nr : Nat) (p bu : Value) (w : World) (B : Nat) (l : List UInt8) (ho : OwnB w B bu l) (hB : B ≤ w.heap.size) (hl : l.length + ne + nc + nr + 100 ≤ 1000000000000 ∧ te.length ≤ ne ∧ tc.length ≤ nc ∧ tr.length ≤ nr) (hp : Pb B w (.cons (.cons oe oc) orr) p)
 (iE : ∀ X bu l q, B ≤ X.heap.size → OwnB X B bu l → l.length + ne ≤ 1000000000000 → Pb B X oe q → Calls Tryz.prog 30 #[bu, vO oe q] X (RetA X B (l ++ te))) (iC : ∀ X bu l q, B ≤ X.heap.size → OwnB X B bu l → l.length + nc ≤ 1000000000000 → Pb B X oc q → Calls Tryz.prog 30 #[bu, vO oc q] X (RetA X B (l ++ tc))) (iR : ∀ X bu l q, B ≤ X.heap.size → OwnB X B bu l → l.length + nr ≤ 1000000000000 → Pb B X orr q → Calls Tryz.prog 30 #[bu, vO orr q] X (RetA X B (l ++ tr))) (fE : oe.isNum = true) (oE : oe.numIs 1 = false) (oC : oc.numIs 1 = true) (zR : orr.numIs 0 = true) :
 Calls Tryz.prog 30 #[bu, vO (.cons (.cons oe oc) orr) p] w (RetA w B (((l ++ [119]) ++ [94]) ++ te)) := by
 have OB := hI ho
 clear ho
 have HL := hI hl
 clear hl
 have HB := hI hB
 clear hB
 have KA := hI hp
 clear hp
 have IE := hI iE
 clear iE
 have IR := hI iR
 clear iR
 have IC := hI iC
 clear iC
 have FE := hI fE
 clear fE
 have OE := hI oE
 clear oE
 have OC := hI oC
 clear oC
 have ZR := hI zR
 clear zR
 obtain ⟨a0, a1, a2, a3, a4, a5, ea⟩ := cells7 (.cons (.cons oe oc) orr) p
 have T := Bx1.new w #[a0, a1, a2, a3, a4, a5, p]
 rw [vO_cells ea]
 go_enter Tryz.func30, Tryz.ntmps30
 go_wp2_with fail
 generalize w.alloc (.cells #[a0, a1, a2, a3, a4, a5, p] 35) = W at T ⊢
 have B0 : Hid (Bx W (w.heap.size) (cellsO (.cons (.cons oe oc) orr) p).toArray) := by rw [ea]; exact T.b0
 have HW := hI T.bel
 try rw [← vO_cells ea]
 clear T ea 
 have KP := hI (Kp.of HW.out HB.out)
 replace KA := hI (KA.out.kp KP.out)
 replace OB := hI (OB.out.kept HW.out)
 replace HB := hI (Nat.le_trans HB.out HW.out.size)
 clear HW
 with_reducible refine (isFinH (.cons (.cons oe oc) orr) p _ false rfl).mono ?_
 rintro e w1 ⟨rfl, hb⟩
 replace B0 := kB B0 hb
 replace KP := hI (KP.out.trans (Kp.of hb HB.out))
 replace KA := hI (KA.out.kp (Kp.of hb HB.out))
 replace OB := hI (OB.out.kept hb)
 replace HB := hI (Nat.le_trans HB.out hb.size)
 clear hb
 go_wp2_with (with_reducible refine lG (.tmp 3) B0.out ?_)
 with_reducible refine (partsS oe oc orr p _ (fun b => b < B) (fun b hb => Nat.lt_of_lt_of_le hb HB.out) (pb_pair KA.out)).mono ?_
 rintro e w2 ⟨q0, q1, q2, rfl, k0, k1, k2, hb⟩
 replace B0 := kB B0 hb
 replace KP := hI (KP.out.trans (Kp.of hb HB.out))
 replace KA := hI (KA.out.kp (Kp.of hb HB.out))
 replace OB := hI (OB.out.kept hb)
 replace HB := hI (Nat.le_trans HB.out hb.size)
 clear hb
 replace k0 := hI k0
 replace k1 := hI k1
 replace k2 := hI k2
 replace k0 : Hid (Pb B w2 oe q0) := k0
 replace k1 : Hid (Pb B w2 oc q1) := k1
 replace k2 : Hid (Pb B w2 orr q2) := k2
 have T := hI (Bx3.new w2 #[.int .i64 0, .string ⟨#[]⟩, .string ⟨#[]⟩, .string ⟨#[]⟩, .string ⟨#[]⟩, .string ⟨#[]⟩, .slice none 0 0] #[.int .i64 0, .string ⟨#[]⟩, .string ⟨#[]⟩, .string ⟨#[]⟩, .string ⟨#[]⟩, .string ⟨#[]⟩, .slice none 0 0] #[.int .i64 0, .string ⟨#[]⟩, .string ⟨#[]⟩, .string ⟨#[]⟩, .string ⟨#[]⟩, .string ⟨#[]⟩, .slice none 0 0])
 go_wp2_with (first | (with_reducible refine sB (.tmp 5) (.tmp 17) (k0.out.hd HB.out) T.out.b0 ?_) | (with_reducible refine sB (.tmp 6) (.tmp 18) (k1.out.hd HB.out) T.out.n1 ?_) | (with_reducible refine sB (.tmp 7) (.tmp 19) (k2.out.hd HB.out) T.out.n2 ?_; have P := Pt3.new (w := w2) (o0 := oe) (o1 := oc) (o2 := orr) (p0 := q0) (p1 := q1) (p2 := q2) (z0 := #[.int .i64 0, .string ⟨#[]⟩, .string ⟨#[]⟩, .string ⟨#[]⟩, .string ⟨#[]⟩, .string ⟨#[]⟩, .slice none 0 0]) (z1 := #[.int .i64 0, .string ⟨#[]⟩, .string ⟨#[]⟩, .string ⟨#[]⟩, .string ⟨#[]⟩, .string ⟨#[]⟩, .slice none 0 0]) (z2 := #[.int .i64 0, .string ⟨#[]⟩, .string ⟨#[]⟩, .string ⟨#[]⟩, .string ⟨#[]⟩, .string ⟨#[]⟩, .slice none 0 0]); generalize World.setRow (World.setRow (World.setRow (((w2.alloc (.cells #[.int .i64 0, .string ⟨#[]⟩, .string ⟨#[]⟩, .string ⟨#[]⟩, .string ⟨#[]⟩, .string ⟨#[]⟩, .slice none 0 0] 35)).alloc (.cells #[.int .i64 0, .string ⟨#[]⟩, .string ⟨#[]⟩, .string ⟨#[]⟩, .string ⟨#[]⟩, .string ⟨#[]⟩, .slice none 0 0] 35)).alloc (.cells #[.int .i64 0, .string ⟨#[]⟩, .string ⟨#[]⟩, .string ⟨#[]⟩, .string ⟨#[]⟩, .string ⟨#[]⟩, .slice none 0 0] 35)) (w2.heap.size) (cellsO (oe) q0).toArray) (w2.heap.size + 1) (cellsO (oc) q1).toArray) (w2.heap.size + 1 + 1) (cellsO (orr) q2).toArray = X2 at P ⊢; have hb := P.bel; replace B0 := kB B0 hb; replace KP := hI (KP.out.trans (Kp.of hb HB.out)); replace KA := hI (KA.out.kp (Kp.of hb HB.out)); replace OB := hI (OB.out.kept hb); replace k0 := hI (k0.out.kp (Kp.of hb HB.out)); replace k1 := hI (k1.out.kp (Kp.of hb HB.out)); replace k2 := hI (k2.out.kp (Kp.of hb HB.out)); replace HB := hI (Nat.le_trans HB.out hb.size); have D0 := hI P.b0; have D1 := hI P.b1; have D2 := hI P.b2; clear P hb T; have hal := hI (show Below X2.heap.size X2 (X2.alloc (.cells #[.int .u8 119] 5)) from Below.alloc (Below.refl _ _) (Nat.le_refl _) _); have hnw := hI (show (X2.alloc (.cells #[.int .u8 119] 5)).heap[X2.heap.size]? = some (.cells #[.int .u8 ((119 : UInt8).toNat : Int)] 5 (0, 0)) from heap_alloc_new X2 _); have hob := hI (OB.out.kept hal.out)) | (at_builtin; refine appByte rfl (.tmp 20) (.tmp 21) rfl rfl hob.out 119 X2.heap.size 1 rfl hnw.out (by have := HL.out; (try simp only [List.length_append, List.length_cons, List.length_nil]); omega) (Nat.le_trans HB.out hal.out.size) ?_) | (with_reducible refine lG (.tmp 3) B0.out ?_) | (with_reducible refine lG (.tmp 5) D0.out ?_) | (with_reducible refine lG (.tmp 6) D1.out ?_) | (with_reducible refine lG (.tmp 7) D2.out ?_))
 intro v3 x3 h3 j3
 have k3 := (Kp.of hal.out HB.out).trans j3
 replace B0 := hI (B0.out.kp k3)
 replace KP := hI (KP.out.trans k3)
 replace KA := hI (KA.out.kp k3)
 replace k0 := hI (k0.out.kp k3)
 replace k1 := hI (k1.out.kp k3)
 replace k2 := hI (k2.out.kp k3)
 replace D0 := hI (D0.out.kp k3)
 replace D1 := hI (D1.out.kp k3)
 replace D2 := hI (D2.out.kp k3)
 replace HB := hI (Nat.le_trans HB.out k3.bel.size)
 replace OB := hI h3
 clear hal hnw hob k3 j3 h3
 go_wp2_with (first | (with_reducible refine lG (.tmp 3) B0.out ?_) | (with_reducible refine lG (.tmp 5) D0.out ?_) | (with_reducible refine lG (.tmp 6) D1.out ?_) | (with_reducible refine lG (.tmp 7) D2.out ?_))
 with_reducible refine (isFinH oe q0 _ true FE.out).mono ?_
 rintro e w4 ⟨rfl, hb⟩
 replace B0 := kB B0 hb
 replace KP := hI (KP.out.trans (Kp.of hb HB.out))
 replace KA := hI (KA.out.kp (Kp.of hb HB.out))
 replace OB := hI (OB.out.kept hb)
 replace k0 := hI (k0.out.kp (Kp.of hb HB.out))
 replace k1 := hI (k1.out.kp (Kp.of hb HB.out))
 replace k2 := hI (k2.out.kp (Kp.of hb HB.out))
 replace D0 := kB D0 hb
 replace D1 := kB D1 hb
 replace D2 := kB D2 hb
 replace HB := hI (Nat.le_trans HB.out hb.size)
 clear hb
 go_wp2_with (first | (with_reducible refine lG (.tmp 3) B0.out ?_) | (with_reducible refine lG (.tmp 5) D0.out ?_) | (with_reducible refine lG (.tmp 6) D1.out ?_) | (with_reducible refine lG (.tmp 7) D2.out ?_))
 with_reducible refine (isOneH oe q0 _ false OE.out).mono ?_
 rintro e w5 ⟨rfl, hb⟩
 replace B0 := kB B0 hb
 replace KP := hI (KP.out.trans (Kp.of hb HB.out))
 replace KA := hI (KA.out.kp (Kp.of hb HB.out))
 replace OB := hI (OB.out.kept hb)
 replace k0 := hI (k0.out.kp (Kp.of hb HB.out))
 replace k1 := hI (k1.out.kp (Kp.of hb HB.out))
 replace k2 := hI (k2.out.kp (Kp.of hb HB.out))
 replace D0 := kB D0 hb
 replace D1 := kB D1 hb
 replace D2 := kB D2 hb
 replace HB := hI (Nat.le_trans HB.out hb.size)
 clear hb
 have hal := hI (show Below w5.heap.size w5 (w5.alloc (.cells #[.int .u8 94] 5)) from Below.alloc (Below.refl _ _) (Nat.le_refl _) _)
 have hnw := hI (show (w5.alloc (.cells #[.int .u8 94] 5)).heap[w5.heap.size]? = some (.cells #[.int .u8 ((94 : UInt8).toNat : Int)] 5 (0, 0)) from heap_alloc_new w5 _)
 have hob := hI (OB.out.kept hal.out)
 go_wp2_with (first | (at_builtin; refine appByte rfl (.tmp 39) (.tmp 40) rfl rfl hob.out 94 w5.heap.size 1 rfl hnw.out (by have := HL.out; (try simp only [List.length_append, List.length_cons, List.length_nil]); omega) (Nat.le_trans HB.out hal.out.size) ?_) | (with_reducible refine lG (.tmp 3) B0.out ?_) | (with_reducible refine lG (.tmp 5) D0.out ?_) | (with_reducible refine lG (.tmp 6) D1.out ?_) | (with_reducible refine lG (.tmp 7) D2.out ?_))
 intro v6 x6 h6 j6
 have k6 := (Kp.of hal.out HB.out).trans j6
 replace B0 := hI (B0.out.kp k6)
 replace KP := hI (KP.out.trans k6)
 replace KA := hI (KA.out.kp k6)
 replace k0 := hI (k0.out.kp k6)
 replace k1 := hI (k1.out.kp k6)
 replace k2 := hI (k2.out.kp k6)
 replace D0 := hI (D0.out.kp k6)
 replace D1 := hI (D1.out.kp k6)
 replace D2 := hI (D2.out.kp k6)
 replace HB := hI (Nat.le_trans HB.out k6.bel.size)
 replace OB : Hid (OwnB x6 B v6 ((l ++ [119]) ++ [94])) := by
  have z := h6
  show OwnB _ _ _ _
  (try simp only [List.append_assoc, List.cons_append, List.nil_append] at z ⊢)
  exact z
 clear hal hnw hob k6 j6 h6
 go_wp2_with (first | (with_reducible refine lG (.tmp 3) B0.out ?_) | (with_reducible refine lG (.tmp 5) D0.out ?_) | (with_reducible refine lG (.tmp 6) D1.out ?_) | (with_reducible refine lG (.tmp 7) D2.out ?_))
 with_reducible refine (IE.out _ v6 ((l ++ [119]) ++ [94]) q0 HB.out OB.out (by have := HL.out; (try simp only [List.length_append, List.length_cons, List.length_nil]); omega) k0.out).mono ?_
 rintro e x7 ⟨v7, rfl, h7, k7⟩
 replace B0 := hI (B0.out.kp k7)
 replace KP := hI (KP.out.trans k7)
 replace KA := hI (KA.out.kp k7)
 replace k0 := hI (k0.out.kp k7)
 replace k1 := hI (k1.out.kp k7)
 replace k2 := hI (k2.out.kp k7)
 replace D0 := hI (D0.out.kp k7)
 replace D1 := hI (D1.out.kp k7)
 replace D2 := hI (D2.out.kp k7)
 replace HB := hI (Nat.le_trans HB.out k7.bel.size)
 replace OB : Hid (OwnB x7 B v7 (((l ++ [119]) ++ [94]) ++ te)) := by
  have z := h7
  show OwnB _ _ _ _
  (try simp only [List.append_assoc, List.cons_append, List.nil_append] at z ⊢)
  exact z
 clear k7 h7
 go_wp2_with (first | (with_reducible refine lG (.tmp 3) B0.out ?_) | (with_reducible refine lG (.tmp 5) D0.out ?_) | (with_reducible refine lG (.tmp 6) D1.out ?_) | (with_reducible refine lG (.tmp 7) D2.out ?_))
 with_reducible refine (isOneH oc q1 _ true OC.out).mono ?_
 rintro e w8 ⟨rfl, hb⟩
 replace B0 := kB B0 hb
 replace KP := hI (KP.out.trans (Kp.of hb HB.out))
 replace KA := hI (KA.out.kp (Kp.of hb HB.out))
 replace OB := hI (OB.out.kept hb)
 replace k0 := hI (k0.out.kp (Kp.of hb HB.out))
 replace k1 := hI (k1.out.kp (Kp.of hb HB.out))
 replace k2 := hI (k2.out.kp (Kp.of hb HB.out))
 replace D0 := kB D0 hb
 replace D1 := kB D1 hb
 replace D2 := kB D2 hb
 replace HB := hI (Nat.le_trans HB.out hb.size)
 clear hb
 go_wp2_with (first | (with_reducible refine lG (.tmp 3) B0.out ?_) | (with_reducible refine lG (.tmp 5) D0.out ?_) | (with_reducible refine lG (.tmp 6) D1.out ?_) | (with_reducible refine lG (.tmp 7) D2.out ?_))
 with_reducible refine (isZeroH orr q2 _ true ZR.out).mono ?_
 rintro e w9 ⟨rfl, hb⟩
 replace B0 := kB B0 hb
 replace KP := hI (KP.out.trans (Kp.of hb HB.out))
 replace KA := hI (KA.out.kp (Kp.of hb HB.out))
 replace OB := hI (OB.out.kept hb)
 replace k0 := hI (k0.out.kp (Kp.of hb HB.out))
 replace k1 := hI (k1.out.kp (Kp.of hb HB.out))
 replace k2 := hI (k2.out.kp (Kp.of hb HB.out))
 replace D0 := kB D0 hb
 replace D1 := kB D1 hb
 replace D2 := kB D2 hb
 replace HB := hI (Nat.le_trans HB.out hb.size)
 clear hb
 go_wp2_with (first | (with_reducible refine lG (.tmp 3) B0.out ?_) | (with_reducible refine lG (.tmp 5) D0.out ?_) | (with_reducible refine lG (.tmp 6) D1.out ?_) | (with_reducible refine lG (.tmp 7) D2.out ?_))
 go_ret
 exact ⟨v7, rfl, OB.out, KP.out⟩
theorem app_fin1r (oe oc orr : Ob) (te tc tr : List UInt8) (ne nc nr : Nat) (p bu : Value) (w : World) (B : Nat) (l : List UInt8) (ho : OwnB w B bu l) (hB : B ≤ w.heap.size) (hl : l.length + ne + nc + nr + 100 ≤ 1000000000000 ∧ te.length ≤ ne ∧ tc.length ≤ nc ∧ tr.length ≤ nr) (hp : Pb B w (.cons (.cons oe oc) orr) p)
 (iE : ∀ X bu l q, B ≤ X.heap.size → OwnB X B bu l → l.length + ne ≤ 1000000000000 → Pb B X oe q → Calls Tryz.prog 30 #[bu, vO oe q] X (RetA X B (l ++ te))) (iC : ∀ X bu l q, B ≤ X.heap.size → OwnB X B bu l → l.length + nc ≤ 1000000000000 → Pb B X oc q → Calls Tryz.prog 30 #[bu, vO oc q] X (RetA X B (l ++ tc))) (iR : ∀ X bu l q, B ≤ X.heap.size → OwnB X B bu l → l.length + nr ≤ 1000000000000 → Pb B X orr q → Calls Tryz.prog 30 #[bu, vO orr q] X (RetA X B (l ++ tr))) (fE : oe.isNum = true) (oE : oe.numIs 1 = false) (oC : oc.numIs 1 = true) (zR : orr.numIs 0 = false) :
 Calls Tryz.prog 30 #[bu, vO (.cons (.cons oe oc) orr) p] w (RetA w B (((((l ++ [119]) ++ [94]) ++ te) ++ [32, 43, 32]) ++ tr)) := by
 have OB := hI ho
 clear ho
 have HL := hI hl
 clear hl
 have HB := hI hB
 clear hB
 have KA := hI hp
 clear hp
 have IE := hI iE
 clear iE
 have IR := hI iR
 clear iR
 have IC := hI iC
 clear iC
 have FE := hI fE
 clear fE
 have OE := hI oE
 clear oE
 have OC := hI oC
 clear oC
 have ZR := hI zR
 clear zR
 obtain ⟨a0, a1, a2, a3, a4, a5, ea⟩ := cells7 (.cons (.cons oe oc) orr) p
 have T := Bx1.new w #[a0, a1, a2, a3, a4, a5, p]
 rw [vO_cells ea]
 go_enter Tryz.func30, Tryz.ntmps30
 go_wp2_with fail
 generalize w.alloc (.cells #[a0, a1, a2, a3, a4, a5, p] 35) = W at T ⊢
 have B0 : Hid (Bx W (w.heap.size) (cellsO (.cons (.cons oe oc) orr) p).toArray) := by rw [ea]; exact T.b0
 have HW := hI T.bel
 try rw [← vO_cells ea]
 clear T ea 
 have KP := hI (Kp.of HW.out HB.out)
 replace KA := hI (KA.out.kp KP.out)
 replace OB := hI (OB.out.kept HW.out)
 replace HB := hI (Nat.le_trans HB.out HW.out.size)
 clear HW
 with_reducible refine (isFinH (.cons (.cons oe oc) orr) p _ false rfl).mono ?_
 rintro e w1 ⟨rfl, hb⟩
 replace B0 := kB B0 hb
 replace KP := hI (KP.out.trans (Kp.of hb HB.out))
 replace KA := hI (KA.out.kp (Kp.of hb HB.out))
 replace OB := hI (OB.out.kept hb)
 replace HB := hI (Nat.le_trans HB.out hb.size)
 clear hb
 go_wp2_with (with_reducible refine lG (.tmp 3) B0.out ?_)
 with_reducible refine (partsS oe oc orr p _ (fun b => b < B) (fun b hb => Nat.lt_of_lt_of_le hb HB.out) (pb_pair KA.out)).mono ?_
 rintro e w2 ⟨q0, q1, q2, rfl, k0, k1, k2, hb⟩
 replace B0 := kB B0 hb
 replace KP := hI (KP.out.trans (Kp.of hb HB.out))
 replace KA := hI (KA.out.kp (Kp.of hb HB.out))
 replace OB := hI (OB.out.kept hb)
 replace HB := hI (Nat.le_trans HB.out hb.size)
 clear hb
 replace k0 := hI k0
 replace k1 := hI k1
 replace k2 := hI k2
 replace k0 : Hid (Pb B w2 oe q0) := k0
 replace k1 : Hid (Pb B w2 oc q1) := k1
 replace k2 : Hid (Pb B w2 orr q2) := k2
 have T := hI (Bx3.new w2 #[.int .i64 0, .string ⟨#[]⟩, .string ⟨#[]⟩, .string ⟨#[]⟩, .string ⟨#[]⟩, .string ⟨#[]⟩, .slice none 0 0] #[.int .i64 0, .string ⟨#[]⟩, .string ⟨#[]⟩, .string ⟨#[]⟩, .string ⟨#[]⟩, .string ⟨#[]⟩, .slice none 0 0] #[.int .i64 0, .string ⟨#[]⟩, .string ⟨#[]⟩, .string ⟨#[]⟩, .string ⟨#[]⟩, .string ⟨#[]⟩, .slice none 0 0])
 go_wp2_with (first | (with_reducible refine sB (.tmp 5) (.tmp 17) (k0.out.hd HB.out) T.out.b0 ?_) | (with_reducible refine sB (.tmp 6) (.tmp 18) (k1.out.hd HB.out) T.out.n1 ?_) | (with_reducible refine sB (.tmp 7) (.tmp 19) (k2.out.hd HB.out) T.out.n2 ?_; have P := Pt3.new (w := w2) (o0 := oe) (o1 := oc) (o2 := orr) (p0 := q0) (p1 := q1) (p2 := q2) (z0 := #[.int .i64 0, .string ⟨#[]⟩, .string ⟨#[]⟩, .string ⟨#[]⟩, .string ⟨#[]⟩, .string ⟨#[]⟩, .slice none 0 0]) (z1 := #[.int .i64 0, .string ⟨#[]⟩, .string ⟨#[]⟩, .string ⟨#[]⟩, .string ⟨#[]⟩, .string ⟨#[]⟩, .slice none 0 0]) (z2 := #[.int .i64 0, .string ⟨#[]⟩, .string ⟨#[]⟩, .string ⟨#[]⟩, .string ⟨#[]⟩, .string ⟨#[]⟩, .slice none 0 0]); generalize World.setRow (World.setRow (World.setRow (((w2.alloc (.cells #[.int .i64 0, .string ⟨#[]⟩, .string ⟨#[]⟩, .string ⟨#[]⟩, .string ⟨#[]⟩, .string ⟨#[]⟩, .slice none 0 0] 35)).alloc (.cells #[.int .i64 0, .string ⟨#[]⟩, .string ⟨#[]⟩, .string ⟨#[]⟩, .string ⟨#[]⟩, .string ⟨#[]⟩, .slice none 0 0] 35)).alloc (.cells #[.int .i64 0, .string ⟨#[]⟩, .string ⟨#[]⟩, .string ⟨#[]⟩, .string ⟨#[]⟩, .string ⟨#[]⟩, .slice none 0 0] 35)) (w2.heap.size) (cellsO (oe) q0).toArray) (w2.heap.size + 1) (cellsO (oc) q1).toArray) (w2.heap.size + 1 + 1) (cellsO (orr) q2).toArray = X2 at P ⊢; have hb := P.bel; replace B0 := kB B0 hb; replace KP := hI (KP.out.trans (Kp.of hb HB.out)); replace KA := hI (KA.out.kp (Kp.of hb HB.out)); replace OB := hI (OB.out.kept hb); replace k0 := hI (k0.out.kp (Kp.of hb HB.out)); replace k1 := hI (k1.out.kp (Kp.of hb HB.out)); replace k2 := hI (k2.out.kp (Kp.of hb HB.out)); replace HB := hI (Nat.le_trans HB.out hb.size); have D0 := hI P.b0; have D1 := hI P.b1; have D2 := hI P.b2; clear P hb T; have hal := hI (show Below X2.heap.size X2 (X2.alloc (.cells #[.int .u8 119] 5)) from Below.alloc (Below.refl _ _) (Nat.le_refl _) _); have hnw := hI (show (X2.alloc (.cells #[.int .u8 119] 5)).heap[X2.heap.size]? = some (.cells #[.int .u8 ((119 : UInt8).toNat : Int)] 5 (0, 0)) from heap_alloc_new X2 _); have hob := hI (OB.out.kept hal.out)) | (at_builtin; refine appByte rfl (.tmp 20) (.tmp 21) rfl rfl hob.out 119 X2.heap.size 1 rfl hnw.out (by have := HL.out; (try simp only [List.length_append, List.length_cons, List.length_nil]); omega) (Nat.le_trans HB.out hal.out.size) ?_) | (with_reducible refine lG (.tmp 3) B0.out ?_) | (with_reducible refine lG (.tmp 5) D0.out ?_) | (with_reducible refine lG (.tmp 6) D1.out ?_) | (with_reducible refine lG (.tmp 7) D2.out ?_))
 intro v3 x3 h3 j3
 have k3 := (Kp.of hal.out HB.out).trans j3
 replace B0 := hI (B0.out.kp k3)
 replace KP := hI (KP.out.trans k3)
 replace KA := hI (KA.out.kp k3)
 replace k0 := hI (k0.out.kp k3)
 replace k1 := hI (k1.out.kp k3)
 replace k2 := hI (k2.out.kp k3)
 replace D0 := hI (D0.out.kp k3)
 replace D1 := hI (D1.out.kp k3)
 replace D2 := hI (D2.out.kp k3)
 replace HB := hI (Nat.le_trans HB.out k3.bel.size)
 replace OB := hI h3
 clear hal hnw hob k3 j3 h3
 go_wp2_with (first | (with_reducible refine lG (.tmp 3) B0.out ?_) | (with_reducible refine lG (.tmp 5) D0.out ?_) | (with_reducible refine lG (.tmp 6) D1.out ?_) | (with_reducible refine lG (.tmp 7) D2.out ?_))
 with_reducible refine (isFinH oe q0 _ true FE.out).mono ?_
 rintro e w4 ⟨rfl, hb⟩
 replace B0 := kB B0 hb
 replace KP := hI (KP.out.trans (Kp.of hb HB.out))
 replace KA := hI (KA.out.kp (Kp.of hb HB.out))
 replace OB := hI (OB.out.kept hb)
 replace k0 := hI (k0.out.kp (Kp.of hb HB.out))
 replace k1 := hI (k1.out.kp (Kp.of hb HB.out))
 replace k2 := hI (k2.out.kp (Kp.of hb HB.out))
 replace D0 := kB D0 hb
 replace D1 := kB D1 hb
 replace D2 := kB D2 hb
 replace HB := hI (Nat.le_trans HB.out hb.size)
 clear hb
 go_wp2_with (first | (with_reducible refine lG (.tmp 3) B0.out ?_) | (with_reducible refine lG (.tmp 5) D0.out ?_) | (with_reducible refine lG (.tmp 6) D1.out ?_) | (with_reducible refine lG (.tmp 7) D2.out ?_))
 with_reducible refine (isOneH oe q0 _ false OE.out).mono ?_
 rintro e w5 ⟨rfl, hb⟩
 replace B0 := kB B0 hb
 replace KP := hI (KP.out.trans (Kp.of hb HB.out))
 replace KA := hI (KA.out.kp (Kp.of hb HB.out))
 replace OB := hI (OB.out.kept hb)
 replace k0 := hI (k0.out.kp (Kp.of hb HB.out))
 replace k1 := hI (k1.out.kp (Kp.of hb HB.out))
 replace k2 := hI (k2.out.kp (Kp.of hb HB.out))
 replace D0 := kB D0 hb
 replace D1 := kB D1 hb
 replace D2 := kB D2 hb
 replace HB := hI (Nat.le_trans HB.out hb.size)
 clear hb
 have hal := hI (show Below w5.heap.size w5 (w5.alloc (.cells #[.int .u8 94] 5)) from Below.alloc (Below.refl _ _) (Nat.le_refl _) _)
 have hnw := hI (show (w5.alloc (.cells #[.int .u8 94] 5)).heap[w5.heap.size]? = some (.cells #[.int .u8 ((94 : UInt8).toNat : Int)] 5 (0, 0)) from heap_alloc_new w5 _)
 have hob := hI (OB.out.kept hal.out)
 go_wp2_with (first | (at_builtin; refine appByte rfl (.tmp 39) (.tmp 40) rfl rfl hob.out 94 w5.heap.size 1 rfl hnw.out (by have := HL.out; (try simp only [List.length_append, List.length_cons, List.length_nil]); omega) (Nat.le_trans HB.out hal.out.size) ?_) | (with_reducible refine lG (.tmp 3) B0.out ?_) | (with_reducible refine lG (.tmp 5) D0.out ?_) | (with_reducible refine lG (.tmp 6) D1.out ?_) | (with_reducible refine lG (.tmp 7) D2.out ?_))
 intro v6 x6 h6 j6
 have k6 := (Kp.of hal.out HB.out).trans j6
 replace B0 := hI (B0.out.kp k6)
 replace KP := hI (KP.out.trans k6)
 replace KA := hI (KA.out.kp k6)
 replace k0 := hI (k0.out.kp k6)
 replace k1 := hI (k1.out.kp k6)
 replace k2 := hI (k2.out.kp k6)
 replace D0 := hI (D0.out.kp k6)
 replace D1 := hI (D1.out.kp k6)
 replace D2 := hI (D2.out.kp k6)
 replace HB := hI (Nat.le_trans HB.out k6.bel.size)
 replace OB : Hid (OwnB x6 B v6 ((l ++ [119]) ++ [94])) := by
  have z := h6
  show OwnB _ _ _ _
  (try simp only [List.append_assoc, List.cons_append, List.nil_append] at z ⊢)
  exact z
 clear hal hnw hob k6 j6 h6
 go_wp2_with (first | (with_reducible refine lG (.tmp 3) B0.out ?_) | (with_reducible refine lG (.tmp 5) D0.out ?_) | (with_reducible refine lG (.tmp 6) D1.out ?_) | (with_reducible refine lG (.tmp 7) D2.out ?_))
 with_reducible refine (IE.out _ v6 ((l ++ [119]) ++ [94]) q0 HB.out OB.out (by have := HL.out; (try simp only [List.length_append, List.length_cons, List.length_nil]); omega) k0.out).mono ?_
 rintro e x7 ⟨v7, rfl, h7, k7⟩
 replace B0 := hI (B0.out.kp k7)
 replace KP := hI (KP.out.trans k7)
 replace KA := hI (KA.out.kp k7)
 replace k0 := hI (k0.out.kp k7)
 replace k1 := hI (k1.out.kp k7)
 replace k2 := hI (k2.out.kp k7)
 replace D0 := hI (D0.out.kp k7)
 replace D1 := hI (D1.out.kp k7)
 replace D2 := hI (D2.out.kp k7)
 replace HB := hI (Nat.le_trans HB.out k7.bel.size)
 replace OB : Hid (OwnB x7 B v7 (((l ++ [119]) ++ [94]) ++ te)) := by
  have z := h7
  show OwnB _ _ _ _
  (try simp only [List.append_assoc, List.cons_append, List.nil_append] at z ⊢)
  exact z
 clear k7 h7
 go_wp2_with (first | (with_reducible refine lG (.tmp 3) B0.out ?_) | (with_reducible refine lG (.tmp 5) D0.out ?_) | (with_reducible refine lG (.tmp 6) D1.out ?_) | (with_reducible refine lG (.tmp 7) D2.out ?_))
 with_reducible refine (isOneH oc q1 _ true OC.out).mono ?_
 rintro e w8 ⟨rfl, hb⟩
 replace B0 := kB B0 hb
 replace KP := hI (KP.out.trans (Kp.of hb HB.out))
 replace KA := hI (KA.out.kp (Kp.of hb HB.out))
 replace OB := hI (OB.out.kept hb)
 replace k0 := hI (k0.out.kp (Kp.of hb HB.out))
 replace k1 := hI (k1.out.kp (Kp.of hb HB.out))
 replace k2 := hI (k2.out.kp (Kp.of hb HB.out))
 replace D0 := kB D0 hb
 replace D1 := kB D1 hb
 replace D2 := kB D2 hb
 replace HB := hI (Nat.le_trans HB.out hb.size)
 clear hb
 go_wp2_with (first | (with_reducible refine lG (.tmp 3) B0.out ?_) | (with_reducible refine lG (.tmp 5) D0.out ?_) | (with_reducible refine lG (.tmp 6) D1.out ?_) | (with_reducible refine lG (.tmp 7) D2.out ?_))
 with_reducible refine (isZeroH orr q2 _ false ZR.out).mono ?_
 rintro e w9 ⟨rfl, hb⟩
 replace B0 := kB B0 hb
 replace KP := hI (KP.out.trans (Kp.of hb HB.out))
 replace KA := hI (KA.out.kp (Kp.of hb HB.out))
 replace OB := hI (OB.out.kept hb)
 replace k0 := hI (k0.out.kp (Kp.of hb HB.out))
 replace k1 := hI (k1.out.kp (Kp.of hb HB.out))
 replace k2 := hI (k2.out.kp (Kp.of hb HB.out))
 replace D0 := kB D0 hb
 replace D1 := kB D1 hb
 replace D2 := kB D2 hb
 replace HB := hI (Nat.le_trans HB.out hb.size)
 clear hb
 go_wp2_with (first | (at_builtin; refine appStr rfl (.tmp 57) (.const (.string ⟨#[32, 43, 32]⟩)) rfl rfl OB.out [32, 43, 32] rfl (by have := HL.out; (try simp only [List.length_append, List.length_cons, List.length_nil]); omega) HB.out ?_) | (with_reducible refine lG (.tmp 3) B0.out ?_) | (with_reducible refine lG (.tmp 5) D0.out ?_) | (with_reducible refine lG (.tmp 6) D1.out ?_) | (with_reducible refine lG (.tmp 7) D2.out ?_))
 intro v10 x10 h10 k10
 replace B0 := hI (B0.out.kp k10)
 replace KP := hI (KP.out.trans k10)
 replace KA := hI (KA.out.kp k10)
 replace k0 := hI (k0.out.kp k10)
 replace k1 := hI (k1.out.kp k10)
 replace k2 := hI (k2.out.kp k10)
 replace D0 := hI (D0.out.kp k10)
 replace D1 := hI (D1.out.kp k10)
 replace D2 := hI (D2.out.kp k10)
 replace HB := hI (Nat.le_trans HB.out k10.bel.size)
 replace OB : Hid (OwnB x10 B v10 ((((l ++ [119]) ++ [94]) ++ te) ++ [32, 43, 32])) := by
  have z := h10
  show OwnB _ _ _ _
  (try simp only [List.append_assoc, List.cons_append, List.nil_append] at z ⊢)
  exact z
 clear k10 h10
 go_wp2_with (first | (with_reducible refine lG (.tmp 3) B0.out ?_) | (with_reducible refine lG (.tmp 5) D0.out ?_) | (with_reducible refine lG (.tmp 6) D1.out ?_) | (with_reducible refine lG (.tmp 7) D2.out ?_))
 with_reducible refine (IR.out _ v10 ((((l ++ [119]) ++ [94]) ++ te) ++ [32, 43, 32]) q2 HB.out OB.out (by have := HL.out; (try simp only [List.length_append, List.length_cons, List.length_nil]); omega) k2.out).mono ?_
 rintro e x11 ⟨v11, rfl, h11, k11⟩
 replace B0 := hI (B0.out.kp k11)
 replace KP := hI (KP.out.trans k11)
 replace KA := hI (KA.out.kp k11)
 replace k0 := hI (k0.out.kp k11)
 replace k1 := hI (k1.out.kp k11)
 replace k2 := hI (k2.out.kp k11)
 replace D0 := hI (D0.out.kp k11)
 replace D1 := hI (D1.out.kp k11)
 replace D2 := hI (D2.out.kp k11)
 replace HB := hI (Nat.le_trans HB.out k11.bel.size)
 replace OB : Hid (OwnB x11 B v11 (((((l ++ [119]) ++ [94]) ++ te) ++ [32, 43, 32]) ++ tr)) := by
  have z := h11
  show OwnB _ _ _ _
  (try simp only [List.append_assoc, List.cons_append, List.nil_append] at z ⊢)
  exact z
 clear k11 h11
 go_wp2_with (first | (with_reducible refine lG (.tmp 3) B0.out ?_) | (with_reducible refine lG (.tmp 5) D0.out ?_) | (with_reducible refine lG (.tmp 6) D1.out ?_) | (with_reducible refine lG (.tmp 7) D2.out ?_))
 go_ret
 exact ⟨v11, rfl, OB.out, KP.out⟩
theorem app_finc0 (oe oc orr : Ob) (te tc tr : List UInt8) (ne nc nr : Nat) (p bu : Value) (w : World) (B : Nat) (l : List UInt8) (ho : OwnB w B bu l) (hB : B ≤ w.heap.size) (hl : l.length + ne + nc + nr + 100 ≤ 1000000000000 ∧ te.length ≤ ne ∧ tc.length ≤ nc ∧ tr.length ≤ nr) (hp : Pb B w (.cons (.cons oe oc) orr) p)
 (iE : ∀ X bu l q, B ≤ X.heap.size → OwnB X B bu l → l.length + ne ≤ 1000000000000 → Pb B X oe q → Calls Tryz.prog 30 #[bu, vO oe q] X (RetA X B (l ++ te))) (iC : ∀ X bu l q, B ≤ X.heap.size → OwnB X B bu l → l.length + nc ≤ 1000000000000 → Pb B X oc q → Calls Tryz.prog 30 #[bu, vO oc q] X (RetA X B (l ++ tc))) (iR : ∀ X bu l q, B ≤ X.heap.size → OwnB X B bu l → l.length + nr ≤ 1000000000000 → Pb B X orr q → Calls Tryz.prog 30 #[bu, vO orr q] X (RetA X B (l ++ tr))) (fE : oe.isNum = true) (oE : oe.numIs 1 = false) (oC : oc.numIs 1 = false) (zR : orr.numIs 0 = true) :
 Calls Tryz.prog 30 #[bu, vO (.cons (.cons oe oc) orr) p] w (RetA w B (((((l ++ [119]) ++ [94]) ++ te) ++ [42]) ++ tc)) := by
 have OB := hI ho
 clear ho
 have HL := hI hl
 clear hl
 have HB := hI hB
 clear hB
 have KA := hI hp
 clear hp
 have IE := hI iE
 clear iE
 have IR := hI iR
 clear iR
 have IC := hI iC
 clear iC
 have FE := hI fE
 clear fE
 have OE := hI oE
 clear oE
 have OC := hI oC
 clear oC
 have ZR := hI zR
 clear zR
 obtain ⟨a0, a1, a2, a3, a4, a5, ea⟩ := cells7 (.cons (.cons oe oc) orr) p
 have T := Bx1.new w #[a0, a1, a2, a3, a4, a5, p]
 rw [vO_cells ea]
 go_enter Tryz.func30, Tryz.ntmps30
 go_wp2_with fail
 generalize w.alloc (.cells #[a0, a1, a2, a3, a4, a5, p] 35) = W at T ⊢
 have B0 : Hid (Bx W (w.heap.size) (cellsO (.cons (.cons oe oc) orr) p).toArray) := by rw [ea]; exact T.b0
 have HW := hI T.bel
 try rw [← vO_cells ea]
 clear T ea 
 have KP := hI (Kp.of HW.out HB.out)
 replace KA := hI (KA.out.kp KP.out)
 replace OB := hI (OB.out.kept HW.out)
 replace HB := hI (Nat.le_trans HB.out HW.out.size)
 clear HW
 with_reducible refine (isFinH (.cons (.cons oe oc) orr) p _ false rfl).mono ?_
 rintro e w1 ⟨rfl, hb⟩
 replace B0 := kB B0 hb
 replace KP := hI (KP.out.trans (Kp.of hb HB.out))
 replace KA := hI (KA.out.kp (Kp.of hb HB.out))
 replace OB := hI (OB.out.kept hb)
 replace HB := hI (Nat.le_trans HB.out hb.size)
 clear hb
 go_wp2_with (with_reducible refine lG (.tmp 3) B0.out ?_)
 with_reducible refine (partsS oe oc orr p _ (fun b => b < B) (fun b hb => Nat.lt_of_lt_of_le hb HB.out) (pb_pair KA.out)).mono ?_
 rintro e w2 ⟨q0, q1, q2, rfl, k0, k1, k2, hb⟩
 replace B0 := kB B0 hb
 replace KP := hI (KP.out.trans (Kp.of hb HB.out))
 replace KA := hI (KA.out.kp (Kp.of hb HB.out))
 replace OB := hI (OB.out.kept hb)
 replace HB := hI (Nat.le_trans HB.out hb.size)
 clear hb
 replace k0 := hI k0
 replace k1 := hI k1
 replace k2 := hI k2
 replace k0 : Hid (Pb B w2 oe q0) := k0
 replace k1 : Hid (Pb B w2 oc q1) := k1
 replace k2 : Hid (Pb B w2 orr q2) := k2
 have T := hI (Bx3.new w2 #[.int .i64 0, .string ⟨#[]⟩, .string ⟨#[]⟩, .string ⟨#[]⟩, .string ⟨#[]⟩, .string ⟨#[]⟩, .slice none 0 0] #[.int .i64 0, .string ⟨#[]⟩, .string ⟨#[]⟩, .string ⟨#[]⟩, .string ⟨#[]⟩, .string ⟨#[]⟩, .slice none 0 0] #[.int .i64 0, .string ⟨#[]⟩, .string ⟨#[]⟩, .string ⟨#[]⟩, .string ⟨#[]⟩, .string ⟨#[]⟩, .slice none 0 0])
 go_wp2_with (first | (with_reducible refine sB (.tmp 5) (.tmp 17) (k0.out.hd HB.out) T.out.b0 ?_) | (with_reducible refine sB (.tmp 6) (.tmp 18) (k1.out.hd HB.out) T.out.n1 ?_) | (with_reducible refine sB (.tmp 7) (.tmp 19) (k2.out.hd HB.out) T.out.n2 ?_; have P := Pt3.new (w := w2) (o0 := oe) (o1 := oc) (o2 := orr) (p0 := q0) (p1 := q1) (p2 := q2) (z0 := #[.int .i64 0, .string ⟨#[]⟩, .string ⟨#[]⟩, .string ⟨#[]⟩, .string ⟨#[]⟩, .string ⟨#[]⟩, .slice none 0 0]) (z1 := #[.int .i64 0, .string ⟨#[]⟩, .string ⟨#[]⟩, .string ⟨#[]⟩, .string ⟨#[]⟩, .string ⟨#[]⟩, .slice none 0 0]) (z2 := #[.int .i64 0, .string ⟨#[]⟩, .string ⟨#[]⟩, .string ⟨#[]⟩, .string ⟨#[]⟩, .string ⟨#[]⟩, .slice none 0 0]); generalize World.setRow (World.setRow (World.setRow (((w2.alloc (.cells #[.int .i64 0, .string ⟨#[]⟩, .string ⟨#[]⟩, .string ⟨#[]⟩, .string ⟨#[]⟩, .string ⟨#[]⟩, .slice none 0 0] 35)).alloc (.cells #[.int .i64 0, .string ⟨#[]⟩, .string ⟨#[]⟩, .string ⟨#[]⟩, .string ⟨#[]⟩, .string ⟨#[]⟩, .slice none 0 0] 35)).alloc (.cells #[.int .i64 0, .string ⟨#[]⟩, .string ⟨#[]⟩, .string ⟨#[]⟩, .string ⟨#[]⟩, .string ⟨#[]⟩, .slice none 0 0] 35)) (w2.heap.size) (cellsO (oe) q0).toArray) (w2.heap.size + 1) (cellsO (oc) q1).toArray) (w2.heap.size + 1 + 1) (cellsO (orr) q2).toArray = X2 at P ⊢; have hb := P.bel; replace B0 := kB B0 hb; replace KP := hI (KP.out.trans (Kp.of hb HB.out)); replace KA := hI (KA.out.kp (Kp.of hb HB.out)); replace OB := hI (OB.out.kept hb); replace k0 := hI (k0.out.kp (Kp.of hb HB.out)); replace k1 := hI (k1.out.kp (Kp.of hb HB.out)); replace k2 := hI (k2.out.kp (Kp.of hb HB.out)); replace HB := hI (Nat.le_trans HB.out hb.size); have D0 := hI P.b0; have D1 := hI P.b1; have D2 := hI P.b2; clear P hb T; have hal := hI (show Below X2.heap.size X2 (X2.alloc (.cells #[.int .u8 119] 5)) from Below.alloc (Below.refl _ _) (Nat.le_refl _) _); have hnw := hI (show (X2.alloc (.cells #[.int .u8 119] 5)).heap[X2.heap.size]? = some (.cells #[.int .u8 ((119 : UInt8).toNat : Int)] 5 (0, 0)) from heap_alloc_new X2 _); have hob := hI (OB.out.kept hal.out)) | (at_builtin; refine appByte rfl (.tmp 20) (.tmp 21) rfl rfl hob.out 119 X2.heap.size 1 rfl hnw.out (by have := HL.out; (try simp only [List.length_append, List.length_cons, List.length_nil]); omega) (Nat.le_trans HB.out hal.out.size) ?_) | (with_reducible refine lG (.tmp 3) B0.out ?_) | (with_reducible refine lG (.tmp 5) D0.out ?_) | (with_reducible refine lG (.tmp 6) D1.out ?_) | (with_reducible refine lG (.tmp 7) D2.out ?_))
 intro v3 x3 h3 j3
 have k3 := (Kp.of hal.out HB.out).trans j3
 replace B0 := hI (B0.out.kp k3)
 replace KP := hI (KP.out.trans k3)
 replace KA := hI (KA.out.kp k3)
 replace k0 := hI (k0.out.kp k3)
 replace k1 := hI (k1.out.kp k3)
 replace k2 := hI (k2.out.kp k3)
 replace D0 := hI (D0.out.kp k3)
 replace D1 := hI (D1.out.kp k3)
 replace D2 := hI (D2.out.kp k3)
 replace HB := hI (Nat.le_trans HB.out k3.bel.size)
 replace OB := hI h3
 clear hal hnw hob k3 j3 h3
 go_wp2_with (first | (with_reducible refine lG (.tmp 3) B0.out ?_) | (with_reducible refine lG (.tmp 5) D0.out ?_) | (with_reducible refine lG (.tmp 6) D1.out ?_) | (with_reducible refine lG (.tmp 7) D2.out ?_))
 with_reducible refine (isFinH oe q0 _ true FE.out).mono ?_
 rintro e w4 ⟨rfl, hb⟩
 replace B0 := kB B0 hb
 replace KP := hI (KP.out.trans (Kp.of hb HB.out))
 replace KA := hI (KA.out.kp (Kp.of hb HB.out))
 replace OB := hI (OB.out.kept hb)
 replace k0 := hI (k0.out.kp (Kp.of hb HB.out))
 replace k1 := hI (k1.out.kp (Kp.of hb HB.out))
 replace k2 := hI (k2.out.kp (Kp.of hb HB.out))
 replace D0 := kB D0 hb
 replace D1 := kB D1 hb
 replace D2 := kB D2 hb
 replace HB := hI (Nat.le_trans HB.out hb.size)
 clear hb
 go_wp2_with (first | (with_reducible refine lG (.tmp 3) B0.out ?_) | (with_reducible refine lG (.tmp 5) D0.out ?_) | (with_reducible refine lG (.tmp 6) D1.out ?_) | (with_reducible refine lG (.tmp 7) D2.out ?_))
 with_reducible refine (isOneH oe q0 _ false OE.out).mono ?_
 rintro e w5 ⟨rfl, hb⟩
 replace B0 := kB B0 hb
 replace KP := hI (KP.out.trans (Kp.of hb HB.out))
 replace KA := hI (KA.out.kp (Kp.of hb HB.out))
 replace OB := hI (OB.out.kept hb)
 replace k0 := hI (k0.out.kp (Kp.of hb HB.out))
 replace k1 := hI (k1.out.kp (Kp.of hb HB.out))
 replace k2 := hI (k2.out.kp (Kp.of hb HB.out))
 replace D0 := kB D0 hb
 replace D1 := kB D1 hb
 replace D2 := kB D2 hb
 replace HB := hI (Nat.le_trans HB.out hb.size)
 clear hb
 have hal := hI (show Below w5.heap.size w5 (w5.alloc (.cells #[.int .u8 94] 5)) from Below.alloc (Below.refl _ _) (Nat.le_refl _) _)
 have hnw := hI (show (w5.alloc (.cells #[.int .u8 94] 5)).heap[w5.heap.size]? = some (.cells #[.int .u8 ((94 : UInt8).toNat : Int)] 5 (0, 0)) from heap_alloc_new w5 _)
 have hob := hI (OB.out.kept hal.out)
 go_wp2_with (first | (at_builtin; refine appByte rfl (.tmp 39) (.tmp 40) rfl rfl hob.out 94 w5.heap.size 1 rfl hnw.out (by have := HL.out; (try simp only [List.length_append, List.length_cons, List.length_nil]); omega) (Nat.le_trans HB.out hal.out.size) ?_) | (with_reducible refine lG (.tmp 3) B0.out ?_) | (with_reducible refine lG (.tmp 5) D0.out ?_) | (with_reducible refine lG (.tmp 6) D1.out ?_) | (with_reducible refine lG (.tmp 7) D2.out ?_))
 intro v6 x6 h6 j6
 have k6 := (Kp.of hal.out HB.out).trans j6
 replace B0 := hI (B0.out.kp k6)
 replace KP := hI (KP.out.trans k6)
 replace KA := hI (KA.out.kp k6)
 replace k0 := hI (k0.out.kp k6)
 replace k1 := hI (k1.out.kp k6)
 replace k2 := hI (k2.out.kp k6)
 replace D0 := hI (D0.out.kp k6)
 replace D1 := hI (D1.out.kp k6)
 replace D2 := hI (D2.out.kp k6)
 replace HB := hI (Nat.le_trans HB.out k6.bel.size)
 replace OB : Hid (OwnB x6 B v6 ((l ++ [119]) ++ [94])) := by
  have z := h6
  show OwnB _ _ _ _
  (try simp only [List.append_assoc, List.cons_append, List.nil_append] at z ⊢)
  exact z
 clear hal hnw hob k6 j6 h6
 go_wp2_with (first | (with_reducible refine lG (.tmp 3) B0.out ?_) | (with_reducible refine lG (.tmp 5) D0.out ?_) | (with_reducible refine lG (.tmp 6) D1.out ?_) | (with_reducible refine lG (.tmp 7) D2.out ?_))
 with_reducible refine (IE.out _ v6 ((l ++ [119]) ++ [94]) q0 HB.out OB.out (by have := HL.out; (try simp only [List.length_append, List.length_cons, List.length_nil]); omega) k0.out).mono ?_
 rintro e x7 ⟨v7, rfl, h7, k7⟩
 replace B0 := hI (B0.out.kp k7)
 replace KP := hI (KP.out.trans k7)
 replace KA := hI (KA.out.kp k7)
 replace k0 := hI (k0.out.kp k7)
 replace k1 := hI (k1.out.kp k7)
 replace k2 := hI (k2.out.kp k7)
 replace D0 := hI (D0.out.kp k7)
 replace D1 := hI (D1.out.kp k7)
 replace D2 := hI (D2.out.kp k7)
 replace HB := hI (Nat.le_trans HB.out k7.bel.size)
 replace OB : Hid (OwnB x7 B v7 (((l ++ [119]) ++ [94]) ++ te)) := by
  have z := h7
  show OwnB _ _ _ _
  (try simp only [List.append_assoc, List.cons_append, List.nil_append] at z ⊢)
  exact z
 clear k7 h7
 go_wp2_with (first | (with_reducible refine lG (.tmp 3) B0.out ?_) | (with_reducible refine lG (.tmp 5) D0.out ?_) | (with_reducible refine lG (.tmp 6) D1.out ?_) | (with_reducible refine lG (.tmp 7) D2.out ?_))
 with_reducible refine (isOneH oc q1 _ false OC.out).mono ?_
 rintro e w8 ⟨rfl, hb⟩
 replace B0 := kB B0 hb
 replace KP := hI (KP.out.trans (Kp.of hb HB.out))
 replace KA := hI (KA.out.kp (Kp.of hb HB.out))
 replace OB := hI (OB.out.kept hb)
 replace k0 := hI (k0.out.kp (Kp.of hb HB.out))
 replace k1 := hI (k1.out.kp (Kp.of hb HB.out))
 replace k2 := hI (k2.out.kp (Kp.of hb HB.out))
 replace D0 := kB D0 hb
 replace D1 := kB D1 hb
 replace D2 := kB D2 hb
 replace HB := hI (Nat.le_trans HB.out hb.size)
 clear hb
 have hal := hI (show Below w8.heap.size w8 (w8.alloc (.cells #[.int .u8 42] 5)) from Below.alloc (Below.refl _ _) (Nat.le_refl _) _)
 have hnw := hI (show (w8.alloc (.cells #[.int .u8 42] 5)).heap[w8.heap.size]? = some (.cells #[.int .u8 ((42 : UInt8).toNat : Int)] 5 (0, 0)) from heap_alloc_new w8 _)
 have hob := hI (OB.out.kept hal.out)
 go_wp2_with (first | (at_builtin; refine appByte rfl (.tmp 48) (.tmp 49) rfl rfl hob.out 42 w8.heap.size 1 rfl hnw.out (by have := HL.out; (try simp only [List.length_append, List.length_cons, List.length_nil]); omega) (Nat.le_trans HB.out hal.out.size) ?_) | (with_reducible refine lG (.tmp 3) B0.out ?_) | (with_reducible refine lG (.tmp 5) D0.out ?_) | (with_reducible refine lG (.tmp 6) D1.out ?_) | (with_reducible refine lG (.tmp 7) D2.out ?_))
 intro v9 x9 h9 j9
 have k9 := (Kp.of hal.out HB.out).trans j9
 replace B0 := hI (B0.out.kp k9)
 replace KP := hI (KP.out.trans k9)
 replace KA := hI (KA.out.kp k9)
 replace k0 := hI (k0.out.kp k9)
 replace k1 := hI (k1.out.kp k9)
 replace k2 := hI (k2.out.kp k9)
 replace D0 := hI (D0.out.kp k9)
 replace D1 := hI (D1.out.kp k9)
 replace D2 := hI (D2.out.kp k9)
 replace HB := hI (Nat.le_trans HB.out k9.bel.size)
 replace OB : Hid (OwnB x9 B v9 ((((l ++ [119]) ++ [94]) ++ te) ++ [42])) := by
  have z := h9
  show OwnB _ _ _ _
  (try simp only [List.append_assoc, List.cons_append, List.nil_append] at z ⊢)
  exact z
 clear hal hnw hob k9 j9 h9
 go_wp2_with (first | (with_reducible refine lG (.tmp 3) B0.out ?_) | (with_reducible refine lG (.tmp 5) D0.out ?_) | (with_reducible refine lG (.tmp 6) D1.out ?_) | (with_reducible refine lG (.tmp 7) D2.out ?_))
 with_reducible refine (IC.out _ v9 ((((l ++ [119]) ++ [94]) ++ te) ++ [42]) q1 HB.out OB.out (by have := HL.out; (try simp only [List.length_append, List.length_cons, List.length_nil]); omega) k1.out).mono ?_
 rintro e x10 ⟨v10, rfl, h10, k10⟩
 replace B0 := hI (B0.out.kp k10)
 replace KP := hI (KP.out.trans k10)
 replace KA := hI (KA.out.kp k10)
 replace k0 := hI (k0.out.kp k10)
 replace k1 := hI (k1.out.kp k10)
 replace k2 := hI (k2.out.kp k10)
 replace D0 := hI (D0.out.kp k10)
 replace D1 := hI (D1.out.kp k10)
 replace D2 := hI (D2.out.kp k10)
 replace HB := hI (Nat.le_trans HB.out k10.bel.size)
 replace OB : Hid (OwnB x10 B v10 (((((l ++ [119]) ++ [94]) ++ te) ++ [42]) ++ tc)) := by
  have z := h10
  show OwnB _ _ _ _
  (try simp only [List.append_assoc, List.cons_append, List.nil_append] at z ⊢)
  exact z
 clear k10 h10
 go_wp2_with (first | (with_reducible refine lG (.tmp 3) B0.out ?_) | (with_reducible refine lG (.tmp 5) D0.out ?_) | (with_reducible refine lG (.tmp 6) D1.out ?_) | (with_reducible refine lG (.tmp 7) D2.out ?_))
 with_reducible refine (isZeroH orr q2 _ true ZR.out).mono ?_
 rintro e w11 ⟨rfl, hb⟩
 replace B0 := kB B0 hb
 replace KP := hI (KP.out.trans (Kp.of hb HB.out))
 replace KA := hI (KA.out.kp (Kp.of hb HB.out))
 replace OB := hI (OB.out.kept hb)
 replace k0 := hI (k0.out.kp (Kp.of hb HB.out))
 replace k1 := hI (k1.out.kp (Kp.of hb HB.out))
 replace k2 := hI (k2.out.kp (Kp.of hb HB.out))
 replace D0 := kB D0 hb
 replace D1 := kB D1 hb
 replace D2 := kB D2 hb
 replace HB := hI (Nat.le_trans HB.out hb.size)
 clear hb
 go_wp2_with (first | (with_reducible refine lG (.tmp 3) B0.out ?_) | (with_reducible refine lG (.tmp 5) D0.out ?_) | (with_reducible refine lG (.tmp 6) D1.out ?_) | (with_reducible refine lG (.tmp 7) D2.out ?_))
 go_ret
 exact ⟨v10, rfl, OB.out, KP.out⟩
theorem app_fincr (oe oc orr : Ob) (te tc tr : List UInt8) (ne nc nr : Nat) (p bu : Value) (w : World) (B : Nat) (l : List UInt8) (ho : OwnB w B bu l) (hB : B ≤ w.heap.size) (hl : l.length + ne + nc + nr + 100 ≤ 1000000000000 ∧ te.length ≤ ne ∧ tc.length ≤ nc ∧ tr.length ≤ nr) (hp : Pb B w (.cons (.cons oe oc) orr) p)
 (iE : ∀ X bu l q, B ≤ X.heap.size → OwnB X B bu l → l.length + ne ≤ 1000000000000 → Pb B X oe q → Calls Tryz.prog 30 #[bu, vO oe q] X (RetA X B (l ++ te))) (iC : ∀ X bu l q, B ≤ X.heap.size → OwnB X B bu l → l.length + nc ≤ 1000000000000 → Pb B X oc q → Calls Tryz.prog 30 #[bu, vO oc q] X (RetA X B (l ++ tc))) (iR : ∀ X bu l q, B ≤ X.heap.size → OwnB X B bu l → l.length + nr ≤ 1000000000000 → Pb B X orr q → Calls Tryz.prog 30 #[bu, vO orr q] X (RetA X B (l ++ tr))) (fE : oe.isNum = true) (oE : oe.numIs 1 = false) (oC : oc.numIs 1 = false) (zR : orr.numIs 0 = false) :
 Calls Tryz.prog 30 #[bu, vO (.cons (.cons oe oc) orr) p] w (RetA w B (((((((l ++ [119]) ++ [94]) ++ te) ++ [42]) ++ tc) ++ [32, 43, 32]) ++ tr)) := by
 have OB := hI ho
 clear ho
 have HL := hI hl
 clear hl
 have HB := hI hB
 clear hB
 have KA := hI hp
 clear hp
 have IE := hI iE
 clear iE
 have IR := hI iR
 clear iR
 have IC := hI iC
 clear iC
 have FE := hI fE
 clear fE
 have OE := hI oE
 clear oE
 have OC := hI oC
 clear oC
 have ZR := hI zR
 clear zR
 obtain ⟨a0, a1, a2, a3, a4, a5, ea⟩ := cells7 (.cons (.cons oe oc) orr) p
 have T := Bx1.new w #[a0, a1, a2, a3, a4, a5, p]
 rw [vO_cells ea]
 go_enter Tryz.func30, Tryz.ntmps30
 go_wp2_with fail
 generalize w.alloc (.cells #[a0, a1, a2, a3, a4, a5, p] 35) = W at T ⊢
 have B0 : Hid (Bx W (w.heap.size) (cellsO (.cons (.cons oe oc) orr) p).toArray) := by rw [ea]; exact T.b0
 have HW := hI T.bel
 try rw [← vO_cells ea]
 clear T ea 
 have KP := hI (Kp.of HW.out HB.out)
 replace KA := hI (KA.out.kp KP.out)
 replace OB := hI (OB.out.kept HW.out)
 replace HB := hI (Nat.le_trans HB.out HW.out.size)
 clear HW
 with_reducible refine (isFinH (.cons (.cons oe oc) orr) p _ false rfl).mono ?_
 rintro e w1 ⟨rfl, hb⟩
 replace B0 := kB B0 hb
 replace KP := hI (KP.out.trans (Kp.of hb HB.out))
 replace KA := hI (KA.out.kp (Kp.of hb HB.out))
 replace OB := hI (OB.out.kept hb)
 replace HB := hI (Nat.le_trans HB.out hb.size)
 clear hb
 go_wp2_with (with_reducible refine lG (.tmp 3) B0.out ?_)
 with_reducible refine (partsS oe oc orr p _ (fun b => b < B) (fun b hb => Nat.lt_of_lt_of_le hb HB.out) (pb_pair KA.out)).mono ?_
 rintro e w2 ⟨q0, q1, q2, rfl, k0, k1, k2, hb⟩
 replace B0 := kB B0 hb
 replace KP := hI (KP.out.trans (Kp.of hb HB.out))
 replace KA := hI (KA.out.kp (Kp.of hb HB.out))
 replace OB := hI (OB.out.kept hb)
 replace HB := hI (Nat.le_trans HB.out hb.size)
 clear hb
 replace k0 := hI k0
 replace k1 := hI k1
 replace k2 := hI k2
 replace k0 : Hid (Pb B w2 oe q0) := k0
 replace k1 : Hid (Pb B w2 oc q1) := k1
 replace k2 : Hid (Pb B w2 orr q2) := k2
 have T := hI (Bx3.new w2 #[.int .i64 0, .string ⟨#[]⟩, .string ⟨#[]⟩, .string ⟨#[]⟩, .string ⟨#[]⟩, .string ⟨#[]⟩, .slice none 0 0] #[.int .i64 0, .string ⟨#[]⟩, .string ⟨#[]⟩, .string ⟨#[]⟩, .string ⟨#[]⟩, .string ⟨#[]⟩, .slice none 0 0] #[.int .i64 0, .string ⟨#[]⟩, .string ⟨#[]⟩, .string ⟨#[]⟩, .string ⟨#[]⟩, .string ⟨#[]⟩, .slice none 0 0])
 go_wp2_with (first | (with_reducible refine sB (.tmp 5) (.tmp 17) (k0.out.hd HB.out) T.out.b0 ?_) | (with_reducible refine sB (.tmp 6) (.tmp 18) (k1.out.hd HB.out) T.out.n1 ?_) | (with_reducible refine sB (.tmp 7) (.tmp 19) (k2.out.hd HB.out) T.out.n2 ?_; have P := Pt3.new (w := w2) (o0 := oe) (o1 := oc) (o2 := orr) (p0 := q0) (p1 := q1) (p2 := q2) (z0 := #[.int .i64 0, .string ⟨#[]⟩, .string ⟨#[]⟩, .string ⟨#[]⟩, .string ⟨#[]⟩, .string ⟨#[]⟩, .slice none 0 0]) (z1 := #[.int .i64 0, .string ⟨#[]⟩, .string ⟨#[]⟩, .string ⟨#[]⟩, .string ⟨#[]⟩, .string ⟨#[]⟩, .slice none 0 0]) (z2 := #[.int .i64 0, .string ⟨#[]⟩, .string ⟨#[]⟩, .string ⟨#[]⟩, .string ⟨#[]⟩, .string ⟨#[]⟩, .slice none 0 0]); generalize World.setRow (World.setRow (World.setRow (((w2.alloc (.cells #[.int .i64 0, .string ⟨#[]⟩, .string ⟨#[]⟩, .string ⟨#[]⟩, .string ⟨#[]⟩, .string ⟨#[]⟩, .slice none 0 0] 35)).alloc (.cells #[.int .i64 0, .string ⟨#[]⟩, .string ⟨#[]⟩, .string ⟨#[]⟩, .string ⟨#[]⟩, .string ⟨#[]⟩, .slice none 0 0] 35)).alloc (.cells #[.int .i64 0, .string ⟨#[]⟩, .string ⟨#[]⟩, .string ⟨#[]⟩, .string ⟨#[]⟩, .string ⟨#[]⟩, .slice none 0 0] 35)) (w2.heap.size) (cellsO (oe) q0).toArray) (w2.heap.size + 1) (cellsO (oc) q1).toArray) (w2.heap.size + 1 + 1) (cellsO (orr) q2).toArray = X2 at P ⊢; have hb := P.bel; replace B0 := kB B0 hb; replace KP := hI (KP.out.trans (Kp.of hb HB.out)); replace KA := hI (KA.out.kp (Kp.of hb HB.out)); replace OB := hI (OB.out.kept hb); replace k0 := hI (k0.out.kp (Kp.of hb HB.out)); replace k1 := hI (k1.out.kp (Kp.of hb HB.out)); replace k2 := hI (k2.out.kp (Kp.of hb HB.out)); replace HB := hI (Nat.le_trans HB.out hb.size); have D0 := hI P.b0; have D1 := hI P.b1; have D2 := hI P.b2; clear P hb T; have hal := hI (show Below X2.heap.size X2 (X2.alloc (.cells #[.int .u8 119] 5)) from Below.alloc (Below.refl _ _) (Nat.le_refl _) _); have hnw := hI (show (X2.alloc (.cells #[.int .u8 119] 5)).heap[X2.heap.size]? = some (.cells #[.int .u8 ((119 : UInt8).toNat : Int)] 5 (0, 0)) from heap_alloc_new X2 _); have hob := hI (OB.out.kept hal.out)) | (at_builtin; refine appByte rfl (.tmp 20) (.tmp 21) rfl rfl hob.out 119 X2.heap.size 1 rfl hnw.out (by have := HL.out; (try simp only [List.length_append, List.length_cons, List.length_nil]); omega) (Nat.le_trans HB.out hal.out.size) ?_) | (with_reducible refine lG (.tmp 3) B0.out ?_) | (with_reducible refine lG (.tmp 5) D0.out ?_) | (with_reducible refine lG (.tmp 6) D1.out ?_) | (with_reducible refine lG (.tmp 7) D2.out ?_))
 intro v3 x3 h3 j3
 have k3 := (Kp.of hal.out HB.out).trans j3
 replace B0 := hI (B0.out.kp k3)
 replace KP := hI (KP.out.trans k3)
 replace KA := hI (KA.out.kp k3)
 replace k0 := hI (k0.out.kp k3)
 replace k1 := hI (k1.out.kp k3)
 replace k2 := hI (k2.out.kp k3)
 replace D0 := hI (D0.out.kp k3)
 replace D1 := hI (D1.out.kp k3)
 replace D2 := hI (D2.out.kp k3)
 replace HB := hI (Nat.le_trans HB.out k3.bel.size)
 replace OB := hI h3
 clear hal hnw hob k3 j3 h3
 go_wp2_with (first | (with_reducible refine lG (.tmp 3) B0.out ?_) | (with_reducible refine lG (.tmp 5) D0.out ?_) | (with_reducible refine lG (.tmp 6) D1.out ?_) | (with_reducible refine lG (.tmp 7) D2.out ?_))
 with_reducible refine (isFinH oe q0 _ true FE.out).mono ?_
 rintro e w4 ⟨rfl, hb⟩
 replace B0 := kB B0 hb
 replace KP := hI (KP.out.trans (Kp.of hb HB.out))
 replace KA := hI (KA.out.kp (Kp.of hb HB.out))
 replace OB := hI (OB.out.kept hb)
 replace k0 := hI (k0.out.kp (Kp.of hb HB.out))
 replace k1 := hI (k1.out.kp (Kp.of hb HB.out))
 replace k2 := hI (k2.out.kp (Kp.of hb HB.out))
 replace D0 := kB D0 hb
 replace D1 := kB D1 hb
 replace D2 := kB D2 hb
 replace HB := hI (Nat.le_trans HB.out hb.size)
 clear hb
 go_wp2_with (first | (with_reducible refine lG (.tmp 3) B0.out ?_) | (with_reducible refine lG (.tmp 5) D0.out ?_) | (with_reducible refine lG (.tmp 6) D1.out ?_) | (with_reducible refine lG (.tmp 7) D2.out ?_))
 with_reducible refine (isOneH oe q0 _ false OE.out).mono ?_
 rintro e w5 ⟨rfl, hb⟩
 replace B0 := kB B0 hb
 replace KP := hI (KP.out.trans (Kp.of hb HB.out))
 replace KA := hI (KA.out.kp (Kp.of hb HB.out))
 replace OB := hI (OB.out.kept hb)
 replace k0 := hI (k0.out.kp (Kp.of hb HB.out))
 replace k1 := hI (k1.out.kp (Kp.of hb HB.out))
 replace k2 := hI (k2.out.kp (Kp.of hb HB.out))
 replace D0 := kB D0 hb
 replace D1 := kB D1 hb
 replace D2 := kB D2 hb
 replace HB := hI (Nat.le_trans HB.out hb.size)
 clear hb
 have hal := hI (show Below w5.heap.size w5 (w5.alloc (.cells #[.int .u8 94] 5)) from Below.alloc (Below.refl _ _) (Nat.le_refl _) _)
 have hnw := hI (show (w5.alloc (.cells #[.int .u8 94] 5)).heap[w5.heap.size]? = some (.cells #[.int .u8 ((94 : UInt8).toNat : Int)] 5 (0, 0)) from heap_alloc_new w5 _)
 have hob := hI (OB.out.kept hal.out)
 go_wp2_with (first | (at_builtin; refine appByte rfl (.tmp 39) (.tmp 40) rfl rfl hob.out 94 w5.heap.size 1 rfl hnw.out (by have := HL.out; (try simp only [List.length_append, List.length_cons, List.length_nil]); omega) (Nat.le_trans HB.out hal.out.size) ?_) | (with_reducible refine lG (.tmp 3) B0.out ?_) | (with_reducible refine lG (.tmp 5) D0.out ?_) | (with_reducible refine lG (.tmp 6) D1.out ?_) | (with_reducible refine lG (.tmp 7) D2.out ?_))
 intro v6 x6 h6 j6
 have k6 := (Kp.of hal.out HB.out).trans j6
 replace B0 := hI (B0.out.kp k6)
 replace KP := hI (KP.out.trans k6)
 replace KA := hI (KA.out.kp k6)
 replace k0 := hI (k0.out.kp k6)
 replace k1 := hI (k1.out.kp k6)
 replace k2 := hI (k2.out.kp k6)
 replace D0 := hI (D0.out.kp k6)
 replace D1 := hI (D1.out.kp k6)
 replace D2 := hI (D2.out.kp k6)
 replace HB := hI (Nat.le_trans HB.out k6.bel.size)
 replace OB : Hid (OwnB x6 B v6 ((l ++ [119]) ++ [94])) := by
  have z := h6
  show OwnB _ _ _ _
  (try simp only [List.append_assoc, List.cons_append, List.nil_append] at z ⊢)
  exact z
 clear hal hnw hob k6 j6 h6
 go_wp2_with (first | (with_reducible refine lG (.tmp 3) B0.out ?_) | (with_reducible refine lG (.tmp 5) D0.out ?_) | (with_reducible refine lG (.tmp 6) D1.out ?_) | (with_reducible refine lG (.tmp 7) D2.out ?_))
 with_reducible refine (IE.out _ v6 ((l ++ [119]) ++ [94]) q0 HB.out OB.out (by have := HL.out; (try simp only [List.length_append, List.length_cons, List.length_nil]); omega) k0.out).mono ?_
 rintro e x7 ⟨v7, rfl, h7, k7⟩
 replace B0 := hI (B0.out.kp k7)
 replace KP := hI (KP.out.trans k7)
 replace KA := hI (KA.out.kp k7)
 replace k0 := hI (k0.out.kp k7)
 replace k1 := hI (k1.out.kp k7)
 replace k2 := hI (k2.out.kp k7)
 replace D0 := hI (D0.out.kp k7)
 replace D1 := hI (D1.out.kp k7)
 replace D2 := hI (D2.out.kp k7)
 replace HB := hI (Nat.le_trans HB.out k7.bel.size)
 replace OB : Hid (OwnB x7 B v7 (((l ++ [119]) ++ [94]) ++ te)) := by
  have z := h7
  show OwnB _ _ _ _
  (try simp only [List.append_assoc, List.cons_append, List.nil_append] at z ⊢)
  exact z
 clear k7 h7
 go_wp2_with (first | (with_reducible refine lG (.tmp 3) B0.out ?_) | (with_reducible refine lG (.tmp 5) D0.out ?_) | (with_reducible refine lG (.tmp 6) D1.out ?_) | (with_reducible refine lG (.tmp 7) D2.out ?_))
 with_reducible refine (isOneH oc q1 _ false OC.out).mono ?_
 rintro e w8 ⟨rfl, hb⟩
 replace B0 := kB B0 hb
 replace KP := hI (KP.out.trans (Kp.of hb HB.out))
 replace KA := hI (KA.out.kp (Kp.of hb HB.out))
 replace OB := hI (OB.out.kept hb)
 replace k0 := hI (k0.out.kp (Kp.of hb HB.out))
 replace k1 := hI (k1.out.kp (Kp.of hb HB.out))
 replace k2 := hI (k2.out.kp (Kp.of hb HB.out))
 replace D0 := kB D0 hb
 replace D1 := kB D1 hb
 replace D2 := kB D2 hb
 replace HB := hI (Nat.le_trans HB.out hb.size)
 clear hb
 have hal := hI (show Below w8.heap.size w8 (w8.alloc (.cells #[.int .u8 42] 5)) from Below.alloc (Below.refl _ _) (Nat.le_refl _) _)
 have hnw := hI (show (w8.alloc (.cells #[.int .u8 42] 5)).heap[w8.heap.size]? = some (.cells #[.int .u8 ((42 : UInt8).toNat : Int)] 5 (0, 0)) from heap_alloc_new w8 _)
 have hob := hI (OB.out.kept hal.out)
 go_wp2_with (first | (at_builtin; refine appByte rfl (.tmp 48) (.tmp 49) rfl rfl hob.out 42 w8.heap.size 1 rfl hnw.out (by have := HL.out; (try simp only [List.length_append, List.length_cons, List.length_nil]); omega) (Nat.le_trans HB.out hal.out.size) ?_) | (with_reducible refine lG (.tmp 3) B0.out ?_) | (with_reducible refine lG (.tmp 5) D0.out ?_) | (with_reducible refine lG (.tmp 6) D1.out ?_) | (with_reducible refine lG (.tmp 7) D2.out ?_))
 intro v9 x9 h9 j9
 have k9 := (Kp.of hal.out HB.out).trans j9
 replace B0 := hI (B0.out.kp k9)
 replace KP := hI (KP.out.trans k9)
 replace KA := hI (KA.out.kp k9)
 replace k0 := hI (k0.out.kp k9)
 replace k1 := hI (k1.out.kp k9)
 replace k2 := hI (k2.out.kp k9)
 replace D0 := hI (D0.out.kp k9)
 replace D1 := hI (D1.out.kp k9)
 replace D2 := hI (D2.out.kp k9)
 replace HB := hI (Nat.le_trans HB.out k9.bel.size)
 replace OB : Hid (OwnB x9 B v9 ((((l ++ [119]) ++ [94]) ++ te) ++ [42])) := by
  have z := h9
  show OwnB _ _ _ _
  (try simp only [List.append_assoc, List.cons_append, List.nil_append] at z ⊢)
  exact z
 clear hal hnw hob k9 j9 h9
 go_wp2_with (first | (with_reducible refine lG (.tmp 3) B0.out ?_) | (with_reducible refine lG (.tmp 5) D0.out ?_) | (with_reducible refine lG (.tmp 6) D1.out ?_) | (with_reducible refine lG (.tmp 7) D2.out ?_))
 with_reducible refine (IC.out _ v9 ((((l ++ [119]) ++ [94]) ++ te) ++ [42]) q1 HB.out OB.out (by have := HL.out; (try simp only [List.length_append, List.length_cons, List.length_nil]); omega) k1.out).mono ?_
 rintro e x10 ⟨v10, rfl, h10, k10⟩
 replace B0 := hI (B0.out.kp k10)
 replace KP := hI (KP.out.trans k10)
 replace KA := hI (KA.out.kp k10)
 replace k0 := hI (k0.out.kp k10)
 replace k1 := hI (k1.out.kp k10)
 replace k2 := hI (k2.out.kp k10)
 replace D0 := hI (D0.out.kp k10)
 replace D1 := hI (D1.out.kp k10)
 replace D2 := hI (D2.out.kp k10)
 replace HB := hI (Nat.le_trans HB.out k10.bel.size)
 replace OB : Hid (OwnB x10 B v10 (((((l ++ [119]) ++ [94]) ++ te) ++ [42]) ++ tc)) := by
  have z := h10
  show OwnB _ _ _ _
  (try simp only [List.append_assoc, List.cons_append, List.nil_append] at z ⊢)
  exact z
 clear k10 h10
 go_wp2_with (first | (with_reducible refine lG (.tmp 3) B0.out ?_) | (with_reducible refine lG (.tmp 5) D0.out ?_) | (with_reducible refine lG (.tmp 6) D1.out ?_) | (with_reducible refine lG (.tmp 7) D2.out ?_))
 with_reducible refine (isZeroH orr q2 _ false ZR.out).mono ?_
 rintro e w11 ⟨rfl, hb⟩
 replace B0 := kB B0 hb
 replace KP := hI (KP.out.trans (Kp.of hb HB.out))
 replace KA := hI (KA.out.kp (Kp.of hb HB.out))
 replace OB := hI (OB.out.kept hb)
 replace k0 := hI (k0.out.kp (Kp.of hb HB.out))
 replace k1 := hI (k1.out.kp (Kp.of hb HB.out))
 replace k2 := hI (k2.out.kp (Kp.of hb HB.out))
 replace D0 := kB D0 hb
 replace D1 := kB D1 hb
 replace D2 := kB D2 hb
 replace HB := hI (Nat.le_trans HB.out hb.size)
 clear hb
 go_wp2_with (first | (at_builtin; refine appStr rfl (.tmp 57) (.const (.string ⟨#[32, 43, 32]⟩)) rfl rfl OB.out [32, 43, 32] rfl (by have := HL.out; (try simp only [List.length_append, List.length_cons, List.length_nil]); omega) HB.out ?_) | (with_reducible refine lG (.tmp 3) B0.out ?_) | (with_reducible refine lG (.tmp 5) D0.out ?_) | (with_reducible refine lG (.tmp 6) D1.out ?_) | (with_reducible refine lG (.tmp 7) D2.out ?_))
 intro v12 x12 h12 k12
 replace B0 := hI (B0.out.kp k12)
 replace KP := hI (KP.out.trans k12)
 replace KA := hI (KA.out.kp k12)
 replace k0 := hI (k0.out.kp k12)
 replace k1 := hI (k1.out.kp k12)
 replace k2 := hI (k2.out.kp k12)
 replace D0 := hI (D0.out.kp k12)
 replace D1 := hI (D1.out.kp k12)
 replace D2 := hI (D2.out.kp k12)
 replace HB := hI (Nat.le_trans HB.out k12.bel.size)
 replace OB : Hid (OwnB x12 B v12 ((((((l ++ [119]) ++ [94]) ++ te) ++ [42]) ++ tc) ++ [32, 43, 32])) := by
  have z := h12
  show OwnB _ _ _ _
  (try simp only [List.append_assoc, List.cons_append, List.nil_append] at z ⊢)
  exact z
 clear k12 h12
 go_wp2_with (first | (with_reducible refine lG (.tmp 3) B0.out ?_) | (with_reducible refine lG (.tmp 5) D0.out ?_) | (with_reducible refine lG (.tmp 6) D1.out ?_) | (with_reducible refine lG (.tmp 7) D2.out ?_))
 with_reducible refine (IR.out _ v12 ((((((l ++ [119]) ++ [94]) ++ te) ++ [42]) ++ tc) ++ [32, 43, 32]) q2 HB.out OB.out (by have := HL.out; (try simp only [List.length_append, List.length_cons, List.length_nil]); omega) k2.out).mono ?_
 rintro e x13 ⟨v13, rfl, h13, k13⟩
 replace B0 := hI (B0.out.kp k13)
 replace KP := hI (KP.out.trans k13)
 replace KA := hI (KA.out.kp k13)
 replace k0 := hI (k0.out.kp k13)
 replace k1 := hI (k1.out.kp k13)
 replace k2 := hI (k2.out.kp k13)
 replace D0 := hI (D0.out.kp k13)
 replace D1 := hI (D1.out.kp k13)
 replace D2 := hI (D2.out.kp k13)
 replace HB := hI (Nat.le_trans HB.out k13.bel.size)
 replace OB : Hid (OwnB x13 B v13 (((((((l ++ [119]) ++ [94]) ++ te) ++ [42]) ++ tc) ++ [32, 43, 32]) ++ tr)) := by
  have z := h13
  show OwnB _ _ _ _
  (try simp only [List.append_assoc, List.cons_append, List.nil_append] at z ⊢)
  exact z
 clear k13 h13
 go_wp2_with (first | (with_reducible refine lG (.tmp 3) B0.out ?_) | (with_reducible refine lG (.tmp 5) D0.out ?_) | (with_reducible refine lG (.tmp 6) D1.out ?_) | (with_reducible refine lG (.tmp 7) D2.out ?_))
 go_ret
 exact ⟨v13, rfl, OB.out, KP.out⟩
end Go.Proofs.YtocbedijpomemaaGreatDoor
