/- The program's appendText of a number. -/
import Derived.Test.YtobjdkblpjmbjaaGreatDoorG19
import Derived.Test.YtobjdkblpjmbjaaGreatDoorG25
import Derived.Test.YtobjdkblpjmbjaaGreatDoorG20
import Derived.Test.YtobjdkblpjmbjaaGreatDoorG21
import Derived.Test.YtobjdkblpjmbjaaGreatDoorG24
namespace Go.Proofs.YtobjdkblpjmbjaaGreatDoor
open Go Go.RowKit
set_option linter.unusedVariables false
theorem pb_pair {B : Nat} {w : World} {o : Ob} {p : Value} (h : Pb B w o p) : Pair w (fun b => b < B) o p := h
set_option maxHeartbeats 4000000 in
set_option maxRecDepth 100000 in
theorem appNum (q : Rat) (p bu : Value) (w : World) (B : Nat) (l : List UInt8) (ho : OwnB w B bu l) (hB : B ≤ w.heap.size) (hl : l.length + (text q.num).length ≤ 1000000000000) (hp : Hd w (.num q) p) :
 Calls Tryz.prog 74 #[bu, vO (.num q) p] w (RetA w B (l ++ text q.num)) := by
 have HO := hI ho
 have HL := hI hl
 have HB := hI hB
 clear ho hl hB
 have ea : cellsO (.num q) p = [.int .i64 1, .string (nt q), .string (dt q), .string ⟨#[]⟩, .string ⟨#[]⟩, .string ⟨#[]⟩, p] := rfl
 have T := Bx1.new w #[.int .i64 1, .string (nt q), .string (dt q), .string ⟨#[]⟩, .string ⟨#[]⟩, .string ⟨#[]⟩, p]
 rw [vO_cells ea]
 go_enter Tryz.func74, Tryz.ntmps74
 go_wp2_with fail
 generalize w.alloc (.cells #[.int .i64 1, .string (nt q), .string (dt q), .string ⟨#[]⟩, .string ⟨#[]⟩, .string ⟨#[]⟩, p] 35) = W at T ⊢
 have B0 : Hid (Bx W (w.heap.size) (cellsO (.num q) p).toArray) := by rw [ea]; exact T.b0
 have K0 := hI (hp.below T.bel)
 have HW := hI T.bel
 try rw [← vO_cells ea]
 clear T ea hp
 with_reducible refine (isFinH (.num q) p _ true rfl).mono ?_
 rintro e w1 ⟨rfl, hb⟩
 replace B0 := kB B0 hb
 replace K0 := kH K0 hb
 replace HW := kW HW hb
 clear hb
 obtain ⟨m0, m1, m2, m3, m4, m5, m6⟩ := Bx.c B0.out
 have HO2 := hI (HO.out.kept HW.out)
 have HB2 := hI (Nat.le_trans HB.out HW.out.size)
 clear HO B0 K0
 go_wp2_with (at_builtin; refine appStr rfl (.tmp 10) (.tmp 12) rfl rfl HO2.out (text q.num) rfl HL.out HB2.out ?_)
 intro v2 w2 h2 k2
 have H2 := hI h2
 have KP := hI ((Kp.of HW.out HB.out).trans k2)
 clear h2 k2
 go_wp2
 go_ret
 exact ⟨v2, rfl, H2.out, KP.out⟩
set_option maxHeartbeats 4000000 in
set_option maxRecDepth 100000 in
theorem app_one1r (oe oc orr : Ob) (te tc tr : List UInt8) (ne nc nr : Nat) (p bu : Value) (w : World) (B : Nat) (l : List UInt8) (ho : OwnB w B bu l) (hB : B ≤ w.heap.size) (hl : l.length + ne + nc + nr + 100 ≤ 1000000000000 ∧ te.length ≤ ne ∧ tc.length ≤ nc ∧ tr.length ≤ nr) (hp : Pb B w (.cons (.cons oe oc) orr) p)
 (iE : ∀ X bu l q, B ≤ X.heap.size → OwnB X B bu l → l.length + ne ≤ 1000000000000 → Pb B X oe q → Calls Tryz.prog 74 #[bu, vO oe q] X (RetA X B (l ++ te))) (iC : ∀ X bu l q, B ≤ X.heap.size → OwnB X B bu l → l.length + nc ≤ 1000000000000 → Pb B X oc q → Calls Tryz.prog 74 #[bu, vO oc q] X (RetA X B (l ++ tc))) (iR : ∀ X bu l q, B ≤ X.heap.size → OwnB X B bu l → l.length + nr ≤ 1000000000000 → Pb B X orr q → Calls Tryz.prog 74 #[bu, vO orr q] X (RetA X B (l ++ tr))) (fE : oe.isNum = true) (oE : oe.numIs 1 = true) (oC : oc.numIs 1 = true) (zR : orr.numIs 0 = false) :
 Calls Tryz.prog 74 #[bu, vO (.cons (.cons oe oc) orr) p] w (RetA w B (((l ++ [119]) ++ [32, 43, 32]) ++ tr)) := by
 have OB := hI ho
 clear ho
 have HL := hI hl
 clear hl
 have HB := hI hB
 clear hB
 have KA := hI hp
 clear hp
 have IE := hI iE
 clear iE
 have IR := hI iR
 clear iR
 have IC := hI iC
 clear iC
 have FE := hI fE
 clear fE
 have OE := hI oE
 clear oE
 have OC := hI oC
 clear oC
 have ZR := hI zR
 clear zR
 obtain ⟨a0, a1, a2, a3, a4, a5, ea⟩ := cells7 (.cons (.cons oe oc) orr) p
 have T := Bx1.new w #[a0, a1, a2, a3, a4, a5, p]
 rw [vO_cells ea]
 go_enter Tryz.func74, Tryz.ntmps74
 go_wp2_with fail
 generalize w.alloc (.cells #[a0, a1, a2, a3, a4, a5, p] 35) = W at T ⊢
 have B0 : Hid (Bx W (w.heap.size) (cellsO (.cons (.cons oe oc) orr) p).toArray) := by rw [ea]; exact T.b0
 have HW := hI T.bel
 try rw [← vO_cells ea]
 clear T ea 
 have KP := hI (Kp.of HW.out HB.out)
 replace KA := hI (KA.out.kp KP.out)
 replace OB := hI (OB.out.kept HW.out)
 replace HB := hI (Nat.le_trans HB.out HW.out.size)
 clear HW
 with_reducible refine (isFinH (.cons (.cons oe oc) orr) p _ false rfl).mono ?_
 rintro e w1 ⟨rfl, hb⟩
 replace B0 := kB B0 hb
 replace KP := hI (KP.out.trans (Kp.of hb HB.out))
 replace KA := hI (KA.out.kp (Kp.of hb HB.out))
 replace OB := hI (OB.out.kept hb)
 replace HB := hI (Nat.le_trans HB.out hb.size)
 clear hb
 go_wp2_with (with_reducible refine lG (.tmp 3) B0.out ?_)
 with_reducible refine (partsS oe oc orr p _ (fun b => b < B) (fun b hb => Nat.lt_of_lt_of_le hb HB.out) (pb_pair KA.out)).mono ?_
 rintro e w2 ⟨q0, q1, q2, rfl, k0, k1, k2, hb⟩
 replace B0 := kB B0 hb
 replace KP := hI (KP.out.trans (Kp.of hb HB.out))
 replace KA := hI (KA.out.kp (Kp.of hb HB.out))
 replace OB := hI (OB.out.kept hb)
 replace HB := hI (Nat.le_trans HB.out hb.size)
 clear hb
 replace k0 := hI k0
 replace k1 := hI k1
 replace k2 := hI k2
 replace k0 : Hid (Pb B w2 oe q0) := k0
 replace k1 : Hid (Pb B w2 oc q1) := k1
 replace k2 : Hid (Pb B w2 orr q2) := k2
 have T := hI (Bx3.new w2 #[.int .i64 0, .string ⟨#[]⟩, .string ⟨#[]⟩, .string ⟨#[]⟩, .string ⟨#[]⟩, .string ⟨#[]⟩, .slice none 0 0] #[.int .i64 0, .string ⟨#[]⟩, .string ⟨#[]⟩, .string ⟨#[]⟩, .string ⟨#[]⟩, .string ⟨#[]⟩, .slice none 0 0] #[.int .i64 0, .string ⟨#[]⟩, .string ⟨#[]⟩, .string ⟨#[]⟩, .string ⟨#[]⟩, .string ⟨#[]⟩, .slice none 0 0])
 go_wp2_with (first | (with_reducible refine sB (.tmp 5) (.tmp 17) (k0.out.hd HB.out) T.out.b0 ?_) | (with_reducible refine sB (.tmp 6) (.tmp 18) (k1.out.hd HB.out) T.out.n1 ?_) | (with_reducible refine sB (.tmp 7) (.tmp 19) (k2.out.hd HB.out) T.out.n2 ?_; have P := Pt3.new (w := w2) (o0 := oe) (o1 := oc) (o2 := orr) (p0 := q0) (p1 := q1) (p2 := q2) (z0 := #[.int .i64 0, .string ⟨#[]⟩, .string ⟨#[]⟩, .string ⟨#[]⟩, .string ⟨#[]⟩, .string ⟨#[]⟩, .slice none 0 0]) (z1 := #[.int .i64 0, .string ⟨#[]⟩, .string ⟨#[]⟩, .string ⟨#[]⟩, .string ⟨#[]⟩, .string ⟨#[]⟩, .slice none 0 0]) (z2 := #[.int .i64 0, .string ⟨#[]⟩, .string ⟨#[]⟩, .string ⟨#[]⟩, .string ⟨#[]⟩, .string ⟨#[]⟩, .slice none 0 0]); generalize World.setRow (World.setRow (World.setRow (((w2.alloc (.cells #[.int .i64 0, .string ⟨#[]⟩, .string ⟨#[]⟩, .string ⟨#[]⟩, .string ⟨#[]⟩, .string ⟨#[]⟩, .slice none 0 0] 35)).alloc (.cells #[.int .i64 0, .string ⟨#[]⟩, .string ⟨#[]⟩, .string ⟨#[]⟩, .string ⟨#[]⟩, .string ⟨#[]⟩, .slice none 0 0] 35)).alloc (.cells #[.int .i64 0, .string ⟨#[]⟩, .string ⟨#[]⟩, .string ⟨#[]⟩, .string ⟨#[]⟩, .string ⟨#[]⟩, .slice none 0 0] 35)) (w2.heap.size) (cellsO (oe) q0).toArray) (w2.heap.size + 1) (cellsO (oc) q1).toArray) (w2.heap.size + 1 + 1) (cellsO (orr) q2).toArray = X2 at P ⊢; have hb := P.bel; replace B0 := kB B0 hb; replace KP := hI (KP.out.trans (Kp.of hb HB.out)); replace KA := hI (KA.out.kp (Kp.of hb HB.out)); replace OB := hI (OB.out.kept hb); replace k0 := hI (k0.out.kp (Kp.of hb HB.out)); replace k1 := hI (k1.out.kp (Kp.of hb HB.out)); replace k2 := hI (k2.out.kp (Kp.of hb HB.out)); replace HB := hI (Nat.le_trans HB.out hb.size); have D0 := hI P.b0; have D1 := hI P.b1; have D2 := hI P.b2; clear P hb T; have hal := hI (show Below X2.heap.size X2 (X2.alloc (.cells #[.int .u8 119] 5)) from Below.alloc (Below.refl _ _) (Nat.le_refl _) _); have hnw := hI (show (X2.alloc (.cells #[.int .u8 119] 5)).heap[X2.heap.size]? = some (.cells #[.int .u8 ((119 : UInt8).toNat : Int)] 5 (0, 0)) from heap_alloc_new X2 _); have hob := hI (OB.out.kept hal.out)) | (at_builtin; refine appByte rfl (.tmp 20) (.tmp 21) rfl rfl hob.out 119 X2.heap.size 1 rfl hnw.out (by have := HL.out; (try simp only [List.length_append, List.length_cons, List.length_nil]); omega) (Nat.le_trans HB.out hal.out.size) ?_) | (with_reducible refine lG (.tmp 3) B0.out ?_) | (with_reducible refine lG (.tmp 5) D0.out ?_) | (with_reducible refine lG (.tmp 6) D1.out ?_) | (with_reducible refine lG (.tmp 7) D2.out ?_))
 intro v3 x3 h3 j3
 have k3 := (Kp.of hal.out HB.out).trans j3
 replace B0 := hI (B0.out.kp k3)
 replace KP := hI (KP.out.trans k3)
 replace KA := hI (KA.out.kp k3)
 replace k0 := hI (k0.out.kp k3)
 replace k1 := hI (k1.out.kp k3)
 replace k2 := hI (k2.out.kp k3)
 replace D0 := hI (D0.out.kp k3)
 replace D1 := hI (D1.out.kp k3)
 replace D2 := hI (D2.out.kp k3)
 replace HB := hI (Nat.le_trans HB.out k3.bel.size)
 replace OB := hI h3
 clear hal hnw hob k3 j3 h3
 go_wp2_with (first | (with_reducible refine lG (.tmp 3) B0.out ?_) | (with_reducible refine lG (.tmp 5) D0.out ?_) | (with_reducible refine lG (.tmp 6) D1.out ?_) | (with_reducible refine lG (.tmp 7) D2.out ?_))
 with_reducible refine (isFinH oe q0 _ true FE.out).mono ?_
 rintro e w4 ⟨rfl, hb⟩
 replace B0 := kB B0 hb
 replace KP := hI (KP.out.trans (Kp.of hb HB.out))
 replace KA := hI (KA.out.kp (Kp.of hb HB.out))
 replace OB := hI (OB.out.kept hb)
 replace k0 := hI (k0.out.kp (Kp.of hb HB.out))
 replace k1 := hI (k1.out.kp (Kp.of hb HB.out))
 replace k2 := hI (k2.out.kp (Kp.of hb HB.out))
 replace D0 := kB D0 hb
 replace D1 := kB D1 hb
 replace D2 := kB D2 hb
 replace HB := hI (Nat.le_trans HB.out hb.size)
 clear hb
 go_wp2_with (first | (with_reducible refine lG (.tmp 3) B0.out ?_) | (with_reducible refine lG (.tmp 5) D0.out ?_) | (with_reducible refine lG (.tmp 6) D1.out ?_) | (with_reducible refine lG (.tmp 7) D2.out ?_))
 with_reducible refine (isOneH oe q0 _ true OE.out).mono ?_
 rintro e w5 ⟨rfl, hb⟩
 replace B0 := kB B0 hb
 replace KP := hI (KP.out.trans (Kp.of hb HB.out))
 replace KA := hI (KA.out.kp (Kp.of hb HB.out))
 replace OB := hI (OB.out.kept hb)
 replace k0 := hI (k0.out.kp (Kp.of hb HB.out))
 replace k1 := hI (k1.out.kp (Kp.of hb HB.out))
 replace k2 := hI (k2.out.kp (Kp.of hb HB.out))
 replace D0 := kB D0 hb
 replace D1 := kB D1 hb
 replace D2 := kB D2 hb
 replace HB := hI (Nat.le_trans HB.out hb.size)
 clear hb
 go_wp2_with (first | (with_reducible refine lG (.tmp 3) B0.out ?_) | (with_reducible refine lG (.tmp 5) D0.out ?_) | (with_reducible refine lG (.tmp 6) D1.out ?_) | (with_reducible refine lG (.tmp 7) D2.out ?_))
 with_reducible refine (isOneH oc q1 _ true OC.out).mono ?_
 rintro e w6 ⟨rfl, hb⟩
 replace B0 := kB B0 hb
 replace KP := hI (KP.out.trans (Kp.of hb HB.out))
 replace KA := hI (KA.out.kp (Kp.of hb HB.out))
 replace OB := hI (OB.out.kept hb)
 replace k0 := hI (k0.out.kp (Kp.of hb HB.out))
 replace k1 := hI (k1.out.kp (Kp.of hb HB.out))
 replace k2 := hI (k2.out.kp (Kp.of hb HB.out))
 replace D0 := kB D0 hb
 replace D1 := kB D1 hb
 replace D2 := kB D2 hb
 replace HB := hI (Nat.le_trans HB.out hb.size)
 clear hb
 go_wp2_with (first | (with_reducible refine lG (.tmp 3) B0.out ?_) | (with_reducible refine lG (.tmp 5) D0.out ?_) | (with_reducible refine lG (.tmp 6) D1.out ?_) | (with_reducible refine lG (.tmp 7) D2.out ?_))
 with_reducible refine (isZeroH orr q2 _ false ZR.out).mono ?_
 rintro e w7 ⟨rfl, hb⟩
 replace B0 := kB B0 hb
 replace KP := hI (KP.out.trans (Kp.of hb HB.out))
 replace KA := hI (KA.out.kp (Kp.of hb HB.out))
 replace OB := hI (OB.out.kept hb)
 replace k0 := hI (k0.out.kp (Kp.of hb HB.out))
 replace k1 := hI (k1.out.kp (Kp.of hb HB.out))
 replace k2 := hI (k2.out.kp (Kp.of hb HB.out))
 replace D0 := kB D0 hb
 replace D1 := kB D1 hb
 replace D2 := kB D2 hb
 replace HB := hI (Nat.le_trans HB.out hb.size)
 clear hb
 go_wp2_with (first | (at_builtin; refine appStr rfl (.tmp 57) (.const (.string ⟨#[32, 43, 32]⟩)) rfl rfl OB.out [32, 43, 32] rfl (by have := HL.out; (try simp only [List.length_append, List.length_cons, List.length_nil]); omega) HB.out ?_) | (with_reducible refine lG (.tmp 3) B0.out ?_) | (with_reducible refine lG (.tmp 5) D0.out ?_) | (with_reducible refine lG (.tmp 6) D1.out ?_) | (with_reducible refine lG (.tmp 7) D2.out ?_))
 intro v8 x8 h8 k8
 replace B0 := hI (B0.out.kp k8)
 replace KP := hI (KP.out.trans k8)
 replace KA := hI (KA.out.kp k8)
 replace k0 := hI (k0.out.kp k8)
 replace k1 := hI (k1.out.kp k8)
 replace k2 := hI (k2.out.kp k8)
 replace D0 := hI (D0.out.kp k8)
 replace D1 := hI (D1.out.kp k8)
 replace D2 := hI (D2.out.kp k8)
 replace HB := hI (Nat.le_trans HB.out k8.bel.size)
 replace OB : Hid (OwnB x8 B v8 ((l ++ [119]) ++ [32, 43, 32])) := by
  have z := h8
  show OwnB _ _ _ _
  (try simp only [List.append_assoc, List.cons_append, List.nil_append] at z ⊢)
  exact z
 clear k8 h8
 go_wp2_with (first | (with_reducible refine lG (.tmp 3) B0.out ?_) | (with_reducible refine lG (.tmp 5) D0.out ?_) | (with_reducible refine lG (.tmp 6) D1.out ?_) | (with_reducible refine lG (.tmp 7) D2.out ?_))
 with_reducible refine (IR.out _ v8 ((l ++ [119]) ++ [32, 43, 32]) q2 HB.out OB.out (by have := HL.out; (try simp only [List.length_append, List.length_cons, List.length_nil]); omega) k2.out).mono ?_
 rintro e x9 ⟨v9, rfl, h9, k9⟩
 replace B0 := hI (B0.out.kp k9)
 replace KP := hI (KP.out.trans k9)
 replace KA := hI (KA.out.kp k9)
 replace k0 := hI (k0.out.kp k9)
 replace k1 := hI (k1.out.kp k9)
 replace k2 := hI (k2.out.kp k9)
 replace D0 := hI (D0.out.kp k9)
 replace D1 := hI (D1.out.kp k9)
 replace D2 := hI (D2.out.kp k9)
 replace HB := hI (Nat.le_trans HB.out k9.bel.size)
 replace OB : Hid (OwnB x9 B v9 (((l ++ [119]) ++ [32, 43, 32]) ++ tr)) := by
  have z := h9
  show OwnB _ _ _ _
  (try simp only [List.append_assoc, List.cons_append, List.nil_append] at z ⊢)
  exact z
 clear k9 h9
 go_wp2_with (first | (with_reducible refine lG (.tmp 3) B0.out ?_) | (with_reducible refine lG (.tmp 5) D0.out ?_) | (with_reducible refine lG (.tmp 6) D1.out ?_) | (with_reducible refine lG (.tmp 7) D2.out ?_))
 go_ret
 exact ⟨v9, rfl, OB.out, KP.out⟩
theorem appFin (n : Nat) (B : Nat) (X : World) (bu : Value) (l : List UInt8) (q : Value) (hB : B ≤ X.heap.size) (ho : OwnB X B bu l) (hl : l.length + (text (n : Int)).length ≤ 1000000000000) (hp : Pb B X (On.fin n).ob q) :
 Calls Tryz.prog 74 #[bu, vO (On.fin n).ob q] X (RetA X B (l ++ text (n : Int))) := appNum ((n : Nat) : Rat) q bu X B l ho hB hl (hp.hd hB)
set_option maxHeartbeats 4000000 in
set_option maxRecDepth 100000 in
theorem formatBy (a : On) (t : List UInt8) (p : Value) (w : World) (hx : t ≠ []) (hp : Hd w a.ob p) (ht : Tab w)
 (hA : ∀ X bu q, w.heap.size ≤ X.heap.size → OwnB X w.heap.size bu [] → Pb w.heap.size X a.ob q → Calls Tryz.prog 74 #[bu, vO a.ob q] X (RetA X w.heap.size t))
 (va : ∀ X, Hd X a.ob p → Tab X → Calls Tryz.prog 20 #[vO a.ob p] X (RetB X true)) :
 Calls Tryz.prog 39 #[vO a.ob p] w (fun e w' => e = .returned (.string (BA t)) ∧ Below w.heap.size w w') := by
 have VA := hI va
 have HP := hI hp
 have AP := hI hA
 have HX := hI hx
 clear va hA hx
 obtain ⟨a0, a1, a2, a3, a4, a5, ea⟩ := cells7 (a.ob) p
 have T := Bx1.new w #[a0, a1, a2, a3, a4, a5, p]
 rw [vO_cells ea]
 go_enter Tryz.func39, Tryz.ntmps39
 go_wp2_with fail
 generalize w.alloc (.cells #[a0, a1, a2, a3, a4, a5, p] 35) = W at T ⊢
 have B0 : Hid (Bx W (w.heap.size) (cellsO (a.ob) p).toArray) := by rw [ea]; exact T.b0
 have K0 := hI (hp.below T.bel)
 have HW := hI T.bel
 have HT := hI (ht.below T.bel)
 try rw [← vO_cells ea]
 clear T ea hp ht
 with_reducible refine (VA.out _ K0.out HT.out).mono ?_
 rintro e w1 ⟨rfl, hb⟩
 replace B0 := kB B0 hb
 replace K0 := kH K0 hb
 replace HW := kW HW hb
 replace HT := kT HT hb
 clear hb
 go_wp2_with (with_reducible refine lG (.tmp 1) B0.out ?_)
 have HA := hI (AP.out w1 (.slice none 0 0) p HW.out.size (OwnB.nil_ _ _) (Pair.below HP.out (fun _ h => h) HW.out))
 with_reducible refine HA.out.mono ?_
 rintro e w2 ⟨v2, rfl, h2, k2⟩
 obtain ⟨g, cc, rfl⟩ := h2.form HX.out
 have hconv := conv_back w2 g cc t.length w.heap.size t rfl h2
 have KB := hI (HW.out.trans k2.bel)
 clear h2 k2 HA HP AP
 go_wp2
 go_ret
 exact ⟨rfl, KB.out⟩
def oW : On := .pw (.fin 1) 1 (.fin 0)
def oW1 : On := .pw (.fin 1) 1 (.fin 1)
theorem oW_nf : oW.nf := pw_nf (e := .fin 1) trivial (by intro h; injection h with h; omega) (Nat.le_refl 1)
theorem oW_sm : oW.sm 5 1 1 := ⟨oW_nf, Nat.le_refl 5, Nat.le_refl 1, ⟨Nat.le_refl 1, Nat.le_refl 1, Nat.zero_le _⟩⟩
theorem one_sm : (On.fin 1).sm 1 0 1 := ⟨trivial, Nat.le_refl 1, Nat.le_refl 0, Nat.le_refl 1⟩
theorem two_sm : (On.fin 2).sm 1 0 2 := ⟨trivial, Nat.le_refl 1, Nat.le_refl 0, Nat.le_refl 2⟩
theorem oneW : addE (.fin 1) oW = oW := by decide
theorem Wone : addE oW (.fin 1) = oW1 := by decide
theorem twoW : mulE (.fin 2) oW = oW := by decide
theorem oW1_sm : oW1.sm 6 1 2 := Wone ▸ oW_sm.add one_sm
theorem formatW1 (p : Value) (w : World) (hp : Hd w oW1.ob p) (ht : Tab w) :
 Calls Tryz.prog 39 #[vO oW1.ob p] w (fun e w' => e = .returned (.string ⟨#[119, 32, 43, 32, 49]⟩) ∧ Below w.heap.size w w') := by
 refine formatBy oW1 [119, 32, 43, 32, 49] p w (by intro h; cases h) hp ht (fun X bu q hB ho hq => ?_) (fun X h hT => validE oW1 p X oW1_sm.nf (On.ob_bd oW1_sm.bd (by omega)) (On.ob_nodes oW1_sm.nd (by omega)) h hT)
 exact app_one1r (On.fin 1).ob (On.fin 1).ob (On.fin 1).ob (text (1 : Nat)) (text (1 : Nat)) (text (1 : Nat)) _ _ _ q bu X w.heap.size [] ho hB ⟨by decide, Nat.le_refl _, Nat.le_refl _, Nat.le_refl _⟩ hq
  (fun X bu l q hB ho hl hp => appFin 1 w.heap.size X bu l q hB ho hl hp) (fun X bu l q hB ho hl hp => appFin 1 w.heap.size X bu l q hB ho hl hp) (fun X bu l q hB ho hl hp => appFin 1 w.heap.size X bu l q hB ho hl hp)
  rfl (On.numIs (.fin 1) 1) (On.numIs (.fin 1) 1) (On.numIs (.fin 1) 0)
theorem powPS {e r : On} {c N L K : Nat} (sp : (On.pw e c r).sm N L K) (hN : N ≤ 3000) (hK : K ≤ 1000000000) (pe pc pr : Value) (w : World) (he : Hd w e.ob pe) (hc : Hd w (On.fin c).ob pc) (hr : Hd w r.ob pr) (ht : Tab w) :
 Calls Tryz.prog 31 #[vO e.ob pe, vO (On.fin c).ob pc, vO r.ob pr] w (RetHB w (On.pw e c r).ob true) := by
 have h := powerH e.ob (On.fin c).ob r.ob pe pc pr w (On.ob_bd sp.bd hK) (On.ob_nodes sp.nd hN) he hc hr ht
 have hv : (ordOf (.cons (.cons e.ob (On.fin c).ob) r.ob)).isSome = true := by
  have := ordOf_ob sp.nf
  rw [show Ob.cons (.cons e.ob (On.fin c).ob) r.ob = (On.pw e c r).ob from rfl, this]
  rfl
 rw [hv] at h
 exact h
theorem pW (pe pc pr : Value) (w : World) (he : Hd w (On.fin 1).ob pe) (hc : Hd w (On.fin 1).ob pc) (hr : Hd w (On.fin 0).ob pr) (ht : Tab w) :
 Calls Tryz.prog 31 #[vO (On.fin 1).ob pe, vO (On.fin 1).ob pc, vO (On.fin 0).ob pr] w (RetHB w oW.ob true) := powPS oW_sm (by omega) (by omega) pe pc pr w he hc hr ht
theorem aOneW (p p' : Value) (w : World) (hp : Hd w (On.fin 1).ob p) (hp' : Hd w oW.ob p') (ht : Tab w) :
 Calls Tryz.prog 35 #[vO (On.fin 1).ob p, vO oW.ob p'] w (RetHB w oW.ob true) := by
 have h := addPS one_sm oW_sm (by omega) (by omega) p p' w hp hp' ht
 rw [oneW] at h
 exact h
theorem aWOne (p p' : Value) (w : World) (hp : Hd w oW.ob p) (hp' : Hd w (On.fin 1).ob p') (ht : Tab w) :
 Calls Tryz.prog 35 #[vO oW.ob p, vO (On.fin 1).ob p'] w (RetHB w oW1.ob true) := by
 have h := addPS oW_sm one_sm (by omega) (by omega) p p' w hp hp' ht
 rw [Wone] at h
 exact h
theorem mTwoW (p p' : Value) (w : World) (hp : Hd w (On.fin 2).ob p) (hp' : Hd w oW.ob p') (ht : Tab w) :
 Calls Tryz.prog 37 #[vO (On.fin 2).ob p, vO oW.ob p'] w (RetHB w oW.ob true) := by
 have h := mulPS two_sm oW_sm (by omega) (by omega) (by omega) (by omega) p p' w hp hp' ht
 rw [twoW] at h
 exact h
theorem natP0 (w : World) (ht : Tab w) : Calls Tryz.prog 41 #[.int .i64 0] w (RetH w (On.fin 0).ob) := natPO 0 (by omega) w ht
theorem natP1 (w : World) (ht : Tab w) : Calls Tryz.prog 41 #[.int .i64 1] w (RetH w (On.fin 1).ob) := natPO 1 (by omega) w ht
theorem natP2 (w : World) (ht : Tab w) : Calls Tryz.prog 41 #[.int .i64 2] w (RetH w (On.fin 2).ob) := natPO 2 (by omega) w ht
set_option maxHeartbeats 16000000 in
set_option maxRecDepth 100000 in
theorem firstGo (w : World) (ht : Tab w) (he2 : decide (oW1.ob = oW.ob) = false)
 (hl : ∀ X q t, Hd X oW.ob q → Hd X oW1.ob t → Tab X → Calls Tryz.prog 33 #[vO oW.ob q, vO oW1.ob t] X (RetB X true)) :
 Calls Tryz.prog 12 #[] w (RetB w true) := by
 have HT := hI ht
 have HW := hI (Below.refl w.heap.size w)
 clear ht
 have HE2 := hI he2
 have HL := hI hl
 clear he2 hl
 go_enter Tryz.func12, Tryz.ntmps12
 go_wp2_with fail
 with_reducible refine (natP1 _ HT.out).mono ?_
 rintro e w1 ⟨q1, rfl, k1, hb⟩
 replace HT := kT HT hb
 replace HW := kW HW hb
 clear hb
 replace k1 := hI k1
 have T := hI (Bx1.new w1 #[.int .i64 0, .string ⟨#[]⟩, .string ⟨#[]⟩, .string ⟨#[]⟩, .string ⟨#[]⟩, .string ⟨#[]⟩, .slice none 0 0])
 go_wp2_with (first | (with_reducible refine sB (.tmp 1) (.tmp 10) k1.out T.out.b0 ?_; have P := Pt1.new (w := w1) (o := (On.fin 1).ob) (p := q1) (z := #[.int .i64 0, .string ⟨#[]⟩, .string ⟨#[]⟩, .string ⟨#[]⟩, .string ⟨#[]⟩, .string ⟨#[]⟩, .slice none 0 0]); generalize World.setRow (w1.alloc (.cells #[.int .i64 0, .string ⟨#[]⟩, .string ⟨#[]⟩, .string ⟨#[]⟩, .string ⟨#[]⟩, .string ⟨#[]⟩, .slice none 0 0] 35)) w1.heap.size (cellsO ((On.fin 1).ob) q1).toArray = X1 at P ⊢; have hb := P.bel; replace HT := kT HT hb; replace HW := kW HW hb; replace k1 := kH k1 hb; have G1 := hI P.b0; clear P hb T) | (with_reducible refine lG (.tmp 1) G1.out ?_))
 refine wp_region_growS (l := _) 8 (by kernel_rfl) (by kernel_rfl) (fun i => [12, 13, 14, 15, 11, 16, 17, 2].getD i 0) (LR [LV (vO ((On.fin 1).ob) q1), LV (vO ((On.fin 1).ob) q1), LH ((On.fin 0).ob), LHB (oW.ob) true, LHB (oW.ob) true, LH (oW.ob), LV (.bool true), LBx]) (LR_mono ⟨mLV _, mLV _, mLH _, mLHB _ _, mLHB _ _, mLH _, mLV _, mLBx, trivial⟩) (by
  intro i j hi hj h
  exact inj_getD [12, 13, 14, 15, 11, 16, 17, 2] (by decide) i j hi hj h) (by
  intro i hi
  exact lt_getD 72 [12, 13, 14, 15, 11, 16, 17, 2] (by decide) i hi) [6] (by kernel_rfl) 7 5 (by omega) (by omega) (by kernel_rfl) (by kernel_rfl) _ rfl rfl rfl rfl
  (fun _ _ _ _ h => h) (oW.ob) (fun _ _ _ _ h => h) ?step ?stepL ?done
 case step =>
  intro i hi a w9 v lo hi' hoth hb hw
  have sl1 : a.tmps[1]? = some (.pointer (some ⟨w1.heap.size, 0, none⟩)) := (hoth 1 (fun j hj => ne_getD 1 _ (by decide) j hj)).trans rfl
  match i, hi with
  | 0, _ =>
   exact gr_box rfl rfl (.tmp 1) rfl (eval_of sl1) (G1.out.keep hb) ⟨_, rfl, Below.refl _ _, rfl⟩
  | 1, _ =>
   exact gr_box rfl rfl (.tmp 1) rfl (eval_of sl1) (G1.out.keep hb) ⟨_, rfl, Below.refl _ _, rfl⟩
  | 2, _ =>
   refine gr_c rfl rfl 41  _ _ rfl (fun v w => by go_simp)  ?_
   with_reducible refine (natP0 w9 (HT.out.below hb)).mono ?_
   rintro e w3 ⟨p, rfl, hp, hb3⟩
   exact ⟨_, rfl, _, rfl, hb3, p, rfl, hp⟩
  | 3, _ =>
   obtain ⟨s0, r0, _⟩ := hw 0 (by omega) (by kernel_rfl)
   have e0 : v 0 = vO ((On.fin 1).ob) q1 := r0
   rw [e0] at s0
   obtain ⟨s1, r1, _⟩ := hw 1 (by omega) (by kernel_rfl)
   have e1 : v 1 = vO ((On.fin 1).ob) q1 := r1
   rw [e1] at s1
   obtain ⟨s2, r2, _⟩ := hw 2 (by omega) (by kernel_rfl)
   obtain ⟨q2, e2, k2⟩ : LH ((On.fin 0).ob) (v 2) (lo 2) (hi' 2) w9 := r2
   rw [e2] at s2
   refine gr_ttt rfl rfl 31 12 13 14 _ _ _ _ rfl (fun v u x w => by go_simp) s0 s1 s2 ?_
   with_reducible refine (pW q1 q1 q2 w9 (k1.out.below hb) (k1.out.below hb) k2 (HT.out.below hb)).mono ?_
   rintro e w3 ⟨p, rfl, hp, hb3⟩
   exact ⟨_, rfl, _, rfl, hb3, p, rfl, hp⟩
  | 4, _ =>
   obtain ⟨s0, r0, _⟩ := hw 3 (by omega) (by kernel_rfl)
   obtain ⟨q0, e0, k0⟩ : LHB (oW.ob) true (v 3) (lo 3) (hi' 3) w9 := r0
   rw [e0] at s0
   exact gr_move rfl rfl 15 _ rfl s0 ⟨_, rfl, Below.refl _ _, q0, rfl, k0⟩
  | 5, _ =>
   obtain ⟨s0, r0, _⟩ := hw 4 (by omega) (by kernel_rfl)
   obtain ⟨q0, e0, k0⟩ : LHB (oW.ob) true (v 4) (lo 4) (hi' 4) w9 := r0
   rw [e0] at s0
   exact gr_ext2 rfl rfl 11 _ _ rfl s0 ⟨_, rfl, Below.refl _ _, q0, rfl, k0⟩
  | 6, _ =>
   obtain ⟨s0, r0, _⟩ := hw 4 (by omega) (by kernel_rfl)
   obtain ⟨q0, e0, k0⟩ : LHB (oW.ob) true (v 4) (lo 4) (hi' 4) w9 := r0
   rw [e0] at s0
   exact gr_ext2' rfl rfl 11 _ _ rfl s0 ⟨_, rfl, Below.refl _ _, rfl⟩
  | 7, _ =>
   exact grow_allocO rfl rfl rfl ⟨_, rfl, Below.alloc (Below.refl _ _) (Nat.le_refl _) _, rfl, heap_alloc_new _ _, by simp⟩
 case stepL =>
  intro i hi hl a w1 w9 v lo hi' hw
  match i, hi with
  | 0, _ => exact absurd hl (by decide)
  | 1, _ => exact absurd hl (by decide)
  | 2, _ => exact absurd hl (by decide)
  | 3, _ => exact absurd hl (by decide)
  | 4, _ => exact absurd hl (by decide)
  | 5, _ => exact absurd hl (by decide)
  | 6, _ =>
   obtain ⟨s0, r0⟩ := hw 4 (by omega) (by kernel_rfl)
   obtain ⟨q0, e0, k0⟩ : LHB (oW.ob) true (v 4) (lo 4) (hi' 4) w1 := r0
   rw [e0] at s0
   exact gr_ext2' rfl rfl 11 _ _ rfl s0 ⟨_, rfl, rfl, rfl⟩
  | 7, _ => exact absurd hl (by decide)
 case done =>
  intro a w9 v lo hi' p5 hdef hsz hoth hb hj hap hv5 k5 hv7 B7
  obtain ⟨_, _, hlo7, _⟩ := hj 7 (by omega)
  obtain ⟨_, hv6, _, _⟩ := hj 6 (by omega)
  change v 6 = _ at hv6
  have ha := eq_puts hdef hsz hoth (fun i hi => (hj i hi).1)
  subst ha
  clear hj hoth hdef hsz hap
  have hX := below_setRowO hb hlo7 (cellsO (oW.ob) p5).toArray
  have kX := Hd.box k5 B7 rfl (cellsO (oW.ob) p5).toArray
  have bX := Bx.set (y := (cellsO (oW.ob) p5).toArray) B7
  generalize World.setRow w9 (lo 7) (cellsO (oW.ob) p5).toArray = XA at hX kX bX ⊢
  clear hb k5 B7
  simp only [puts, List.getD_cons_zero, List.getD_cons_succ, hv5, hv7, hv6]
  generalize v 0 = v0
  generalize v 1 = v1
  generalize v 2 = v2
  generalize v 3 = v3
  generalize v 4 = v4
  clear hv5 hv7 hv6
  generalize lo 7 = g7 at *
  simp only [Act.put, List.setIfInBounds_toArray, List.set_cons_zero, List.set_cons_succ]
  show wpList _ _ _ [_] _ _
  have hb := hX
  clear hX
  replace HT := kT HT hb
  replace HW := kW HW hb
  replace k1 := kH k1 hb
  replace G1 := kB G1 hb
  replace k5 := hI kX
  have G2 := hI bX
  clear hb kX bX
  go_wp2_with (first | (with_reducible refine lG (.tmp 1) G1.out ?_) | (with_reducible refine lG (.tmp 2) G2.out ?_))
  with_reducible refine (aOneW _ _ _ k1.out k5.out HT.out).mono ?_
  rintro e w2 ⟨q3, rfl, k3, hb⟩
  replace HT := kT HT hb
  replace HW := kW HW hb
  replace k1 := kH k1 hb
  replace G1 := kB G1 hb
  replace k5 := kH k5 hb
  replace G2 := kB G2 hb
  clear hb
  replace k3 := hI k3
  have T := hI (Bx1.new w2 #[.int .i64 0, .string ⟨#[]⟩, .string ⟨#[]⟩, .string ⟨#[]⟩, .string ⟨#[]⟩, .string ⟨#[]⟩, .slice none 0 0])
  go_wp2_with (first | (with_reducible refine sB (.tmp 4) (.tmp 22) k3.out T.out.b0 ?_; have P := Pt1.new (w := w2) (o := oW.ob) (p := q3) (z := #[.int .i64 0, .string ⟨#[]⟩, .string ⟨#[]⟩, .string ⟨#[]⟩, .string ⟨#[]⟩, .string ⟨#[]⟩, .slice none 0 0]); generalize World.setRow (w2.alloc (.cells #[.int .i64 0, .string ⟨#[]⟩, .string ⟨#[]⟩, .string ⟨#[]⟩, .string ⟨#[]⟩, .string ⟨#[]⟩, .slice none 0 0] 35)) w2.heap.size (cellsO (oW.ob) q3).toArray = X2 at P ⊢; have hb := P.bel; replace HT := kT HT hb; replace HW := kW HW hb; replace k1 := kH k1 hb; replace G1 := kB G1 hb; replace k5 := kH k5 hb; replace G2 := kB G2 hb; replace k3 := kH k3 hb; have G3 := hI P.b0; clear P hb T) | (with_reducible refine lG (.tmp 1) G1.out ?_) | (with_reducible refine lG (.tmp 2) G2.out ?_) | (with_reducible refine lG (.tmp 4) G3.out ?_))
  with_reducible refine (aWOne _ _ _ k5.out k1.out HT.out).mono ?_
  rintro e w3 ⟨q4, rfl, k4, hb⟩
  replace HT := kT HT hb
  replace HW := kW HW hb
  replace k1 := kH k1 hb
  replace G1 := kB G1 hb
  replace k5 := kH k5 hb
  replace G2 := kB G2 hb
  replace k3 := kH k3 hb
  replace G3 := kB G3 hb
  clear hb
  replace k4 := hI k4
  have T := hI (Bx1.new w3 #[.int .i64 0, .string ⟨#[]⟩, .string ⟨#[]⟩, .string ⟨#[]⟩, .string ⟨#[]⟩, .string ⟨#[]⟩, .slice none 0 0])
  go_wp2_with (first | (with_reducible refine sB (.tmp 6) (.tmp 28) k4.out T.out.b0 ?_; have P := Pt1.new (w := w3) (o := oW1.ob) (p := q4) (z := #[.int .i64 0, .string ⟨#[]⟩, .string ⟨#[]⟩, .string ⟨#[]⟩, .string ⟨#[]⟩, .string ⟨#[]⟩, .slice none 0 0]); generalize World.setRow (w3.alloc (.cells #[.int .i64 0, .string ⟨#[]⟩, .string ⟨#[]⟩, .string ⟨#[]⟩, .string ⟨#[]⟩, .string ⟨#[]⟩, .slice none 0 0] 35)) w3.heap.size (cellsO (oW1.ob) q4).toArray = X3 at P ⊢; have hb := P.bel; replace HT := kT HT hb; replace HW := kW HW hb; replace k1 := kH k1 hb; replace G1 := kB G1 hb; replace k5 := kH k5 hb; replace G2 := kB G2 hb; replace k3 := kH k3 hb; replace G3 := kB G3 hb; replace k4 := kH k4 hb; have G4 := hI P.b0; clear P hb T) | (with_reducible refine lG (.tmp 1) G1.out ?_) | (with_reducible refine lG (.tmp 2) G2.out ?_) | (with_reducible refine lG (.tmp 4) G3.out ?_) | (with_reducible refine lG (.tmp 6) G4.out ?_))
  refine wp_region_growS (l := _) 7 (by kernel_rfl) (by kernel_rfl) (fun i => [31, 32, 33, 30, 34, 35, 8].getD i 0) (LR [LH ((On.fin 2).ob), LV (vO (oW.ob) p5), LHB (oW.ob) true, LHB (oW.ob) true, LH (oW.ob), LV (.bool true), LBx]) (LR_mono ⟨mLH _, mLV _, mLHB _ _, mLHB _ _, mLH _, mLV _, mLBx, trivial⟩) (by
   intro i j hi hj h
   exact inj_getD [31, 32, 33, 30, 34, 35, 8] (by decide) i j hi hj h) (by
   intro i hi
   exact lt_getD 72 [31, 32, 33, 30, 34, 35, 8] (by decide) i hi) [5] (by kernel_rfl) 6 4 (by omega) (by omega) (by kernel_rfl) (by kernel_rfl) _ rfl rfl rfl rfl
   (fun _ _ _ _ h => h) (oW.ob) (fun _ _ _ _ h => h) ?step ?stepL ?done
  case step =>
   intro i hi a w9 v lo hi' hoth hb hw
   have sl2 : a.tmps[2]? = some (.pointer (some ⟨g7, 0, none⟩)) := (hoth 2 (fun j hj => ne_getD 2 _ (by decide) j hj)).trans rfl
   match i, hi with
   | 0, _ =>
    refine gr_c rfl rfl 41  _ _ rfl (fun v w => by go_simp)  ?_
    with_reducible refine (natP2 w9 (HT.out.below hb)).mono ?_
    rintro e w3 ⟨p, rfl, hp, hb3⟩
    exact ⟨_, rfl, _, rfl, hb3, p, rfl, hp⟩
   | 1, _ =>
    exact gr_box rfl rfl (.tmp 2) rfl (eval_of sl2) (G2.out.keep hb) ⟨_, rfl, Below.refl _ _, rfl⟩
   | 2, _ =>
    obtain ⟨s0, r0, _⟩ := hw 0 (by omega) (by kernel_rfl)
    obtain ⟨q0, e0, k0⟩ : LH ((On.fin 2).ob) (v 0) (lo 0) (hi' 0) w9 := r0
    rw [e0] at s0
    obtain ⟨s1, r1, _⟩ := hw 1 (by omega) (by kernel_rfl)
    have e1 : v 1 = vO (oW.ob) p5 := r1
    rw [e1] at s1
    refine gr_tt rfl rfl 37 31 32 _ _ _ rfl (fun v u w => by go_simp) s0 s1 ?_
    with_reducible refine (mTwoW q0 p5 w9 k0 (k5.out.below hb) (HT.out.below hb)).mono ?_
    rintro e w3 ⟨p, rfl, hp, hb3⟩
    exact ⟨_, rfl, _, rfl, hb3, p, rfl, hp⟩
   | 3, _ =>
    obtain ⟨s0, r0, _⟩ := hw 2 (by omega) (by kernel_rfl)
    obtain ⟨q0, e0, k0⟩ : LHB (oW.ob) true (v 2) (lo 2) (hi' 2) w9 := r0
    rw [e0] at s0
    exact gr_move rfl rfl 33 _ rfl s0 ⟨_, rfl, Below.refl _ _, q0, rfl, k0⟩
   | 4, _ =>
    obtain ⟨s0, r0, _⟩ := hw 3 (by omega) (by kernel_rfl)
    obtain ⟨q0, e0, k0⟩ : LHB (oW.ob) true (v 3) (lo 3) (hi' 3) w9 := r0
    rw [e0] at s0
    exact gr_ext2 rfl rfl 30 _ _ rfl s0 ⟨_, rfl, Below.refl _ _, q0, rfl, k0⟩
   | 5, _ =>
    obtain ⟨s0, r0, _⟩ := hw 3 (by omega) (by kernel_rfl)
    obtain ⟨q0, e0, k0⟩ : LHB (oW.ob) true (v 3) (lo 3) (hi' 3) w9 := r0
    rw [e0] at s0
    exact gr_ext2' rfl rfl 30 _ _ rfl s0 ⟨_, rfl, Below.refl _ _, rfl⟩
   | 6, _ =>
    exact grow_allocO rfl rfl rfl ⟨_, rfl, Below.alloc (Below.refl _ _) (Nat.le_refl _) _, rfl, heap_alloc_new _ _, by simp⟩
  case stepL =>
   intro i hi hl a w1 w9 v lo hi' hw
   match i, hi with
   | 0, _ => exact absurd hl (by decide)
   | 1, _ => exact absurd hl (by decide)
   | 2, _ => exact absurd hl (by decide)
   | 3, _ => exact absurd hl (by decide)
   | 4, _ => exact absurd hl (by decide)
   | 5, _ =>
    obtain ⟨s0, r0⟩ := hw 3 (by omega) (by kernel_rfl)
    obtain ⟨q0, e0, k0⟩ : LHB (oW.ob) true (v 3) (lo 3) (hi' 3) w1 := r0
    rw [e0] at s0
    exact gr_ext2' rfl rfl 30 _ _ rfl s0 ⟨_, rfl, rfl, rfl⟩
   | 6, _ => exact absurd hl (by decide)
  case done =>
   intro a w9 v lo hi' u4 hdef hsz hoth hb hj hap hv4 k40 hv6 B6
   obtain ⟨_, _, hlo6, _⟩ := hj 6 (by omega)
   obtain ⟨_, hv5, _, _⟩ := hj 5 (by omega)
   change v 5 = _ at hv5
   have ha := eq_puts hdef hsz hoth (fun i hi => (hj i hi).1)
   subst ha
   clear hj hoth hdef hsz hap
   have hX := below_setRowO hb hlo6 (cellsO (oW.ob) u4).toArray
   have kX := Hd.box k40 B6 rfl (cellsO (oW.ob) u4).toArray
   have bX := Bx.set (y := (cellsO (oW.ob) u4).toArray) B6
   generalize World.setRow w9 (lo 6) (cellsO (oW.ob) u4).toArray = XB at hX kX bX ⊢
   clear hb k40 B6
   simp only [puts, List.getD_cons_zero, List.getD_cons_succ, hv4, hv6, hv5]
   generalize v 0 = v0
   generalize v 1 = v1
   generalize v 2 = v2
   generalize v 3 = v3
   clear hv4 hv6 hv5
   generalize lo 6 = g6 at *
   simp only [Act.put, List.setIfInBounds_toArray, List.set_cons_zero, List.set_cons_succ]
   show wpList _ _ _ [_] _ _
   have hb := hX
   clear hX
   replace HT := kT HT hb
   replace HW := kW HW hb
   replace k1 := kH k1 hb
   replace G1 := kB G1 hb
   replace k5 := kH k5 hb
   replace G2 := kB G2 hb
   replace k3 := kH k3 hb
   replace G3 := kB G3 hb
   replace k4 := kH k4 hb
   replace G4 := kB G4 hb
   replace k40 := hI kX
   have G5 := hI bX
   clear hb kX bX
   go_wp2_with (first | (with_reducible refine lG (.tmp 1) G1.out ?_) | (with_reducible refine lG (.tmp 2) G2.out ?_) | (with_reducible refine lG (.tmp 4) G3.out ?_) | (with_reducible refine lG (.tmp 6) G4.out ?_) | (with_reducible refine lG (.tmp 8) G5.out ?_))
   with_reducible refine (equalH oW.ob oW.ob _ _ _ true (decide_eq_true rfl) k3.out k5.out).mono ?_
   rintro e w4 ⟨rfl, hb⟩
   replace HT := kT HT hb
   replace HW := kW HW hb
   replace k1 := kH k1 hb
   replace G1 := kB G1 hb
   replace k5 := kH k5 hb
   replace G2 := kB G2 hb
   replace k3 := kH k3 hb
   replace G3 := kB G3 hb
   replace k4 := kH k4 hb
   replace G4 := kB G4 hb
   replace k40 := kH k40 hb
   replace G5 := kB G5 hb
   clear hb
   go_wp2_with (first | (with_reducible refine lG (.tmp 1) G1.out ?_) | (with_reducible refine lG (.tmp 2) G2.out ?_) | (with_reducible refine lG (.tmp 4) G3.out ?_) | (with_reducible refine lG (.tmp 6) G4.out ?_) | (with_reducible refine lG (.tmp 8) G5.out ?_))
   with_reducible refine (equalH oW1.ob oW.ob _ _ _ false HE2.out k4.out k5.out).mono ?_
   rintro e w5 ⟨rfl, hb⟩
   replace HT := kT HT hb
   replace HW := kW HW hb
   replace k1 := kH k1 hb
   replace G1 := kB G1 hb
   replace k5 := kH k5 hb
   replace G2 := kB G2 hb
   replace k3 := kH k3 hb
   replace G3 := kB G3 hb
   replace k4 := kH k4 hb
   replace G4 := kB G4 hb
   replace k40 := kH k40 hb
   replace G5 := kB G5 hb
   clear hb
   go_wp2_with (first | (with_reducible refine lG (.tmp 1) G1.out ?_) | (with_reducible refine lG (.tmp 2) G2.out ?_) | (with_reducible refine lG (.tmp 4) G3.out ?_) | (with_reducible refine lG (.tmp 6) G4.out ?_) | (with_reducible refine lG (.tmp 8) G5.out ?_))
   with_reducible refine (equalH oW.ob oW.ob _ _ _ true (decide_eq_true rfl) k40.out k5.out).mono ?_
   rintro e w6 ⟨rfl, hb⟩
   replace HT := kT HT hb
   replace HW := kW HW hb
   replace k1 := kH k1 hb
   replace G1 := kB G1 hb
   replace k5 := kH k5 hb
   replace G2 := kB G2 hb
   replace k3 := kH k3 hb
   replace G3 := kB G3 hb
   replace k4 := kH k4 hb
   replace G4 := kB G4 hb
   replace k40 := kH k40 hb
   replace G5 := kB G5 hb
   clear hb
   go_wp2_with (first | (with_reducible refine lG (.tmp 1) G1.out ?_) | (with_reducible refine lG (.tmp 2) G2.out ?_) | (with_reducible refine lG (.tmp 4) G3.out ?_) | (with_reducible refine lG (.tmp 6) G4.out ?_) | (with_reducible refine lG (.tmp 8) G5.out ?_))
   with_reducible refine (HL.out _ _ _ k5.out k4.out HT.out).mono ?_
   rintro e w7 ⟨rfl, hb⟩
   replace HT := kT HT hb
   replace HW := kW HW hb
   replace k1 := kH k1 hb
   replace G1 := kB G1 hb
   replace k5 := kH k5 hb
   replace G2 := kB G2 hb
   replace k3 := kH k3 hb
   replace G3 := kB G3 hb
   replace k4 := kH k4 hb
   replace G4 := kB G4 hb
   replace k40 := kH k40 hb
   replace G5 := kB G5 hb
   clear hb
   go_wp2_with (first | (with_reducible refine lG (.tmp 1) G1.out ?_) | (with_reducible refine lG (.tmp 2) G2.out ?_) | (with_reducible refine lG (.tmp 4) G3.out ?_) | (with_reducible refine lG (.tmp 6) G4.out ?_) | (with_reducible refine lG (.tmp 8) G5.out ?_))
   with_reducible refine (formatW1 _ _ k4.out HT.out).mono ?_
   rintro e w8 ⟨rfl, hb⟩
   replace HT := kT HT hb
   replace HW := kW HW hb
   replace k1 := kH k1 hb
   replace G1 := kB G1 hb
   replace k5 := kH k5 hb
   replace G2 := kB G2 hb
   replace k3 := kH k3 hb
   replace G3 := kB G3 hb
   replace k4 := kH k4 hb
   replace G4 := kB G4 hb
   replace k40 := kH k40 hb
   replace G5 := kB G5 hb
   clear hb
   go_wp2_with (first | (with_reducible refine lG (.tmp 1) G1.out ?_) | (with_reducible refine lG (.tmp 2) G2.out ?_) | (with_reducible refine lG (.tmp 4) G3.out ?_) | (with_reducible refine lG (.tmp 6) G4.out ?_) | (with_reducible refine lG (.tmp 8) G5.out ?_))
   go_ret
   exact ⟨rfl, HW.out⟩
theorem firstO (w : World) (ht : Tab w) : Calls Tryz.prog 12 #[] w (RetB w true) := by
 refine firstGo w ht ?_ ?_
 · refine decide_eq_false fun h => ?_
   have h1 := ordOf_ob oW1_sm.nf
   rw [h, ordOf_ob oW_nf] at h1
   injection h1 with h1
   exact absurd h1 (by decide)
 · intro X q t h h' hT
   have c := lessH oW.ob oW1.ob q t X (On.ob_bd oW_sm.bd (by omega)) (On.ob_bd oW1_sm.bd (by omega)) (On.ob_nodes oW_sm.nd (by omega)) (On.ob_nodes oW1_sm.nd (by omega)) h h' hT
   have e : lessO oW.ob oW1.ob = true := by
    unfold lessO
    rw [ordOf_ob oW_nf, ordOf_ob oW1_sm.nf]
    decide
   rw [e] at c
   exact c
end Go.Proofs.YtobjdkblpjmbjaaGreatDoor
