/- The reference's Less. -/
import Derived.Test.YtobjdkblpjmbjaaGreatDoorG19
import Derived.Test.YtobjdkblpjmbjaaGreatDoorG24
import Derived.Test.YtobjdkblpjmbjaaGreatDoorG20
namespace Go.Proofs.YtobjdkblpjmbjaaGreatDoor
open Go Go.RowKit
set_option linter.unusedVariables false
set_option maxHeartbeats 4000000 in
set_option maxRecDepth 100000 in
theorem lessR1 (a b : Ob) (p p' : Value) (w : World) (y : Bool) (k : Bool) (hp : Hd w a p) (hp' : Hd w b p') (ht : Tab w)
 (va : ∀ X, Hd X a p → Tab X → Calls Tryz.prog 21 #[vO a p] X (RetB X false)) (vb : ∀ X, Hd X b p' → Tab X → Calls Tryz.prog 21 #[vO b p'] X (RetB X y))
 (cm : True) :
 Calls Tryz.prog 34 #[vO a p, vO b p'] w (RetB w false) := by
 have VA := hI va
 have VB := hI vb
 have CM := hI cm
 clear va vb cm
 obtain ⟨a0, a1, a2, a3, a4, a5, ea⟩ := cells7 (a) p
 obtain ⟨b0, b1, b2, b3, b4, b5, eb⟩ := cells7 (b) p'
 have T := Bx2.new w #[a0, a1, a2, a3, a4, a5, p] #[b0, b1, b2, b3, b4, b5, p']
 rw [vO_cells ea, vO_cells eb]
 go_enter Tryz.func34, Tryz.ntmps34
 go_wp2_with fail
 generalize (w.alloc (.cells #[a0, a1, a2, a3, a4, a5, p] 35)).alloc (.cells #[b0, b1, b2, b3, b4, b5, p'] 35) = W at T ⊢
 have B0 : Hid (Bx W (w.heap.size) (cellsO (a) p).toArray) := by rw [ea]; exact T.b0
 have K0 := hI (hp.below T.bel)
 have B1 : Hid (Bx W (w.heap.size + 1) (cellsO (b) p').toArray) := by rw [eb]; exact T.b1
 have K1 := hI (hp'.below T.bel)
 have HW := hI T.bel
 have HT := hI (ht.below T.bel)
 try rw [← vO_cells ea]
 try rw [← vO_cells eb]
 clear T ea eb hp hp' ht
 with_reducible refine (VA.out _ K0.out HT.out).mono ?_
 rintro e w1 ⟨rfl, hb⟩
 replace B0 := kB B0 hb
 replace K0 := kH K0 hb
 replace B1 := kB B1 hb
 replace K1 := kH K1 hb
 replace HW := kW HW hb
 replace HT := kT HT hb
 clear hb
 go_wp2_with (first | (with_reducible refine lG (.tmp 2) B0.out ?_) | (with_reducible refine lG (.tmp 3) B1.out ?_))
 go_ret
 exact ⟨rfl, HW.out⟩
set_option maxHeartbeats 4000000 in
set_option maxRecDepth 100000 in
theorem lessR2 (a b : Ob) (p p' : Value) (w : World) (k : Bool) (hp : Hd w a p) (hp' : Hd w b p') (ht : Tab w)
 (va : ∀ X, Hd X a p → Tab X → Calls Tryz.prog 21 #[vO a p] X (RetB X true)) (vb : ∀ X, Hd X b p' → Tab X → Calls Tryz.prog 21 #[vO b p'] X (RetB X false))
 (cm : True) :
 Calls Tryz.prog 34 #[vO a p, vO b p'] w (RetB w false) := by
 have VA := hI va
 have VB := hI vb
 have CM := hI cm
 clear va vb cm
 obtain ⟨a0, a1, a2, a3, a4, a5, ea⟩ := cells7 (a) p
 obtain ⟨b0, b1, b2, b3, b4, b5, eb⟩ := cells7 (b) p'
 have T := Bx2.new w #[a0, a1, a2, a3, a4, a5, p] #[b0, b1, b2, b3, b4, b5, p']
 rw [vO_cells ea, vO_cells eb]
 go_enter Tryz.func34, Tryz.ntmps34
 go_wp2_with fail
 generalize (w.alloc (.cells #[a0, a1, a2, a3, a4, a5, p] 35)).alloc (.cells #[b0, b1, b2, b3, b4, b5, p'] 35) = W at T ⊢
 have B0 : Hid (Bx W (w.heap.size) (cellsO (a) p).toArray) := by rw [ea]; exact T.b0
 have K0 := hI (hp.below T.bel)
 have B1 : Hid (Bx W (w.heap.size + 1) (cellsO (b) p').toArray) := by rw [eb]; exact T.b1
 have K1 := hI (hp'.below T.bel)
 have HW := hI T.bel
 have HT := hI (ht.below T.bel)
 try rw [← vO_cells ea]
 try rw [← vO_cells eb]
 clear T ea eb hp hp' ht
 with_reducible refine (VA.out _ K0.out HT.out).mono ?_
 rintro e w1 ⟨rfl, hb⟩
 replace B0 := kB B0 hb
 replace K0 := kH K0 hb
 replace B1 := kB B1 hb
 replace K1 := kH K1 hb
 replace HW := kW HW hb
 replace HT := kT HT hb
 clear hb
 go_wp2_with (first | (with_reducible refine lG (.tmp 2) B0.out ?_) | (with_reducible refine lG (.tmp 3) B1.out ?_))
 with_reducible refine (VB.out _ K1.out HT.out).mono ?_
 rintro e w2 ⟨rfl, hb⟩
 replace B0 := kB B0 hb
 replace K0 := kH K0 hb
 replace B1 := kB B1 hb
 replace K1 := kH K1 hb
 replace HW := kW HW hb
 replace HT := kT HT hb
 clear hb
 go_wp2_with (first | (with_reducible refine lG (.tmp 2) B0.out ?_) | (with_reducible refine lG (.tmp 3) B1.out ?_))
 go_ret
 exact ⟨rfl, HW.out⟩
set_option maxHeartbeats 4000000 in
set_option maxRecDepth 100000 in
theorem lessR3 (a b : Ob) (p p' : Value) (w : World) (k : Bool) (hp : Hd w a p) (hp' : Hd w b p') (ht : Tab w)
 (va : ∀ X, Hd X a p → Tab X → Calls Tryz.prog 21 #[vO a p] X (RetB X true)) (vb : ∀ X, Hd X b p' → Tab X → Calls Tryz.prog 21 #[vO b p'] X (RetB X true))
 (cm : ∀ X, Hd X a p → Hd X b p' → Tab X → Calls Tryz.prog 65 #[vO a p, vO b p'] X (RetB X k)) :
 Calls Tryz.prog 34 #[vO a p, vO b p'] w (RetB w k) := by
 have VA := hI va
 have VB := hI vb
 have CM := hI cm
 clear va vb cm
 obtain ⟨a0, a1, a2, a3, a4, a5, ea⟩ := cells7 (a) p
 obtain ⟨b0, b1, b2, b3, b4, b5, eb⟩ := cells7 (b) p'
 have T := Bx2.new w #[a0, a1, a2, a3, a4, a5, p] #[b0, b1, b2, b3, b4, b5, p']
 rw [vO_cells ea, vO_cells eb]
 go_enter Tryz.func34, Tryz.ntmps34
 go_wp2_with fail
 generalize (w.alloc (.cells #[a0, a1, a2, a3, a4, a5, p] 35)).alloc (.cells #[b0, b1, b2, b3, b4, b5, p'] 35) = W at T ⊢
 have B0 : Hid (Bx W (w.heap.size) (cellsO (a) p).toArray) := by rw [ea]; exact T.b0
 have K0 := hI (hp.below T.bel)
 have B1 : Hid (Bx W (w.heap.size + 1) (cellsO (b) p').toArray) := by rw [eb]; exact T.b1
 have K1 := hI (hp'.below T.bel)
 have HW := hI T.bel
 have HT := hI (ht.below T.bel)
 try rw [← vO_cells ea]
 try rw [← vO_cells eb]
 clear T ea eb hp hp' ht
 with_reducible refine (VA.out _ K0.out HT.out).mono ?_
 rintro e w1 ⟨rfl, hb⟩
 replace B0 := kB B0 hb
 replace K0 := kH K0 hb
 replace B1 := kB B1 hb
 replace K1 := kH K1 hb
 replace HW := kW HW hb
 replace HT := kT HT hb
 clear hb
 go_wp2_with (first | (with_reducible refine lG (.tmp 2) B0.out ?_) | (with_reducible refine lG (.tmp 3) B1.out ?_))
 with_reducible refine (VB.out _ K1.out HT.out).mono ?_
 rintro e w2 ⟨rfl, hb⟩
 replace B0 := kB B0 hb
 replace K0 := kH K0 hb
 replace B1 := kB B1 hb
 replace K1 := kH K1 hb
 replace HW := kW HW hb
 replace HT := kT HT hb
 clear hb
 go_wp2_with (first | (with_reducible refine lG (.tmp 2) B0.out ?_) | (with_reducible refine lG (.tmp 3) B1.out ?_))
 with_reducible refine (CM.out _ K0.out K1.out HT.out).mono ?_
 rintro e w3 ⟨rfl, hb⟩
 replace B0 := kB B0 hb
 replace K0 := kH K0 hb
 replace B1 := kB B1 hb
 replace K1 := kH K1 hb
 replace HW := kW HW hb
 replace HT := kT HT hb
 clear hb
 go_wp2_with (first | (with_reducible refine lG (.tmp 2) B0.out ?_) | (with_reducible refine lG (.tmp 3) B1.out ?_))
 go_ret
 exact ⟨rfl, HW.out⟩
theorem lessRT (a b : Ob) (p p' : Value) (w : World) (ha : a.bd 90) (hb : b.bd 90) (na : a.nodes ≤ 3000) (nb : b.nodes ≤ 3000) (hp : Hd w a p) (hp' : Hd w b p') (ht : Tab w) :
 Calls Tryz.prog 34 #[vO a p, vO b p'] w (RetB w (lessO a b)) := by
 have va := fun X (h : Hd X a p) (hT : Tab X) => validR3 a p X ha na h hT
 have vb := fun X (h : Hd X b p') (hT : Tab X) => validR3 b p' X hb nb h hT
 unfold lessO
 cases hx : ordOf a with
 | none => rw [hx] at va; exact lessR1 a b p p' w _ false hp hp' ht va vb trivial
 | some x =>
  rw [hx] at va
  cases hy : ordOf b with
  | none => rw [hy] at vb; exact lessR2 a b p p' w false hp hp' ht va vb trivial
  | some y =>
   rw [hy] at vb
   obtain ⟨_, ea⟩ := ordOf_some hx
   obtain ⟨_, eb⟩ := ordOf_some hy
   exact lessR3 a b p p' w _ hp hp' ht va vb (fun X h h' hT => by
    rw [ea] at h ha ⊢
    rw [eb] at h' hb ⊢
    exact lessE x y p p' X ha hb h h' hT)
end Go.Proofs.YtobjdkblpjmbjaaGreatDoor
