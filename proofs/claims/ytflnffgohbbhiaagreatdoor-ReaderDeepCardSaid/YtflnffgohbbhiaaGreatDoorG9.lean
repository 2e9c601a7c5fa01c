/- (number.integer).plus, negated, isZero. -/
import Derived.Test.YtflnffgohbbhiaaGreatDoorG6
import Derived.Test.YtflnffgohbbhiaaGreatDoorG5
import Derived.Deep.RegionHeld3
import Derived.Test.YtflnffgohbbhiaaGreatDoorG4
import Derived.Deep.QuietTactic
import Derived.BigQuiet
namespace Go.Proofs.YtflnffgohbbhiaaGreatDoor
open Go Go.RowKit
set_option linter.unusedVariables false
def notInt : Value → Bool
 | .int _ _ => false
 | _ => true
theorem Reads.setOther {w : World} {B : Nat} {k : IntKind} {A : Option Addr} {xs : List Nat} (h : Reads w B k A xs) {p : Addr} {u : Value} (hp : w.cell? p = some u) (hu : notInt u = true) (v : Value) : Reads (w.setCell p v) B k A xs := fun hn => by
 obtain ⟨b, o, e, hb, hc⟩ := h hn
 refine ⟨b, o, e, hb, fun j hj => ?_⟩
 have hcj := hc j hj
 have hne : p ≠ ⟨b, o + j, none⟩ := by
  rintro rfl
  rw [hcj] at hp
  injection hp with hp
  subst hp
  simp [notInt] at hu
 rw [World.cell?_setCell_other _ _ _ _ hne]
 exact hcj

set_option maxHeartbeats 1000000 in
set_option maxRecDepth 100000 in
theorem negated_any (b : Bool) (A : Option Addr) (n c : Nat) (w : World) (hc : (digs n).length ≤ c) (h : Reads w w.heap.size .u8 A (digs n)) :
 Calls Tryz.prog 132 #[.agg #[.bool b, .slice A (digs n).length c]] w (RetZ w (!b) n) := by
 go_enter Tryz.func132, Tryz.ntmps132
 go_wp2
 refine bodyPost_ret (v := .agg #[.bool (!b), .slice A (digs n).length c]) ?_ rfl ?_
 · simp [results, Tryz.results132, go_sem]
 · exact ⟨A, c, rfl, hc, ((h.alloc (Nat.le_refl _) _).alloc (by simp) _).more (by simp; omega), ((Below.refl _ _).alloc (Nat.le_refl _) _).alloc (by simp) _⟩

structure Boxes (w W : World) (u v u' v' : Value) : Prop where
 b0 : BoxIs W w.heap.size u v
 b1 : BoxIs W (w.heap.size + 1) u' v'
 b2 : BoxIs W (w.heap.size + 2) (.bool false) (.slice none 0 0)
 bel : Below w.heap.size w W
 size : W.heap.size = w.heap.size + 3
theorem Boxes.new (w : World) (u v u' v' : Value) : Boxes w (((w.alloc (.cells #[u, v] 143)).alloc (.cells #[u', v'] 143)).alloc (.cells #[.bool false, .slice none 0 0] 143)) u v u' v' := by
 have s1 : (w.alloc (.cells #[u, v] 143)).heap.size = w.heap.size + 1 := by simp
 have s2 : ((w.alloc (.cells #[u, v] 143)).alloc (.cells #[u', v'] 143)).heap.size = w.heap.size + 2 := by simp
 refine ⟨((BoxIs.new w u v).alloc _).alloc _, ?_, ?_, (((Below.refl _ _).alloc (Nat.le_refl _) _).alloc (by simp) _).alloc (by simp; omega) _, by simp⟩
 · have h := (BoxIs.new (w.alloc (.cells #[u, v] 143)) u' v').alloc (.cells #[.bool false, .slice none 0 0] 143)
   rw [s1] at h
   exact h
 · have h := BoxIs.new ((w.alloc (.cells #[u, v] 143)).alloc (.cells #[u', v'] 143)) (.bool false) (.slice none 0 0)
   rw [s2] at h
   exact h
theorem BoxIs.frozen {w : World} {g : Nat} {u v : Value} (h : BoxIs w g u v) (j : Nat) : w.frozen? ⟨g, j, none⟩ = false := Box.frozen ⟨u, v, h⟩ j
def Held (w : World) (u v u' v' : Value) (W : World) : Prop :=
 W.cell? ⟨w.heap.size, 0, none⟩ = some u ∧ W.cell? ⟨w.heap.size, 1, none⟩ = some v ∧ W.cell? ⟨w.heap.size + 1, 0, none⟩ = some u' ∧ W.cell? ⟨w.heap.size + 1, 1, none⟩ = some v'
theorem Boxes.held {w W : World} {u v u' v' : Value} (h : Boxes w W u v u' v') : Held w u v u' v' W := ⟨h.b0.cell0, h.b0.cell1, h.b1.cell0, h.b1.cell1⟩
theorem Boxes.below {w W W' : World} {u v u' v' : Value} (h : Boxes w W u v u' v') (hb : Below W.heap.size W W') :
 BoxIs W' w.heap.size u v ∧ BoxIs W' (w.heap.size + 1) u' v' ∧ BoxIs W' (w.heap.size + 2) (.bool false) (.slice none 0 0) ∧ Below w.heap.size w W' := by
 have := h.size
 exact ⟨h.b0.below hb (by omega), h.b1.below hb (by omega), h.b2.below hb (by omega), h.bel.trans (hb.mono (by omega))⟩

set_option maxHeartbeats 400000 in
set_option maxRecDepth 100000 in
theorem isZero_any (b : Bool) (A : Option Addr) (n c : Nat) (w : World) :
 Calls Tryz.prog 121 #[.agg #[.bool b, .slice A (digs n).length c]] w fun e w' => e = .returned (.bool (n == 0)) ∧ Below w.heap.size w w' := by
 have h0 : (((digs n).length : Int) == 0) = (n == 0) := by
  by_cases hn : n = 0
  · subst hn; rfl
  · have := List.length_pos_iff.2 (digs_ne_nil hn)
    rw [show (n == 0) = false from by simpa using hn, beq_eq_false_iff_ne]
    omega
 have H0 := Lib.hid h0
 clear h0
 obtain ⟨L, hL⟩ : ∃ L, (digs n).length = L := ⟨_, rfl⟩
 rw [hL] at H0 ⊢
 clear hL
 go_enter Tryz.func121, Tryz.ntmps121
 go_wp2
 go_ret
 exact ⟨ret_bool H0.out, (Below.refl _ _).alloc (Nat.le_refl _) _⟩

end Go.Proofs.YtflnffgohbbhiaaGreatDoor
