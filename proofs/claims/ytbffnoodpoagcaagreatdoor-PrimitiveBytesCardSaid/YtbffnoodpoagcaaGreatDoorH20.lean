import Derived.Test.YtbffnoodpoagcaaGreatDoorAl
import Derived.Test.YtbffnoodpoagcaaGreatDoorH18
import Derived.Test.YtbffnoodpoagcaaGreatDoorH17
import Derived.Test.YtbffnoodpoagcaaGreatDoorH19
import Derived.Test.YtbffnoodpoagcaaGreatDoorH11
import Derived.Test.YtbffnoodpoagcaaGreatDoorH12
import Derived.Test.YtbffnoodpoagcaaGreatDoorH14
import Derived.BigRegion
import Derived.IntWalk
namespace Go.Proofs.YtbffnoodpoagcaaGreatDoor
open Go Go.RowKit
set_option linter.unusedVariables false
def mkR (kd : Nat → Nat) (raw : Nat → Value) (M : Nat) (i : Nat) (v : Value) (lo hi : Nat) (w : World) : Prop :=
 match kd i with
 | 0 => v = raw i
 | 1 => ∃ o p, v = vO o p ∧ Pair w (fun b => lo ≤ b ∧ b < hi) o p ∧ OkO M o
 | _ => v = .pointer (some ⟨lo, 0, none⟩) ∧ w.heap[lo]? = some (.cells #[.int .i64 0, .string ⟨#[]⟩, .string ⟨#[]⟩, .string ⟨#[]⟩, .string ⟨#[]⟩, .string ⟨#[]⟩, .slice none 0 0] 27 (0, 0)) ∧ lo < hi
theorem mkR_mono {kd : Nat → Nat} {raw : Nat → Value} {M : Nat} : ∀ i x l m w w', mkR kd raw M i x l m w → m ≤ w.heap.size → Below w.heap.size w w' → mkR kd raw M i x l m w' := by
 intro i x l m w w' h hm hb
 unfold mkR at h ⊢
 generalize kd i = k at h ⊢
 match k, h with
 | 0, h => exact h
 | 1, ⟨o, p, h1, h2, h3⟩ => exact ⟨o, p, h1, h2.below (fun b hb => by omega) hb, h3⟩
 | k + 2, ⟨h1, h2, h3⟩ => exact ⟨h1, (hb.block _ (by omega)).trans h2, h3⟩
def injL (l : List Nat) : Bool := (List.range l.length).all fun i => (List.range l.length).all fun j => decide (l.getD i 0 = l.getD j 0 → i = j)
theorem inj_getD (l : List Nat) (h : injL l = true) (i j : Nat) (hi : i < l.length) (hj : j < l.length) (e : l.getD i 0 = l.getD j 0) : i = j := by
 have h1 := List.all_eq_true.1 h i (List.mem_range.2 hi)
 have h2 := List.all_eq_true.1 h1 j (List.mem_range.2 hj)
 exact of_decide_eq_true h2 e
theorem lt_getD (m : Nat) (l : List Nat) (h : (l.all fun x => decide (x < m)) = true) (i : Nat) (hi : i < l.length) : l.getD i 0 < m := by
 have h1 := List.all_eq_true.1 h l[i] (List.getElem_mem hi)
 rw [List.getD_eq_getElem?_getD, List.getElem?_eq_getElem hi]
 exact of_decide_eq_true h1
theorem ne_getD (m : Nat) (l : List Nat) (h : (l.all fun x => decide (x ≠ m)) = true) (i : Nat) (hi : i < l.length) : l.getD i 0 ≠ m := by
 have h1 := List.all_eq_true.1 h l[i] (List.getElem_mem hi)
 rw [List.getD_eq_getElem?_getD, List.getElem?_eq_getElem hi]
 exact of_decide_eq_true h1
theorem lt_of_heap {w : World} {b : Nat} {o : Obj} (h : w.heap[b]? = some o) : b < w.heap.size := by
 rcases Nat.lt_or_ge b w.heap.size with hlt | hge
 · exact hlt
 · rw [Array.getElem?_eq_none hge] at h; cases h

structure Box2 (w W : World) (x0 x1 : Array Value) : Prop where
 bel : Below w.heap.size w W
 b0 : W.heap[w.heap.size]? = some (.cells x0 49 (0, 0))
 b1 : W.heap[w.heap.size + 1]? = some (.cells x1 49 (0, 0))
 sz : w.heap.size + 2 ≤ W.heap.size
theorem Box2.new (w : World) (x0 x1 : Array Value) : Box2 w ((w.alloc (.cells x0 49)).alloc (.cells x1 49)) x0 x1 := by
 refine ⟨Below.alloc (Below.alloc (Below.refl _ _) (by simp <;> omega) _) (by simp <;> omega) _, ?_, ?_, by simp⟩
 · rw [Below.heap_alloc _ _ _ (by simp <;> omega)]; exact heap_new_at (by simp)
 · exact heap_new_at (by simp)
theorem Box2.below {w W W' : World} {x0 x1 : Array Value} (h : Box2 w W x0 x1) (hb : Below W.heap.size W W') : Box2 w W' x0 x1 := by
 have := h.sz
 exact ⟨h.bel.trans (hb.mono (by omega)), (hb.block _ (by omega)).trans h.b0, (hb.block _ (by omega)).trans h.b1, Nat.le_trans h.sz hb.size⟩
theorem Box2.cells {w W : World} {a0 a1 a2 a3 b0 b1 b2 b3 : Value} (h : Box2 w W #[a0, a1, a2, a3] #[b0, b1, b2, b3]) :
 (W.cell? ⟨w.heap.size, 0, none⟩ = some a0 ∧ W.cell? ⟨w.heap.size, 1, none⟩ = some a1 ∧ W.cell? ⟨w.heap.size, 2, none⟩ = some a2 ∧ W.cell? ⟨w.heap.size, 3, none⟩ = some a3) ∧ (W.cell? ⟨w.heap.size + 1, 0, none⟩ = some b0 ∧ W.cell? ⟨w.heap.size + 1, 1, none⟩ = some b1 ∧ W.cell? ⟨w.heap.size + 1, 2, none⟩ = some b2 ∧ W.cell? ⟨w.heap.size + 1, 3, none⟩ = some b3) := by
 refine ⟨⟨?_, ?_, ?_, ?_⟩, ⟨?_, ?_, ?_, ?_⟩⟩ <;> (rw [cell_of_row _ _ _ _ _ _ (by first | exact h.b0 | exact h.b1)]; rfl)

structure Stored2 (B : Nat) (w X : World) (g0 g1 : Nat) (o0 o1 : Ob) (p0 p1 : Value) : Prop where
 bel : Below w.heap.size w X
 h0 : X.heap[g0]? = some (.cells (cellsO o0 p0).toArray 27 (0, 0))
 h1 : X.heap[g1]? = some (.cells (cellsO o1 p1).toArray 27 (0, 0))
 q0 : Pair X (Has X) o0 p0
 q1 : Pair X (Has X) o1 p1
theorem Stored2.new {B : Nat} {w w9 : World} {g0 g1 : Nat} {o0 o1 : Ob} {p0 p1 : Value} {old0 : Array Value} {S0 : Nat → Prop} {old1 : Array Value} {S1 : Nat → Prop} (hg0 : w9.heap[g0]? = some (.cells old0 27 (0, 0))) (hp0 : Pair w9 S0 o0 p0) (hg1 : w9.heap[g1]? = some (.cells old1 27 (0, 0))) (hp1 : Pair w9 S1 o1 p1) (hB0 : w.heap.size ≤ g0) (hB1 : w.heap.size ≤ g1) (hS0 : ∀ b, S0 b → b < w9.heap.size) (hS1 : ∀ b, S1 b → b < w9.heap.size) (n01 : g0 ≠ g1) (m00 : ¬ S0 g0) (m01 : ¬ S0 g1) (m10 : ¬ S1 g0) (m11 : ¬ S1 g1) (hb : Below w.heap.size w w9) :
 Stored2 B w (World.setRow (World.setRow w9 g0 (cellsO o0 p0).toArray) g1 (cellsO o1 p1).toArray) g0 g1 o0 o1 p0 p1 := by
 exact ⟨below_setRowO (below_setRowO (hb) hB0 _) hB1 _, ((setRow_other _ _ _ _ (by omega)).trans (setRow_heap _ _ _ _ _ _ hg0)), (setRow_heap _ _ _ _ _ _ ((setRow_other _ _ _ _ (by omega)).trans hg1)), ((hp0.setRow g0 m00 _).setRow g1 m01 _).more (fun b hb => by have := hS0 b hb; unfold Has; rw [size_setRow, size_setRow]; exact this), ((hp1.setRow g0 m10 _).setRow g1 m11 _).more (fun b hb => by have := hS1 b hb; unfold Has; rw [size_setRow, size_setRow]; exact this)⟩
theorem Stored2.below {B : Nat} {w X X' : World} {g0 g1 : Nat} {o0 o1 : Ob} {p0 p1 : Value} (h : Stored2 B w X g0 g1 o0 o1 p0 p1) (hb : Below X.heap.size X X') : Stored2 B w X' g0 g1 o0 o1 p0 p1 :=
 ⟨h.bel.trans (hb.mono h.bel.size), (hb.block _ (lt_of_heap h.h0)).trans h.h0, (hb.block _ (lt_of_heap h.h1)).trans h.h1, (h.q0.below (fun _ h => h) hb).more (fun b h => Nat.lt_of_lt_of_le h hb.size), (h.q1.below (fun _ h => h) hb).more (fun b h => Nat.lt_of_lt_of_le h hb.size)⟩

structure Box3 (w W : World) (x0 x1 x2 : Array Value) : Prop where
 bel : Below w.heap.size w W
 b0 : W.heap[w.heap.size]? = some (.cells x0 49 (0, 0))
 b1 : W.heap[w.heap.size + 1]? = some (.cells x1 49 (0, 0))
 b2 : W.heap[w.heap.size + 1 + 1]? = some (.cells x2 49 (0, 0))
 sz : w.heap.size + 3 ≤ W.heap.size
theorem Box3.new (w : World) (x0 x1 x2 : Array Value) : Box3 w (((w.alloc (.cells x0 49)).alloc (.cells x1 49)).alloc (.cells x2 49)) x0 x1 x2 := by
 refine ⟨Below.alloc (Below.alloc (Below.alloc (Below.refl _ _) (by simp <;> omega) _) (by simp <;> omega) _) (by simp <;> omega) _, ?_, ?_, ?_, by simp⟩
 · rw [Below.heap_alloc _ _ _ (by simp <;> omega)]; rw [Below.heap_alloc _ _ _ (by simp <;> omega)]; exact heap_new_at (by simp)
 · rw [Below.heap_alloc _ _ _ (by simp <;> omega)]; exact heap_new_at (by simp)
 · exact heap_new_at (by simp)
theorem Box3.below {w W W' : World} {x0 x1 x2 : Array Value} (h : Box3 w W x0 x1 x2) (hb : Below W.heap.size W W') : Box3 w W' x0 x1 x2 := by
 have := h.sz
 exact ⟨h.bel.trans (hb.mono (by omega)), (hb.block _ (by omega)).trans h.b0, (hb.block _ (by omega)).trans h.b1, (hb.block _ (by omega)).trans h.b2, Nat.le_trans h.sz hb.size⟩
theorem Box3.cells {w W : World} {a0 a1 a2 a3 b0 b1 b2 b3 c0 c1 c2 c3 : Value} (h : Box3 w W #[a0, a1, a2, a3] #[b0, b1, b2, b3] #[c0, c1, c2, c3]) :
 (W.cell? ⟨w.heap.size, 0, none⟩ = some a0 ∧ W.cell? ⟨w.heap.size, 1, none⟩ = some a1 ∧ W.cell? ⟨w.heap.size, 2, none⟩ = some a2 ∧ W.cell? ⟨w.heap.size, 3, none⟩ = some a3) ∧ (W.cell? ⟨w.heap.size + 1, 0, none⟩ = some b0 ∧ W.cell? ⟨w.heap.size + 1, 1, none⟩ = some b1 ∧ W.cell? ⟨w.heap.size + 1, 2, none⟩ = some b2 ∧ W.cell? ⟨w.heap.size + 1, 3, none⟩ = some b3) ∧ (W.cell? ⟨w.heap.size + 1 + 1, 0, none⟩ = some c0 ∧ W.cell? ⟨w.heap.size + 1 + 1, 1, none⟩ = some c1 ∧ W.cell? ⟨w.heap.size + 1 + 1, 2, none⟩ = some c2 ∧ W.cell? ⟨w.heap.size + 1 + 1, 3, none⟩ = some c3) := by
 refine ⟨⟨?_, ?_, ?_, ?_⟩, ⟨?_, ?_, ?_, ?_⟩, ⟨?_, ?_, ?_, ?_⟩⟩ <;> (rw [cell_of_row _ _ _ _ _ _ (by first | exact h.b0 | exact h.b1 | exact h.b2)]; rfl)

structure Stored3 (B : Nat) (w X : World) (g0 g1 g2 : Nat) (o0 o1 o2 : Ob) (p0 p1 p2 : Value) : Prop where
 bel : Below w.heap.size w X
 h0 : X.heap[g0]? = some (.cells (cellsO o0 p0).toArray 27 (0, 0))
 h1 : X.heap[g1]? = some (.cells (cellsO o1 p1).toArray 27 (0, 0))
 h2 : X.heap[g2]? = some (.cells (cellsO o2 p2).toArray 27 (0, 0))
 q0 : Pair X (Has X) o0 p0
 q1 : Pair X (Has X) o1 p1
 q2 : Pair X (Has X) o2 p2
theorem Stored3.new {B : Nat} {w w9 : World} {g0 g1 g2 : Nat} {o0 o1 o2 : Ob} {p0 p1 p2 : Value} {old0 : Array Value} {S0 : Nat → Prop} {old1 : Array Value} {S1 : Nat → Prop} {old2 : Array Value} {S2 : Nat → Prop} (hg0 : w9.heap[g0]? = some (.cells old0 27 (0, 0))) (hp0 : Pair w9 S0 o0 p0) (hg1 : w9.heap[g1]? = some (.cells old1 27 (0, 0))) (hp1 : Pair w9 S1 o1 p1) (hg2 : w9.heap[g2]? = some (.cells old2 27 (0, 0))) (hp2 : Pair w9 S2 o2 p2) (hB0 : w.heap.size ≤ g0) (hB1 : w.heap.size ≤ g1) (hB2 : w.heap.size ≤ g2) (hS0 : ∀ b, S0 b → b < w9.heap.size) (hS1 : ∀ b, S1 b → b < w9.heap.size) (hS2 : ∀ b, S2 b → b < w9.heap.size) (n01 : g0 ≠ g1) (n02 : g0 ≠ g2) (n12 : g1 ≠ g2) (m00 : ¬ S0 g0) (m01 : ¬ S0 g1) (m02 : ¬ S0 g2) (m10 : ¬ S1 g0) (m11 : ¬ S1 g1) (m12 : ¬ S1 g2) (m20 : ¬ S2 g0) (m21 : ¬ S2 g1) (m22 : ¬ S2 g2) (hb : Below w.heap.size w w9) :
 Stored3 B w (World.setRow (World.setRow (World.setRow w9 g0 (cellsO o0 p0).toArray) g1 (cellsO o1 p1).toArray) g2 (cellsO o2 p2).toArray) g0 g1 g2 o0 o1 o2 p0 p1 p2 := by
 exact ⟨below_setRowO (below_setRowO (below_setRowO (hb) hB0 _) hB1 _) hB2 _, ((setRow_other _ _ _ _ (by omega)).trans ((setRow_other _ _ _ _ (by omega)).trans (setRow_heap _ _ _ _ _ _ hg0))), ((setRow_other _ _ _ _ (by omega)).trans (setRow_heap _ _ _ _ _ _ ((setRow_other _ _ _ _ (by omega)).trans hg1))), (setRow_heap _ _ _ _ _ _ ((setRow_other _ _ _ _ (by omega)).trans ((setRow_other _ _ _ _ (by omega)).trans hg2))), (((hp0.setRow g0 m00 _).setRow g1 m01 _).setRow g2 m02 _).more (fun b hb => by have := hS0 b hb; unfold Has; rw [size_setRow, size_setRow, size_setRow]; exact this), (((hp1.setRow g0 m10 _).setRow g1 m11 _).setRow g2 m12 _).more (fun b hb => by have := hS1 b hb; unfold Has; rw [size_setRow, size_setRow, size_setRow]; exact this), (((hp2.setRow g0 m20 _).setRow g1 m21 _).setRow g2 m22 _).more (fun b hb => by have := hS2 b hb; unfold Has; rw [size_setRow, size_setRow, size_setRow]; exact this)⟩
theorem Stored3.below {B : Nat} {w X X' : World} {g0 g1 g2 : Nat} {o0 o1 o2 : Ob} {p0 p1 p2 : Value} (h : Stored3 B w X g0 g1 g2 o0 o1 o2 p0 p1 p2) (hb : Below X.heap.size X X') : Stored3 B w X' g0 g1 g2 o0 o1 o2 p0 p1 p2 :=
 ⟨h.bel.trans (hb.mono h.bel.size), (hb.block _ (lt_of_heap h.h0)).trans h.h0, (hb.block _ (lt_of_heap h.h1)).trans h.h1, (hb.block _ (lt_of_heap h.h2)).trans h.h2, (h.q0.below (fun _ h => h) hb).more (fun b h => Nat.lt_of_lt_of_le h hb.size), (h.q1.below (fun _ h => h) hb).more (fun b h => Nat.lt_of_lt_of_le h hb.size), (h.q2.below (fun _ h => h) hb).more (fun b h => Nat.lt_of_lt_of_le h hb.size)⟩
set_option maxHeartbeats 8000000
set_option maxRecDepth 100000

structure FixB (w X : World) (g0 g1 r : Nat) (x y : Array Value) : Prop where
 bel : Below w.heap.size w X
 h0 : X.heap[g0]? = some (.cells x 27 (0, 0))
 h1 : X.heap[g1]? = some (.cells y 27 (0, 0))
 hr : ∃ z : Array Value, z.size = 7 ∧ X.heap[r]? = some (.cells z 27 (0, 0))
 n0 : r < g0
 n1 : r < g1
 low : w.heap.size ≤ r
theorem FixB.below {w X X' : World} {g0 g1 r : Nat} {x y : Array Value} (h : FixB w X g0 g1 r x y) (hb : Below X.heap.size X X') : FixB w X' g0 g1 r x y := by
 obtain ⟨z, hz, h2⟩ := h.hr
 exact ⟨h.bel.trans (hb.mono h.bel.size), (hb.block _ (lt_of_heap h.h0)).trans h.h0, (hb.block _ (lt_of_heap h.h1)).trans h.h1, ⟨z, hz, (hb.block _ (lt_of_heap h2)).trans h2⟩, h.n0, h.n1, h.low⟩
theorem FixB.ret {w X : World} {g0 g1 r : Nat} {x y : Array Value} (T : FixB w X g0 g1 r x y) (q : Rat) {fn : Func} {t : Tmp} {tmps : Array Value} (h : fn.results = #[.cell t 27]) (hr : tmps.getD t undef = .pointer (some ⟨r, 0, none⟩)) :
 bodyPost Tryz.prog fn (RetN w q) Exit.ret ⟨tmps, []⟩ (((((((X.setCell ⟨r, 0, none⟩ (.int .i64 1)).setCell ⟨r, 1, none⟩ (.string (nt q))).setCell ⟨r, 2, none⟩ (.string (dt q))).setCell ⟨r, 3, none⟩ (.string ⟨#[]⟩)).setCell ⟨r, 4, none⟩ (.string ⟨#[]⟩)).setCell ⟨r, 5, none⟩ (.string ⟨#[]⟩)).setCell ⟨r, 6, none⟩ (.slice none 0 0)) := by
 obtain ⟨z, hz, h2⟩ := T.hr
 rw [setRow7 h2 hz]
 exact retN h hr (setRow_heap _ _ _ _ _ _ h2) rfl (below_setRowO T.bel T.low _)

theorem productR (d : Nat) (hd : d ≤ 1000) (a a' : Ob) (p p' : Value) (w : World) (S : Nat → Prop) (hp : Pair w S a p) (hp' : Pair w S a' p') (hb : Bd d a.fix) (hb' : Bd d a'.fix) (ht : Tab w) :
 Calls Tryz.prog 71 #[vO a p, vO a' p'] w (RetN w (a.fix * a'.fix)) := by
 have HT := qh9 ht
 have A1 : Hid (∀ wd, Tab wd → Calls Tryz.prog 62 #[vO a p] wd (RetN wd a.fix)) := fun wd h => fixR a p wd (fun q e => by subst e; exact hp) h
 have A2 : Hid (∀ wd, Tab wd → Calls Tryz.prog 62 #[vO a' p'] wd (RetN wd a'.fix)) := fun wd h => fixR a' p' wd (fun q e => by subst e; exact hp') h
 clear ht hp hp'
 generalize a.fix = x at A1 hb ⊢
 generalize a'.fix = y at A2 hb' ⊢
 obtain ⟨x0, x1, x2, x3, x4, x5, e⟩ := cells7 a p
 obtain ⟨y0, y1, y2, y3, y4, y5, e'⟩ := cells7 a' p'
 unfold vO at A1 A2
 rw [e] at A1
 rw [e'] at A2
 unfold vO
 rw [e, e']
 clear e e'
 go_enter Tryz.func71, Tryz.ntmps71
 go_wp2_with fail
 have T0 := Three.new w #[x0, x1, x2, x3, x4, x5, p] #[y0, y1, y2, y3, y4, y5, p'] #[.int .i64 0, .string ⟨#[]⟩, .string ⟨#[]⟩, .string ⟨#[]⟩, .string ⟨#[]⟩, .string ⟨#[]⟩, .slice none 0 0] rfl
 generalize ((w.alloc (.cells #[x0, x1, x2, x3, x4, x5, p] 27)).alloc (.cells #[y0, y1, y2, y3, y4, y5, p'] 27)).alloc (.cells #[.int .i64 0, .string ⟨#[]⟩, .string ⟨#[]⟩, .string ⟨#[]⟩, .string ⟨#[]⟩, .string ⟨#[]⟩, .slice none 0 0] 27) = W at T0 ⊢
 have HX := qh9 T0
 clear T0
 try go_wp2_with fail
 refine wp_region_grow (l := _) 6 (by kernel_rfl) (by kernel_rfl) (fun i => [7, 8, 9, 10, 5, 6].getD i 0) (mkR (fun i => [0, 0, 0, 0, 2, 2].getD i 3) (fun i => [.agg #[x0, x1, x2, x3, x4, x5, p], vQ x, .agg #[y0, y1, y2, y3, y4, y5, p'], vQ y].getD i undef) 0) mkR_mono (by
  intro i j hi hj h
  have := inj_getD [7, 8, 9, 10, 5, 6] (by decide) i j hi hj h
  exact this) (by
  intro i hi
  have := lt_getD 22 [7, 8, 9, 10, 5, 6] (by decide) i hi
  exact this) ?step ?done
 case step =>
  intro i hi a w9 v lo hi' hoth hbl hw
  have hB := HX.out.below hbl
  have sl0 : a.tmps[2]? = some (.pointer (some ⟨w.heap.size, 0, none⟩)) := (hoth 2 (fun j hj => by
   have := ne_getD 2 [7, 8, 9, 10, 5, 6] (by decide) j hj
   exact this)).trans rfl
  have sl1 : a.tmps[3]? = some (.pointer (some ⟨w.heap.size + 1, 0, none⟩)) := (hoth 3 (fun j hj => by
   have := ne_getD 3 [7, 8, 9, 10, 5, 6] (by decide) j hj
   exact this)).trans rfl
  match i, hi with
  | 0, _ => exact grow_load rfl rfl 27 (.tmp 2) rfl w.heap.size 0 (eval_of sl0) [x0, x1, x2, x3, x4, x5, p] _ (World.rangeAt_of_block hB.b0 0 7) Tryz.underlying27 rfl (by kernel_rfl) ⟨_, rfl, Below.refl _ _, rfl⟩
  | 1, _ =>
   obtain ⟨sx, ex, _⟩ := hw 0 (by omega) (by kernel_rfl)
   have e : v 0 = .agg #[x0, x1, x2, x3, x4, x5, p] := ex
   rw [e] at sx
   refine grow_call1 rfl rfl 62 7 _ rfl _ (fun v w => by go_simp) sx ?_
   refine (A1.out w9 (HT.out.below hB.bel)).mono ?_
   rintro e w3 ⟨rfl, hb3⟩
   exact ⟨_, rfl, _, rfl, hb3, rfl⟩
  | 2, _ => exact grow_load rfl rfl 27 (.tmp 3) rfl (w.heap.size + 1) 0 (eval_of sl1) [y0, y1, y2, y3, y4, y5, p'] _ (World.rangeAt_of_block hB.b1 0 7) Tryz.underlying27 rfl (by kernel_rfl) ⟨_, rfl, Below.refl _ _, rfl⟩
  | 3, _ =>
   obtain ⟨sx, ex, _⟩ := hw 2 (by omega) (by kernel_rfl)
   have e : v 2 = .agg #[y0, y1, y2, y3, y4, y5, p'] := ex
   rw [e] at sx
   refine grow_call1 rfl rfl 62 9 _ rfl _ (fun v w => by go_simp) sx ?_
   refine (A2.out w9 (HT.out.below hB.bel)).mono ?_
   rintro e w3 ⟨rfl, hb3⟩
   exact ⟨_, rfl, _, rfl, hb3, rfl⟩
  | 4, _ => exact grow_allocO rfl rfl rfl ⟨_, rfl, Below.alloc (Below.refl _ _) (Nat.le_refl _) _, rfl, heap_alloc_new _ _, by simp⟩
  | 5, _ => exact grow_allocO rfl rfl rfl ⟨_, rfl, Below.alloc (Below.refl _ _) (Nat.le_refl _) _, rfl, heap_alloc_new _ _, by simp⟩
 case done =>
  intro a w9 v lo hi' hdef hsz hoth hbl hj hap
  have e0 : v 0 = .agg #[x0, x1, x2, x3, x4, x5, p] := (hj 0 (by omega)).2.1
  have e1 : v 1 = vQ x := (hj 1 (by omega)).2.1
  have e2 : v 2 = .agg #[y0, y1, y2, y3, y4, y5, p'] := (hj 2 (by omega)).2.1
  have e3 : v 3 = vQ y := (hj 3 (by omega)).2.1
  obtain ⟨_, ⟨hw0, hg0, hlt0⟩, hl0, hh0⟩ := hj 4 (by omega)
  obtain ⟨_, ⟨hw1, hg1, hlt1⟩, hl1, hh1⟩ := hj 5 (by omega)
  have q01 := hap 4 5 (by omega) (by omega) (by decide)
  have ha := eq_puts hdef hsz hoth (fun i hi => (hj i hi).1)
  have hB := HX.out.below hbl
  have hsW := HX.out.size
  subst ha
  clear hj hap hoth hdef hsz
  simp only [puts, List.getD_cons_zero, List.getD_cons_succ, e0, e1, e2, e3, hw0, hw1]
  clear e0 e1 e2 e3 hw0 hw1
  generalize lo 4 = g0 at *
  generalize hi' 4 = c0 at *
  generalize lo 5 = g1 at *
  generalize hi' 5 = c1 at *
  simp only [Act.put, List.setIfInBounds_toArray, List.set_cons_zero, List.set_cons_succ]
  show wpList _ _ _ [_, _] _ _
  refine storeN rfl (.tmp 5) (.tmp 8) rfl g0 x rfl rfl _ _ hg0 rfl ?_
  refine storeN rfl (.tmp 6) (.tmp 10) rfl g1 y rfl rfl _ _ ((setRow_other _ _ _ _ (by omega)).trans hg1) rfl ?_
  have hX : FixB w ((w9.setRow g0 #[.int .i64 1, .string (nt x), .string (dt x), .string ⟨#[]⟩, .string ⟨#[]⟩, .string ⟨#[]⟩, .slice none 0 0]).setRow g1 #[.int .i64 1, .string (nt y), .string (dt y), .string ⟨#[]⟩, .string ⟨#[]⟩, .string ⟨#[]⟩, .slice none 0 0]) g0 g1 (w.heap.size + 1 + 1) #[.int .i64 1, .string (nt x), .string (dt x), .string ⟨#[]⟩, .string ⟨#[]⟩, .string ⟨#[]⟩, .slice none 0 0] #[.int .i64 1, .string (nt y), .string (dt y), .string ⟨#[]⟩, .string ⟨#[]⟩, .string ⟨#[]⟩, .slice none 0 0] := by
   obtain ⟨z, hz, h2⟩ := hB.b2
   exact ⟨below_setRowO (below_setRowO hB.bel (by omega) _) (by omega) _, (setRow_other _ _ _ _ (by omega)).trans (setRow_heap _ _ _ _ _ _ hg0), setRow_heap _ _ _ _ _ _ ((setRow_other _ _ _ _ (by omega)).trans hg1),
    ⟨z, hz, (setRow_other _ _ _ _ (by omega)).trans ((setRow_other _ _ _ _ (by omega)).trans h2)⟩, by omega, by omega, by omega⟩
  generalize (w9.setRow g0 #[.int .i64 1, .string (nt x), .string (dt x), .string ⟨#[]⟩, .string ⟨#[]⟩, .string ⟨#[]⟩, .slice none 0 0]).setRow g1 #[.int .i64 1, .string (nt y), .string (dt y), .string ⟨#[]⟩, .string ⟨#[]⟩, .string ⟨#[]⟩, .slice none 0 0] = wc at hX ⊢
  have T := qh9 hX
  clear hX hB hg0 hg1 hlt0 hlt1 hl0 hl1 hh0 hh1 q01 hbl HX A1 A2 hsW
  unfold vQ
  have b1 := bd_nt hb
  have b2 := bd_dt hb
  have b3 := bd_nt hb'
  have b4 := bd_dt hb'
  have hB0 : Below wc.heap.size wc wc.drew := (Below.refl _ _).drew
  obtain ⟨⟨_, c1, c2, _, _, _, _⟩, _⟩ := row7 T.out.h0
  obtain ⟨⟨_, d1, d2, _, _, _, _⟩, _⟩ := row7 T.out.h1
  have n1 : ¬ w.heap.size + 1 + 1 = g0 := by have := T.out.n0; omega
  have n2 : ¬ w.heap.size + 1 + 1 = g1 := by have := T.out.n1; omega
  have n3 : ¬ g0 = w.heap.size + 1 + 1 := by have := T.out.n0; omega
  have n4 : ¬ g1 = w.heap.size + 1 + 1 := by have := T.out.n1; omega
  generalize w.heap.size + 1 + 1 = r at T n1 n2 n3 n4 ⊢
  have hv : Hid (quo (LA (BA (text (val (LA (nt x)) * val (LA (nt y)))))) (LA (BA (text (val (LA (dt x)) * val (LA (dt y)))))) = x * y) := by
   show _ = _
   rw [val_nt, val_dt, val_nt, val_dt, quo_text, q_mul]
  have s1 : (BA (text (val (LA (nt x)) * val (LA (nt y))))).size ≤ 3000 := by
   rw [val_nt, val_nt, BA_size]
   refine Nat.le_trans (text_length (k := d + d) ?_) (by omega)
   rw [Int.natAbs_mul]
   exact lt_pow_mul hb.1 hb'.1
  have s2 : (BA (text (val (LA (dt x)) * val (LA (dt y))))).size ≤ 3000 := by
   rw [val_dt, val_dt, BA_size]
   refine Nat.le_trans (text_length (k := d + d) ?_) (by omega)
   rw [Int.natAbs_mul]
   exact lt_pow_mul hb.2 hb'.2
  have RN : Hid (∀ W, Calls Tryz.prog 20 #[.string (BA (text (val (LA (nt x)) * val (LA (nt y))))), .string (BA (text (val (LA (dt x)) * val (LA (dt y)))))] W (RetN W (x * y))) := fun W => by
   rw [← hv.out]; exact ratRN _ _ _ (by omega) (by omega)
  clear hb hb' hv s1 s2
  generalize nt x = nx at *
  generalize dt x = dx at *
  generalize nt y = ny at *
  generalize dt y = dy at *
  go_wp2_with fail
  go_region_held3 (fun W' => W'.cell? ⟨g0, 1, none⟩ = some (.string nx) ∧ W'.cell? ⟨g0, 2, none⟩ = some (.string dx) ∧ W'.cell? ⟨g1, 1, none⟩ = some (.string ny) ∧ W'.cell? ⟨g1, 2, none⟩ = some (.string dy)) (go_keep)
   (first
     | (go_at_call 122; refine (multiplyR _ _ _ (by omega) (by omega)).mono ?_; rintro e w3 ⟨rfl, hb3⟩; have hB3 := chain2 ‹Below wc.heap.size wc _› hb3 (Nat.le_refl _); obtain ⟨⟨_, c1, c2, _, _, _, _⟩, _⟩ := row7 (T.out.below hB3).h0; obtain ⟨⟨_, d1, d2, _, _, _, _⟩, _⟩ := row7 (T.out.below hB3).h1)
     | (go_at_call 20; refine (RN.out _).mono ?_; rintro e w4 ⟨rfl, hb4⟩; have hB4 := chain2 ‹Below wc.heap.size wc _› hb4 (Nat.le_refl _); obtain ⟨⟨_, c1, c2, _, _, _, _⟩, _⟩ := row7 (T.out.below hB4).h0; obtain ⟨⟨_, d1, d2, _, _, _, _⟩, _⟩ := row7 (T.out.below hB4).h1; obtain ⟨z, hz, hz2⟩ := (T.out.below hB4).hr; obtain ⟨z0, z1, z2, z3, z4, z5, z6, ⟨q0, q1, q2, q3, q4, q5, q6⟩, f2⟩ := row7z hz hz2; clear hz hz2; unfold vQ))
  all_goals go_wp2
  all_goals exact FixB.ret (T.out.below ‹Below wc.heap.size wc _›) _ rfl rfl

theorem sumR (d : Nat) (hd : d ≤ 1000) (a a' : Ob) (p p' : Value) (w : World) (S : Nat → Prop) (hp : Pair w S a p) (hp' : Pair w S a' p') (hb : Bd d a.fix) (hb' : Bd d a'.fix) (ht : Tab w) :
 Calls Tryz.prog 70 #[vO a p, vO a' p'] w (RetN w (a.fix + a'.fix)) := by
 have HT := qh9 ht
 have A1 : Hid (∀ wd, Tab wd → Calls Tryz.prog 62 #[vO a p] wd (RetN wd a.fix)) := fun wd h => fixR a p wd (fun q e => by subst e; exact hp) h
 have A2 : Hid (∀ wd, Tab wd → Calls Tryz.prog 62 #[vO a' p'] wd (RetN wd a'.fix)) := fun wd h => fixR a' p' wd (fun q e => by subst e; exact hp') h
 clear ht hp hp'
 generalize a.fix = x at A1 hb ⊢
 generalize a'.fix = y at A2 hb' ⊢
 obtain ⟨x0, x1, x2, x3, x4, x5, e⟩ := cells7 a p
 obtain ⟨y0, y1, y2, y3, y4, y5, e'⟩ := cells7 a' p'
 unfold vO at A1 A2
 rw [e] at A1
 rw [e'] at A2
 unfold vO
 rw [e, e']
 clear e e'
 go_enter Tryz.func70, Tryz.ntmps70
 go_wp2_with fail
 have T0 := Three.new w #[x0, x1, x2, x3, x4, x5, p] #[y0, y1, y2, y3, y4, y5, p'] #[.int .i64 0, .string ⟨#[]⟩, .string ⟨#[]⟩, .string ⟨#[]⟩, .string ⟨#[]⟩, .string ⟨#[]⟩, .slice none 0 0] rfl
 generalize ((w.alloc (.cells #[x0, x1, x2, x3, x4, x5, p] 27)).alloc (.cells #[y0, y1, y2, y3, y4, y5, p'] 27)).alloc (.cells #[.int .i64 0, .string ⟨#[]⟩, .string ⟨#[]⟩, .string ⟨#[]⟩, .string ⟨#[]⟩, .string ⟨#[]⟩, .slice none 0 0] 27) = W at T0 ⊢
 have HX := qh9 T0
 clear T0
 try go_wp2_with fail
 refine wp_region_grow (l := _) 6 (by kernel_rfl) (by kernel_rfl) (fun i => [7, 8, 9, 10, 5, 6].getD i 0) (mkR (fun i => [0, 0, 0, 0, 2, 2].getD i 3) (fun i => [.agg #[x0, x1, x2, x3, x4, x5, p], vQ x, .agg #[y0, y1, y2, y3, y4, y5, p'], vQ y].getD i undef) 0) mkR_mono (by
  intro i j hi hj h
  have := inj_getD [7, 8, 9, 10, 5, 6] (by decide) i j hi hj h
  exact this) (by
  intro i hi
  have := lt_getD 28 [7, 8, 9, 10, 5, 6] (by decide) i hi
  exact this) ?step ?done
 case step =>
  intro i hi a w9 v lo hi' hoth hbl hw
  have hB := HX.out.below hbl
  have sl0 : a.tmps[2]? = some (.pointer (some ⟨w.heap.size, 0, none⟩)) := (hoth 2 (fun j hj => by
   have := ne_getD 2 [7, 8, 9, 10, 5, 6] (by decide) j hj
   exact this)).trans rfl
  have sl1 : a.tmps[3]? = some (.pointer (some ⟨w.heap.size + 1, 0, none⟩)) := (hoth 3 (fun j hj => by
   have := ne_getD 3 [7, 8, 9, 10, 5, 6] (by decide) j hj
   exact this)).trans rfl
  match i, hi with
  | 0, _ => exact grow_load rfl rfl 27 (.tmp 2) rfl w.heap.size 0 (eval_of sl0) [x0, x1, x2, x3, x4, x5, p] _ (World.rangeAt_of_block hB.b0 0 7) Tryz.underlying27 rfl (by kernel_rfl) ⟨_, rfl, Below.refl _ _, rfl⟩
  | 1, _ =>
   obtain ⟨sx, ex, _⟩ := hw 0 (by omega) (by kernel_rfl)
   have e : v 0 = .agg #[x0, x1, x2, x3, x4, x5, p] := ex
   rw [e] at sx
   refine grow_call1 rfl rfl 62 7 _ rfl _ (fun v w => by go_simp) sx ?_
   refine (A1.out w9 (HT.out.below hB.bel)).mono ?_
   rintro e w3 ⟨rfl, hb3⟩
   exact ⟨_, rfl, _, rfl, hb3, rfl⟩
  | 2, _ => exact grow_load rfl rfl 27 (.tmp 3) rfl (w.heap.size + 1) 0 (eval_of sl1) [y0, y1, y2, y3, y4, y5, p'] _ (World.rangeAt_of_block hB.b1 0 7) Tryz.underlying27 rfl (by kernel_rfl) ⟨_, rfl, Below.refl _ _, rfl⟩
  | 3, _ =>
   obtain ⟨sx, ex, _⟩ := hw 2 (by omega) (by kernel_rfl)
   have e : v 2 = .agg #[y0, y1, y2, y3, y4, y5, p'] := ex
   rw [e] at sx
   refine grow_call1 rfl rfl 62 9 _ rfl _ (fun v w => by go_simp) sx ?_
   refine (A2.out w9 (HT.out.below hB.bel)).mono ?_
   rintro e w3 ⟨rfl, hb3⟩
   exact ⟨_, rfl, _, rfl, hb3, rfl⟩
  | 4, _ => exact grow_allocO rfl rfl rfl ⟨_, rfl, Below.alloc (Below.refl _ _) (Nat.le_refl _) _, rfl, heap_alloc_new _ _, by simp⟩
  | 5, _ => exact grow_allocO rfl rfl rfl ⟨_, rfl, Below.alloc (Below.refl _ _) (Nat.le_refl _) _, rfl, heap_alloc_new _ _, by simp⟩
 case done =>
  intro a w9 v lo hi' hdef hsz hoth hbl hj hap
  have e0 : v 0 = .agg #[x0, x1, x2, x3, x4, x5, p] := (hj 0 (by omega)).2.1
  have e1 : v 1 = vQ x := (hj 1 (by omega)).2.1
  have e2 : v 2 = .agg #[y0, y1, y2, y3, y4, y5, p'] := (hj 2 (by omega)).2.1
  have e3 : v 3 = vQ y := (hj 3 (by omega)).2.1
  obtain ⟨_, ⟨hw0, hg0, hlt0⟩, hl0, hh0⟩ := hj 4 (by omega)
  obtain ⟨_, ⟨hw1, hg1, hlt1⟩, hl1, hh1⟩ := hj 5 (by omega)
  have q01 := hap 4 5 (by omega) (by omega) (by decide)
  have ha := eq_puts hdef hsz hoth (fun i hi => (hj i hi).1)
  have hB := HX.out.below hbl
  have hsW := HX.out.size
  subst ha
  clear hj hap hoth hdef hsz
  simp only [puts, List.getD_cons_zero, List.getD_cons_succ, e0, e1, e2, e3, hw0, hw1]
  clear e0 e1 e2 e3 hw0 hw1
  generalize lo 4 = g0 at *
  generalize hi' 4 = c0 at *
  generalize lo 5 = g1 at *
  generalize hi' 5 = c1 at *
  simp only [Act.put, List.setIfInBounds_toArray, List.set_cons_zero, List.set_cons_succ]
  show wpList _ _ _ [_, _] _ _
  refine storeN rfl (.tmp 5) (.tmp 8) rfl g0 x rfl rfl _ _ hg0 rfl ?_
  refine storeN rfl (.tmp 6) (.tmp 10) rfl g1 y rfl rfl _ _ ((setRow_other _ _ _ _ (by omega)).trans hg1) rfl ?_
  have hX : FixB w ((w9.setRow g0 #[.int .i64 1, .string (nt x), .string (dt x), .string ⟨#[]⟩, .string ⟨#[]⟩, .string ⟨#[]⟩, .slice none 0 0]).setRow g1 #[.int .i64 1, .string (nt y), .string (dt y), .string ⟨#[]⟩, .string ⟨#[]⟩, .string ⟨#[]⟩, .slice none 0 0]) g0 g1 (w.heap.size + 1 + 1) #[.int .i64 1, .string (nt x), .string (dt x), .string ⟨#[]⟩, .string ⟨#[]⟩, .string ⟨#[]⟩, .slice none 0 0] #[.int .i64 1, .string (nt y), .string (dt y), .string ⟨#[]⟩, .string ⟨#[]⟩, .string ⟨#[]⟩, .slice none 0 0] := by
   obtain ⟨z, hz, h2⟩ := hB.b2
   exact ⟨below_setRowO (below_setRowO hB.bel (by omega) _) (by omega) _, (setRow_other _ _ _ _ (by omega)).trans (setRow_heap _ _ _ _ _ _ hg0), setRow_heap _ _ _ _ _ _ ((setRow_other _ _ _ _ (by omega)).trans hg1),
    ⟨z, hz, (setRow_other _ _ _ _ (by omega)).trans ((setRow_other _ _ _ _ (by omega)).trans h2)⟩, by omega, by omega, by omega⟩
  generalize (w9.setRow g0 #[.int .i64 1, .string (nt x), .string (dt x), .string ⟨#[]⟩, .string ⟨#[]⟩, .string ⟨#[]⟩, .slice none 0 0]).setRow g1 #[.int .i64 1, .string (nt y), .string (dt y), .string ⟨#[]⟩, .string ⟨#[]⟩, .string ⟨#[]⟩, .slice none 0 0] = wc at hX ⊢
  have T := qh9 hX
  clear hX hB hg0 hg1 hlt0 hlt1 hl0 hl1 hh0 hh1 q01 hbl HX A1 A2 hsW
  unfold vQ
  have b1 := bd_nt hb
  have b2 := bd_dt hb
  have b3 := bd_nt hb'
  have b4 := bd_dt hb'
  have hB0 : Below wc.heap.size wc wc.drew := (Below.refl _ _).drew
  obtain ⟨⟨_, c1, c2, _, _, _, _⟩, _⟩ := row7 T.out.h0
  obtain ⟨⟨_, d1, d2, _, _, _, _⟩, _⟩ := row7 T.out.h1
  have n1 : ¬ w.heap.size + 1 + 1 = g0 := by have := T.out.n0; omega
  have n2 : ¬ w.heap.size + 1 + 1 = g1 := by have := T.out.n1; omega
  have n3 : ¬ g0 = w.heap.size + 1 + 1 := by have := T.out.n0; omega
  have n4 : ¬ g1 = w.heap.size + 1 + 1 := by have := T.out.n1; omega
  generalize w.heap.size + 1 + 1 = r at T n1 n2 n3 n4 ⊢
  have m1 := lt_pow_mul hb.1 hb'.2
  have m2 := lt_pow_mul hb'.1 hb.2
  have m3 := lt_pow_mul hb.2 hb'.2
  have hp2 : 10 ^ (d + d + 1) = 10 ^ (d + d) * 10 := Nat.pow_succ ..
  have s1 : (BA (text (val (LA (nt x)) * val (LA (dt y))))).size ≤ 3000 := by
   rw [val_nt, val_dt, BA_size]
   refine Nat.le_trans (text_length (k := d + d) ?_) (by omega)
   rw [Int.natAbs_mul]
   exact m1
  have s2 : (BA (text (val (LA (nt y)) * val (LA (dt x))))).size ≤ 3000 := by
   rw [val_nt, val_dt, BA_size]
   refine Nat.le_trans (text_length (k := d + d) ?_) (by omega)
   rw [Int.natAbs_mul]
   exact m2
  have s3 : (BA (text (val (LA (dt x)) * val (LA (dt y))))).size ≤ 3000 := by
   rw [val_dt, val_dt, BA_size]
   refine Nat.le_trans (text_length (k := d + d) ?_) (by omega)
   rw [Int.natAbs_mul]
   exact m3
  have hA : Hid (∀ W, Calls Tryz.prog 121 #[.string (BA (text (val (LA (nt x)) * val (LA (dt y))))), .string (BA (text (val (LA (nt y)) * val (LA (dt x)))))] W (RetS W (x.num * (y.den : Int) + y.num * (x.den : Int)))) := fun W => by
   have h := addR (BA (text (val (LA (nt x)) * val (LA (dt y))))) (BA (text (val (LA (nt y)) * val (LA (dt x))))) W (by omega) (by omega)
   rw [LA_BA, LA_BA, val_text, val_text, val_nt, val_dt, val_nt, val_dt] at h
   rw [val_nt, val_dt, val_nt, val_dt]
   exact h
  have s4 : (BA (text (x.num * (y.den : Int) + y.num * (x.den : Int)))).size ≤ 3000 := by
   rw [BA_size]
   refine Nat.le_trans (text_length (k := d + d + 1) ?_) (by omega)
   have h3 := Int.natAbs_add_le (x.num * (y.den : Int)) (y.num * (x.den : Int))
   rw [Int.natAbs_mul, Int.natAbs_mul, Int.natAbs_natCast, Int.natAbs_natCast] at h3
   omega
  have RN : Hid (∀ W, Calls Tryz.prog 20 #[.string (BA (text (x.num * (y.den : Int) + y.num * (x.den : Int)))), .string (BA (text (val (LA (dt x)) * val (LA (dt y)))))] W (RetN W (x + y))) := fun W => by
   have h := ratRN (BA (text (x.num * (y.den : Int) + y.num * (x.den : Int)))) (BA (text (val (LA (dt x)) * val (LA (dt y))))) W (by omega) (by omega)
   rw [val_dt, val_dt, quo_text, q_add] at h
   rw [val_dt, val_dt]
   exact h
  clear hb hb' m1 m2 m3 hp2 s1 s2 s3 s4
  generalize x.num * (y.den : Int) + y.num * (x.den : Int) = nn at hA RN
  generalize nt x = nx at *
  generalize dt x = dx at *
  generalize nt y = ny at *
  generalize dt y = dy at *
  go_wp2_with fail
  go_region_held3 (fun W' => W'.cell? ⟨g0, 1, none⟩ = some (.string nx) ∧ W'.cell? ⟨g0, 2, none⟩ = some (.string dx) ∧ W'.cell? ⟨g1, 1, none⟩ = some (.string ny) ∧ W'.cell? ⟨g1, 2, none⟩ = some (.string dy)) (go_keep)
   (first
     | (go_at_call 122; refine (multiplyR _ _ _ (by omega) (by omega)).mono ?_; rintro e w3 ⟨rfl, hb3⟩; have hB3 := chain2 ‹Below wc.heap.size wc _› hb3 (Nat.le_refl _); obtain ⟨⟨_, c1, c2, _, _, _, _⟩, _⟩ := row7 (T.out.below hB3).h0; obtain ⟨⟨_, d1, d2, _, _, _, _⟩, _⟩ := row7 (T.out.below hB3).h1)
     | (go_at_call 121; refine (hA.out _).mono ?_; rintro e w5 ⟨rfl, hb5⟩; have hB5 := chain2 ‹Below wc.heap.size wc _› hb5 (Nat.le_refl _); obtain ⟨⟨_, c1, c2, _, _, _, _⟩, _⟩ := row7 (T.out.below hB5).h0; obtain ⟨⟨_, d1, d2, _, _, _, _⟩, _⟩ := row7 (T.out.below hB5).h1)
     | (go_at_call 20; refine (RN.out _).mono ?_; rintro e w4 ⟨rfl, hb4⟩; have hB4 := chain2 ‹Below wc.heap.size wc _› hb4 (Nat.le_refl _); obtain ⟨⟨_, c1, c2, _, _, _, _⟩, _⟩ := row7 (T.out.below hB4).h0; obtain ⟨⟨_, d1, d2, _, _, _, _⟩, _⟩ := row7 (T.out.below hB4).h1; obtain ⟨z, hz, hz2⟩ := (T.out.below hB4).hr; obtain ⟨z0, z1, z2, z3, z4, z5, z6, ⟨q0, q1, q2, q3, q4, q5, q6⟩, f2⟩ := row7z hz hz2; clear hz hz2; unfold vQ))
  all_goals go_wp2
  all_goals exact FixB.ret (T.out.below ‹Below wc.heap.size wc _›) _ rfl rfl

theorem reciprocalR (d : Nat) (hd : d ≤ 1000) (a : Ob) (p : Value) (w : World) (S : Nat → Prop) (hp : Pair w S a p) (hb : Bd d a.fix) (ht : Tab w) :
 Calls Tryz.prog 66 #[vO a p] w (RetN w (a.fix⁻¹)) := by
 have HT := qh9 ht
 have A1 : Hid (∀ wd, Tab wd → Calls Tryz.prog 62 #[vO a p] wd (RetN wd a.fix)) := fun wd h => fixR a p wd (fun q e => by subst e; exact hp) h
 clear ht hp
 generalize a.fix = x at A1 hb ⊢
 obtain ⟨x0, x1, x2, x3, x4, x5, e⟩ := cells7 a p
 unfold vO at A1
 rw [e] at A1
 unfold vO
 rw [e]
 clear e
 go_enter Tryz.func66, Tryz.ntmps66
 go_wp2_with fail
 have T0 := TwoB.new w #[x0, x1, x2, x3, x4, x5, p] #[.int .i64 0, .string ⟨#[]⟩, .string ⟨#[]⟩, .string ⟨#[]⟩, .string ⟨#[]⟩, .string ⟨#[]⟩, .slice none 0 0] rfl
 generalize (w.alloc (.cells #[x0, x1, x2, x3, x4, x5, p] 27)).alloc (.cells #[.int .i64 0, .string ⟨#[]⟩, .string ⟨#[]⟩, .string ⟨#[]⟩, .string ⟨#[]⟩, .string ⟨#[]⟩, .slice none 0 0] 27) = W at T0 ⊢
 refine (A1.out _ (HT.out.below T0.bel)).mono ?_
 rintro e w1 ⟨rfl, hb1⟩
 have T1 := T0.below hb1
 have hs1 := T1.size
 have hg := qh9 (heap_alloc_new w1 (.cells #[.int .i64 0, .string ⟨#[]⟩, .string ⟨#[]⟩, .string ⟨#[]⟩, .string ⟨#[]⟩, .string ⟨#[]⟩, .slice none 0 0] 27))
 have hX : FixB w ((w1.alloc (.cells #[.int .i64 0, .string ⟨#[]⟩, .string ⟨#[]⟩, .string ⟨#[]⟩, .string ⟨#[]⟩, .string ⟨#[]⟩, .slice none 0 0] 27)).setRow w1.heap.size #[.int .i64 1, .string (nt x), .string (dt x), .string ⟨#[]⟩, .string ⟨#[]⟩, .string ⟨#[]⟩, .slice none 0 0]) w1.heap.size w1.heap.size (w.heap.size + 1) #[.int .i64 1, .string (nt x), .string (dt x), .string ⟨#[]⟩, .string ⟨#[]⟩, .string ⟨#[]⟩, .slice none 0 0] #[.int .i64 1, .string (nt x), .string (dt x), .string ⟨#[]⟩, .string ⟨#[]⟩, .string ⟨#[]⟩, .slice none 0 0] := by
  obtain ⟨z, hz, h2⟩ := T1.b1
  exact ⟨below_setRowO (Below.alloc T1.bel (by omega) _) (by omega) _, setRow_heap _ _ _ _ _ _ hg.out, setRow_heap _ _ _ _ _ _ hg.out, ⟨z, hz, (setRow_other _ _ _ _ (by omega)).trans ((Below.heap_alloc _ _ _ (by omega)).trans h2)⟩, by omega, by omega, by omega⟩
 have T := qh9 hX
 obtain ⟨⟨_, c1, c2, _, _, _, _⟩, _⟩ := row7 hX.h0
 clear T0 T1 hb1 A1 HT hX
 have b1 := bd_nt hb
 have b2 := bd_dt hb
 have RN : Hid (∀ W, Calls Tryz.prog 20 #[.string (dt x), .string (nt x)] W (RetN W x⁻¹)) := fun W => by
  have h := ratRN (dt x) (nt x) W (by omega) (by omega)
  have e : quo (LA (dt x)) (LA (nt x)) = x⁻¹ := by unfold quo; rw [val_nt, val_dt, q_inv]
  rw [e] at h
  exact h
 clear hb b1 b2
 go_wp2_with (refine storeN rfl (.tmp 3) (.tmp 5) rfl w1.heap.size x rfl rfl _ _ hg.out rfl ?_)
 clear hg
 generalize (w1.alloc (.cells #[.int .i64 0, .string ⟨#[]⟩, .string ⟨#[]⟩, .string ⟨#[]⟩, .string ⟨#[]⟩, .string ⟨#[]⟩, .slice none 0 0] 27)).setRow w1.heap.size #[.int .i64 1, .string (nt x), .string (dt x), .string ⟨#[]⟩, .string ⟨#[]⟩, .string ⟨#[]⟩, .slice none 0 0] = wc at T c1 c2 ⊢
 refine (RN.out _).mono ?_
 rintro e w6 ⟨rfl, hb6⟩
 have T6 := qh9 (T.out.below hb6)
 obtain ⟨z, hz, hz2⟩ := T6.out.hr
 have HZ := qh9 hz2
 have HZ1 := qh9 hz
 clear hz hz2 hb6
 go_wp2_with (refine storeN rfl (.tmp 2) (.tmp 10) rfl (w.heap.size + 1) x⁻¹ rfl rfl _ _ HZ.out HZ1.out ?_)
 exact retN (q := 2) (g := w.heap.size + 1) rfl rfl (setRow_heap _ _ _ _ _ _ HZ.out) rfl (below_setRowO T6.out.bel (by omega) _)

theorem oppositeR (d : Nat) (hd : d ≤ 1000) (a : Ob) (p : Value) (w : World) (S : Nat → Prop) (hp : Pair w S a p) (hb : Bd d a.fix) (ht : Tab w) :
 Calls Tryz.prog 65 #[vO a p] w (RetN w (-a.fix)) := by
 have HT := qh9 ht
 have A1 : Hid (∀ wd, Tab wd → Calls Tryz.prog 62 #[vO a p] wd (RetN wd a.fix)) := fun wd h => fixR a p wd (fun q e => by subst e; exact hp) h
 clear ht hp
 generalize a.fix = x at A1 hb ⊢
 obtain ⟨x0, x1, x2, x3, x4, x5, e⟩ := cells7 a p
 unfold vO at A1
 rw [e] at A1
 unfold vO
 rw [e]
 clear e
 go_enter Tryz.func65, Tryz.ntmps65
 go_wp2_with fail
 have T0 := TwoB.new w #[x0, x1, x2, x3, x4, x5, p] #[.int .i64 0, .string ⟨#[]⟩, .string ⟨#[]⟩, .string ⟨#[]⟩, .string ⟨#[]⟩, .string ⟨#[]⟩, .slice none 0 0] rfl
 generalize (w.alloc (.cells #[x0, x1, x2, x3, x4, x5, p] 27)).alloc (.cells #[.int .i64 0, .string ⟨#[]⟩, .string ⟨#[]⟩, .string ⟨#[]⟩, .string ⟨#[]⟩, .string ⟨#[]⟩, .slice none 0 0] 27) = W at T0 ⊢
 refine (A1.out _ (HT.out.below T0.bel)).mono ?_
 rintro e w1 ⟨rfl, hb1⟩
 have T1 := T0.below hb1
 have hs1 := T1.size
 have hg := qh9 (heap_alloc_new w1 (.cells #[.int .i64 0, .string ⟨#[]⟩, .string ⟨#[]⟩, .string ⟨#[]⟩, .string ⟨#[]⟩, .string ⟨#[]⟩, .slice none 0 0] 27))
 have hX : FixB w ((w1.alloc (.cells #[.int .i64 0, .string ⟨#[]⟩, .string ⟨#[]⟩, .string ⟨#[]⟩, .string ⟨#[]⟩, .string ⟨#[]⟩, .slice none 0 0] 27)).setRow w1.heap.size #[.int .i64 1, .string (nt x), .string (dt x), .string ⟨#[]⟩, .string ⟨#[]⟩, .string ⟨#[]⟩, .slice none 0 0]) w1.heap.size w1.heap.size (w.heap.size + 1) #[.int .i64 1, .string (nt x), .string (dt x), .string ⟨#[]⟩, .string ⟨#[]⟩, .string ⟨#[]⟩, .slice none 0 0] #[.int .i64 1, .string (nt x), .string (dt x), .string ⟨#[]⟩, .string ⟨#[]⟩, .string ⟨#[]⟩, .slice none 0 0] := by
  obtain ⟨z, hz, h2⟩ := T1.b1
  exact ⟨below_setRowO (Below.alloc T1.bel (by omega) _) (by omega) _, setRow_heap _ _ _ _ _ _ hg.out, setRow_heap _ _ _ _ _ _ hg.out, ⟨z, hz, (setRow_other _ _ _ _ (by omega)).trans ((Below.heap_alloc _ _ _ (by omega)).trans h2)⟩, by omega, by omega, by omega⟩
 have T := qh9 hX
 obtain ⟨⟨_, c1, c2, _, _, _, _⟩, _⟩ := row7 hX.h0
 clear T0 T1 hb1 A1 HT hX
 have b1 := bd_nt hb
 have b2 := bd_dt hb
 have s1 : (BA (text (- val (LA (nt x))))).size ≤ 3000 := by
  rw [val_nt, BA_size]
  refine Nat.le_trans (text_length (k := d) ?_) (by omega)
  rw [Int.natAbs_neg]
  exact hb.1
 have RN : Hid (∀ W, Calls Tryz.prog 20 #[.string (BA (text (- val (LA (nt x))))), .string (dt x)] W (RetN W (-x))) := fun W => by
  have h := ratRN (BA (text (- val (LA (nt x))))) (dt x) W (by omega) (by omega)
  have e : quo (LA (BA (text (- val (LA (nt x)))))) (LA (dt x)) = -x := by
   show quo _ (LA (BA (text (x.den : Int)))) = _
   rw [val_nt, quo_text, q_neg]
  rw [e] at h
  exact h
 clear hb s1
 go_wp2_with (refine storeN rfl (.tmp 3) (.tmp 5) rfl w1.heap.size x rfl rfl _ _ hg.out rfl ?_)
 clear hg
 generalize (w1.alloc (.cells #[.int .i64 0, .string ⟨#[]⟩, .string ⟨#[]⟩, .string ⟨#[]⟩, .string ⟨#[]⟩, .string ⟨#[]⟩, .slice none 0 0] 27)).setRow w1.heap.size #[.int .i64 1, .string (nt x), .string (dt x), .string ⟨#[]⟩, .string ⟨#[]⟩, .string ⟨#[]⟩, .slice none 0 0] = wc at T c1 c2 ⊢
 have hB0 : Below wc.heap.size wc wc.drew := (Below.refl _ _).drew
 generalize w1.heap.size = g0 at T c1 c2 ⊢
 have n1 : ¬ w.heap.size + 1 = g0 := by have := T.out.n0; omega
 have n3 : ¬ g0 = w.heap.size + 1 := by have := T.out.n0; omega
 generalize w.heap.size + 1 = r at T n1 n3 ⊢
 generalize nt x = nx at *
 generalize dt x = dx at *
 go_region_held3 (fun W' => W'.cell? ⟨g0, 1, none⟩ = some (.string nx) ∧ W'.cell? ⟨g0, 2, none⟩ = some (.string dx)) (go_keep)
  (first
    | (go_at_call 118; refine (negateR _ _ (by omega)).mono ?_; rintro e w3 ⟨rfl, hb3⟩; have hB3 := chain2 ‹Below wc.heap.size wc _› hb3 (Nat.le_refl _); obtain ⟨⟨_, c1, c2, _, _, _, _⟩, _⟩ := row7 (T.out.below hB3).h0)
    | (go_at_call 20; refine (RN.out _).mono ?_; rintro e w4 ⟨rfl, hb4⟩; have hB4 := chain2 ‹Below wc.heap.size wc _› hb4 (Nat.le_refl _); obtain ⟨⟨_, c1, c2, _, _, _, _⟩, _⟩ := row7 (T.out.below hB4).h0; obtain ⟨z, hz, hz2⟩ := (T.out.below hB4).hr; obtain ⟨z0, z1, z2, z3, z4, z5, z6, ⟨q0, q1, q2, q3, q4, q5, q6⟩, f2⟩ := row7z hz hz2; clear hz hz2; unfold vQ))
 all_goals go_wp2
 all_goals exact FixB.ret (T.out.below ‹Below wc.heap.size wc _›) _ rfl rfl
inductive On where
 | fin (n : Nat)
 | pw (e : On) (c : Nat) (r : On)
deriving DecidableEq

def On.exp : On → On
 | .fin _ => .fin 0
 | .pw e _ _ => e
def On.coef : On → Nat
 | .fin n => n
 | .pw _ c _ => c
def On.rest : On → On
 | .fin _ => .fin 0
 | .pw _ _ r => r
def cmpNt (a b : Nat) : Int := if a < b then -1 else if b < a then 1 else 0
theorem cmpNt_anti (a b : Nat) : cmpNt b a = - cmpNt a b := by unfold cmpNt; split <;> split <;> omega
theorem cmpNt_zero (a b : Nat) : cmpNt a b = 0 ↔ a = b := by unfold cmpNt; split <;> (try split) <;> omega
def cmpE : On → On → Int
 | .fin a, .fin b => cmpNt a b
 | .fin _, .pw _ _ _ => -1
 | .pw _ _ _, .fin _ => 1
 | .pw e c r, .pw e' c' r' => next (cmpE e e') (next (cmpNt c c') (cmpE r r'))
theorem cmpE_anti : ∀ a b : On, cmpE b a = - cmpE a b
 | .fin a, .fin b => cmpNt_anti a b
 | .fin _, .pw _ _ _ => rfl
 | .pw _ _ _, .fin _ => rfl
 | .pw e c r, .pw e' c' r' => next_anti (cmpE_anti e e') (next_anti (cmpNt_anti c c') (cmpE_anti r r'))
theorem cmpE_zero : ∀ a b : On, cmpE a b = 0 ↔ a = b
 | .fin a, .fin b => by simp only [cmpE, On.fin.injEq]; exact cmpNt_zero a b
 | .fin _, .pw _ _ _ => by simp [cmpE]
 | .pw _ _ _, .fin _ => by simp [cmpE]
 | .pw e c r, .pw e' c' r' => by simp only [cmpE, next_zero, On.pw.injEq, cmpE_zero e e', cmpE_zero r r', cmpNt_zero]
theorem cmpE_self (a : On) : cmpE a a = 0 := (cmpE_zero a a).2 rfl
def On.nf : On → Prop
 | .fin _ => True
 | .pw e c r => e.nf ∧ e ≠ .fin 0 ∧ 1 ≤ c ∧ r.nf ∧ cmpE r.exp e < 0
theorem cmpE_fin0 (a : On) : 0 ≤ cmpE a (.fin 0) := by
 cases a with
 | fin n => show 0 ≤ cmpNt n 0; unfold cmpNt; split <;> (try split) <;> omega
 | pw e c r => show (0 : Int) ≤ 1; omega
theorem cmpE_ways (a b : On) : cmpE a b < 0 ∨ a = b ∨ 0 < cmpE a b := by
 rcases Int.lt_trichotomy (cmpE a b) 0 with h | h | h
 · exact .inl h
 · exact .inr (.inl ((cmpE_zero a b).1 h))
 · exact .inr (.inr h)
theorem cmpE_flip {a b : On} : 0 < cmpE a b ↔ cmpE b a < 0 := by have := cmpE_anti a b; omega
def addE : On → On → On
 | .fin m, .fin n => .fin (m + n)
 | .fin _, .pw e c r => .pw e c r
 | .pw e c r, b => if cmpE e b.exp < 0 then b else if cmpE e b.exp = 0 then .pw e (c + b.coef) b.rest else .pw e c (addE r b)
theorem addE_lt {e : On} {c : Nat} {r b : On} (h : cmpE e b.exp < 0) : addE (.pw e c r) b = b := by
 unfold addE; rw [if_pos h]
theorem addE_eq {e : On} {c : Nat} {r b : On} (h : e = b.exp) : addE (.pw e c r) b = .pw e (c + b.coef) b.rest := by
 unfold addE
 have h0 : cmpE e b.exp = 0 := by rw [← h]; exact cmpE_self e
 rw [if_neg (by omega), if_pos h0]
theorem addE_gt {e : On} {c : Nat} {r b : On} (h : 0 < cmpE e b.exp) : addE (.pw e c r) b = .pw e c (addE r b) := by
 conv => lhs; unfold addE
 rw [if_neg (by omega), if_neg (by omega)]
theorem addE_exp : ∀ (a b : On), (addE a b).exp = if cmpE a.exp b.exp < 0 then b.exp else a.exp
 | .fin m, .fin n => by rw [if_neg (by rw [show (On.fin m).exp = (On.fin n).exp from rfl, cmpE_self]; omega)]; rfl
 | .fin m, .pw e c r => by
  show e = if cmpE (.fin 0) e < 0 then e else .fin 0
  split
  · rfl
  · rename_i h
    have h1 := cmpE_fin0 e
    have h2 := cmpE_anti e (.fin 0)
    exact (cmpE_zero _ _).1 (by omega)
 | .pw e c r, b => by
  rcases cmpE_ways e b.exp with h | h | h
  · have h' : cmpE (On.pw e c r).exp b.exp < 0 := h
    rw [addE_lt h, if_pos h']
  · rw [addE_eq h, if_neg (by show ¬ cmpE e b.exp < 0; rw [← h, cmpE_self]; omega)]; rfl
  · rw [addE_gt h, if_neg (by show ¬ cmpE e b.exp < 0; omega)]; rfl
theorem on_pw {b : On} (h : b.exp ≠ .fin 0) : b = .pw b.exp b.coef b.rest := by
 cases b with
 | fin n => exact absurd rfl h
 | pw e c r => rfl
theorem addE_nf : ∀ (a b : On), a.nf → b.nf → (addE a b).nf
 | .fin m, .fin n, _, _ => trivial
 | .fin m, .pw e c r, _, hb => hb
 | .pw e c r, b, ha, hb => by
  rcases cmpE_ways e b.exp with h | h | h
  · rw [addE_lt h]; exact hb
  · have hbp := on_pw (b := b) (by rw [← h]; exact ha.2.1)
    rw [addE_eq h]
    rw [hbp] at hb
    exact ⟨ha.1, ha.2.1, by have := ha.2.2.1; omega, hb.2.2.2.1, by rw [h]; exact hb.2.2.2.2⟩
  · rw [addE_gt h]
    refine ⟨ha.1, ha.2.1, ha.2.2.1, addE_nf r b ha.2.2.2.1 hb, ?_⟩
    rw [addE_exp]
    split
    · exact cmpE_flip.1 h
    · exact ha.2.2.2.2

def On.nd : On → Nat
 | .fin _ => 1
 | .pw e _ r => 3 + e.nd + r.nd
def On.bd (k : Nat) : On → Prop
 | .fin n => n ≤ k
 | .pw e c r => e.bd k ∧ c ≤ k ∧ r.bd k
theorem On.bd.more {j k : Nat} (h : j ≤ k) : ∀ {a : On}, a.bd j → a.bd k
 | .fin n, ha => Nat.le_trans ha h
 | .pw e c r, ha => ⟨On.bd.more h ha.1, Nat.le_trans ha.2.1 h, On.bd.more h ha.2.2⟩
theorem On.bd_rest {k : Nat} {a : On} (h : a.bd k) : a.rest.bd k := by
 cases a with
 | fin n => exact Nat.zero_le _
 | pw e c r => exact h.2.2
theorem On.bd_coef {k : Nat} {a : On} (h : a.bd k) : a.coef ≤ k := by
 cases a with
 | fin n => exact h
 | pw e c r => exact h.2.1
theorem addE_bd {j k : Nat} : ∀ {a b : On}, a.bd j → b.bd k → (addE a b).bd (j + k)
 | .fin m, .fin n, ha, hb => Nat.add_le_add ha hb
 | .fin m, .pw e c r, ha, hb => On.bd.more (Nat.le_add_left _ _) (a := .pw e c r) hb
 | .pw e c r, b, ha, hb => by
  rcases cmpE_ways e b.exp with h | h | h
  · rw [addE_lt h]; exact hb.more (Nat.le_add_left _ _)
  · rw [addE_eq h]
    exact ⟨ha.1.more (Nat.le_add_right _ _), Nat.add_le_add ha.2.1 (On.bd_coef hb), (On.bd_rest hb).more (Nat.le_add_left _ _)⟩
  · rw [addE_gt h]
    exact ⟨ha.1.more (Nat.le_add_right _ _), Nat.le_trans ha.2.1 (Nat.le_add_right _ _), addE_bd ha.2.2 hb⟩
theorem addE_nd : ∀ (a b : On), (addE a b).nd ≤ a.nd + b.nd
 | .fin m, .fin n => by show 1 ≤ 1 + 1; omega
 | .fin m, .pw e c r => Nat.le_add_left _ _
 | .pw e c r, b => by
  rcases cmpE_ways e b.exp with h | h | h
  · rw [addE_lt h]; exact Nat.le_add_left _ _
  · rw [addE_eq h]
    show 3 + e.nd + b.rest.nd ≤ 3 + e.nd + r.nd + b.nd
    have : b.rest.nd ≤ b.nd := by
     cases b with
     | fin n => exact Nat.le_refl _
     | pw e c r => show r.nd ≤ 3 + e.nd + r.nd; omega
    omega
  · rw [addE_gt h]
    show 3 + e.nd + (addE r b).nd ≤ 3 + e.nd + r.nd + b.nd
    have := addE_nd r b
    omega
inductive Sd where
 | mk (n : Int) (l : List Sd)

mutual
def SdAt (w : World) (S : Nat → Prop) : Sd → List Value → Prop
 | .mk n l, cs => ∃ A c, cs = [.int .i64 n, .slice A l.length c] ∧ I64 n ∧ l.length ≤ c ∧ c ≤ maxLen ∧
  (0 < l.length → ∃ b o, A = some ⟨b, o, none⟩ ∧ S b ∧ SdsAt w S b o l)
def SdsAt (w : World) (S : Nat → Prop) (b o : Nat) : List Sd → Prop
 | [] => True
 | r :: rs => (∃ cs, SdAt w S r cs ∧ ∀ j u, cs[j]? = some u → w.cell? ⟨b, o + j, none⟩ = some u) ∧ SdsAt w S b (o + 2) rs
end
mutual
theorem SdAt.keep {w w' : World} {S : Nat → Prop} (hk : ∀ p : Addr, S p.block → w'.cell? p = w.cell? p) : ∀ (r : Sd) (cs : List Value), SdAt w S r cs → SdAt w' S r cs
 | .mk n l, cs, h => by
  unfold SdAt at h ⊢
  obtain ⟨A, c, h1, h2, h4, h5, h6⟩ := h
  refine ⟨A, c, h1, h2, h4, h5, fun hl => ?_⟩
  obtain ⟨b, o, e, hb, hr⟩ := h6 hl
  exact ⟨b, o, e, hb, SdsAt.keep hk b o hb l hr⟩
theorem SdsAt.keep {w w' : World} {S : Nat → Prop} (hk : ∀ p : Addr, S p.block → w'.cell? p = w.cell? p) (b o : Nat) (hb : S b) : ∀ l : List Sd, SdsAt w S b o l → SdsAt w' S b o l
 | [], _ => by unfold SdsAt; trivial
 | r :: rs, h => by
  unfold SdsAt at h ⊢
  obtain ⟨⟨cs, h1, h2⟩, h3⟩ := h
  exact ⟨⟨cs, SdAt.keep hk r cs h1, fun j u hj => (hk ⟨b, o + j, none⟩ hb).trans (h2 j u hj)⟩, SdsAt.keep hk b (o + 2) hb rs h3⟩
end
theorem SdAt.below {w w' : World} {S : Nat → Prop} {B : Nat} {r : Sd} {cs : List Value} (h : SdAt w S r cs) (hS : ∀ b, S b → b < B) (hb : Below B w w') : SdAt w' S r cs := h.keep fun q hq => hb.cell (hS q.block hq)
mutual
theorem Sd.ind {P : Sd → Prop} (h : ∀ n l, (∀ r ∈ l, P r) → P (.mk n l)) : ∀ r, P r
 | .mk n l => h n l (Sd.inds h l)
theorem Sd.inds {P : Sd → Prop} (h : ∀ n l, (∀ r ∈ l, P r) → P (.mk n l)) : ∀ l : List Sd, ∀ r ∈ l, P r
 | [] => fun r hr => by simp at hr
 | x :: xs => fun r hr => by
  rcases List.mem_cons.1 hr with e | e
  · rw [e]; exact Sd.ind h x
  · exact Sd.inds h xs r e
end
mutual
def Sd.cnt : Sd → Nat
 | .mk _ l => 1 + Sd.cnts l
def Sd.cnts : List Sd → Nat
 | [] => 0
 | r :: rs => r.cnt + Sd.cnts rs
end
mutual
def Sd.ok : Sd → Prop
 | .mk _ l => l.length ≤ 3 ∧ Sd.oks l
def Sd.oks : List Sd → Prop
 | [] => True
 | r :: rs => r.ok ∧ Sd.oks rs
end
def On.len : On → Nat
 | .fin _ => 0
 | .pw _ _ r => 1 + r.len
theorem On.len_rest (a : On) : a.rest.len ≤ a.len := by
 cases a with
 | fin n => exact Nat.le_refl _
 | pw e c r => show r.len ≤ 1 + r.len; omega
theorem addE_len : ∀ (a b : On), (addE a b).len ≤ a.len + b.len
 | .fin m, .fin n => Nat.zero_le _
 | .fin m, .pw e c r => Nat.le_add_left _ _
 | .pw e c r, b => by
  rcases cmpE_ways e b.exp with h | h | h
  · rw [addE_lt h]; exact Nat.le_add_left _ _
  · rw [addE_eq h]
    have := b.len_rest
    show 1 + b.rest.len ≤ 1 + r.len + b.len
    by_cases h0 : b.rest.len = 0
    · omega
    · omega
  · rw [addE_gt h]
    have := addE_len r b
    show 1 + (addE r b).len ≤ 1 + r.len + b.len
    omega
structure On.sm (a : On) (N L K : Nat) : Prop where
 nf : a.nf
 nd : a.nd ≤ N
 len : a.len ≤ L
 bd : a.bd K
theorem On.sm.more {a : On} {N L K N' L' K' : Nat} (h : a.sm N L K) (h1 : N ≤ N') (h2 : L ≤ L') (h3 : K ≤ K') : a.sm N' L' K' :=
 ⟨h.nf, Nat.le_trans h.nd h1, Nat.le_trans h.len h2, h.bd.more h3⟩
theorem On.sm.add {a b : On} {N L K N' L' K' : Nat} (h : a.sm N L K) (h' : b.sm N' L' K') : (addE a b).sm (N + N') (L + L') (K + K') :=
 ⟨addE_nf _ _ h.nf h'.nf, Nat.le_trans (addE_nd _ _) (Nat.add_le_add h.nd h'.nd), Nat.le_trans (addE_len _ _) (Nat.add_le_add h.len h'.len), addE_bd h.bd h'.bd⟩
def Hd (w : World) (o : Ob) (p : Value) : Prop := Pair w (Has w) o p
theorem Hd.below {w w' : World} {o : Ob} {p : Value} (h : Hd w o p) (hb : Below w.heap.size w w') : Hd w' o p :=
 (Pair.below h (In.has w) hb).more fun b hb' => Nat.lt_of_lt_of_le hb' hb.size
theorem Pair.hd {w : World} {S : Nat → Prop} {o : Ob} {p : Value} (h : Pair w S o p) (hS : In S w) : Hd w o p := h.more hS
def RetH (w : World) (o : Ob) (e : Ending) (w' : World) : Prop := ∃ p, e = .returned (vO o p) ∧ Hd w' o p ∧ Below w.heap.size w w'
theorem RetO.h {w w' : World} {S : Nat → Prop} {o : Ob} {e : Ending} (h : RetO w S o e w') (hS : In S w) : RetH w o e w' := by
 obtain ⟨p, h1, h2, h3⟩ := h
 exact ⟨p, h1, h2.hd (hS.upto h3.size), h3⟩
theorem RetN.h {w w' : World} {q : Rat} {e : Ending} (h : RetN w q e w') : RetH w (.num q) e w' := ⟨.slice none 0 0, h.1, rfl, h.2⟩
theorem Hd.flat {w : World} {o : Ob} {p : Value} (h : Hd w o p) (ho : o.isCons = false) : p = .slice none 0 0 := Pair.flat h ho
theorem Hd.new {w w' : World} {o : Ob} {p : Value} (h : Hd w o p) (hk : ∀ b, b < w.heap.size → w'.heap[b]? = w.heap[b]?) (hs : w.heap.size ≤ w'.heap.size) : Hd w' o p :=
 Pair.keep (fun b hb => Nat.lt_of_lt_of_le hb hs) (fun b hb => hk b hb) h

def Bx (W : World) (g : Nat) (x : Array Value) : Prop := W.heap[g]? = some (.cells x 27 (0, 0))
theorem Bx.below {W W' : World} {g B : Nat} {x : Array Value} (h : Bx W g x) (hb : Below B W W') (hg : g < B) : Bx W' g x := (hb.block g hg).trans h
theorem Bx.lt {W : World} {g : Nat} {x : Array Value} (h : Bx W g x) : g < W.heap.size := by
 rcases Nat.lt_or_ge g W.heap.size with hlt | hge
 · exact hlt
 · unfold Bx at h; rw [Array.getElem?_eq_none hge] at h; cases h
theorem Bx.keep {W W' : World} {g : Nat} {x : Array Value} (h : Bx W g x) (hb : Below W.heap.size W W') : Bx W' g x := h.below hb h.lt
theorem Bx.c {W : World} {g : Nat} {a0 a1 a2 a3 a4 a5 a6 : Value} (h : Bx W g #[a0, a1, a2, a3, a4, a5, a6]) :
 W.cell? ⟨g, 0, none⟩ = some a0 ∧ W.cell? ⟨g, 1, none⟩ = some a1 ∧ W.cell? ⟨g, 2, none⟩ = some a2 ∧ W.cell? ⟨g, 3, none⟩ = some a3 ∧ W.cell? ⟨g, 4, none⟩ = some a4 ∧ W.cell? ⟨g, 5, none⟩ = some a5 ∧ W.cell? ⟨g, 6, none⟩ = some a6 := (row7 h).1
def zeroC : Array Value := #[.int .i64 0, .string ⟨#[]⟩, .string ⟨#[]⟩, .string ⟨#[]⟩, .string ⟨#[]⟩, .string ⟨#[]⟩, .slice none 0 0]
def aO (w : World) (x : Array Value) : World := w.alloc (.cells x 27)
theorem aO_new (w : World) (x : Array Value) : Bx (aO w x) w.heap.size x := heap_alloc_new w _
theorem aO_size (w : World) (x : Array Value) : (aO w x).heap.size = w.heap.size + 1 := by unfold aO; simp
theorem aO_below (w : World) (x : Array Value) : Below w.heap.size w (aO w x) := Below.alloc (Below.refl _ _) (Nat.le_refl _) _
structure Bx1 (w W : World) (x0 : Array Value) : Prop where
 bel : Below w.heap.size w W
 b0 : Bx W w.heap.size x0
theorem Bx1.new (w : World) (x0 : Array Value) : Bx1 w (w.alloc (.cells x0 27)) x0 := ⟨aO_below w x0, aO_new w x0⟩
structure Bx2 (w W : World) (x0 x1 : Array Value) : Prop where
 bel : Below w.heap.size w W
 b0 : Bx W w.heap.size x0
 b1 : Bx W (w.heap.size + 1) x1
theorem Bx2.new (w : World) (x0 x1 : Array Value) : Bx2 w ((w.alloc (.cells x0 27)).alloc (.cells x1 27)) x0 x1 := by
 have h := aO_below (aO w x0) x1
 have s := aO_size w x0
 refine ⟨(aO_below w x0).trans (h.mono (by omega)), (aO_new w x0).below h (by omega), ?_⟩
 have := aO_new (aO w x0) x1
 rw [s] at this
 exact this
structure Bx3 (w W : World) (x0 x1 x2 : Array Value) : Prop where
 bel : Below w.heap.size w W
 b0 : Bx W w.heap.size x0
 b1 : Bx W (w.heap.size + 1) x1
 b2 : Bx W (w.heap.size + 1 + 1) x2
theorem Bx3.new (w : World) (x0 x1 x2 : Array Value) : Bx3 w (((w.alloc (.cells x0 27)).alloc (.cells x1 27)).alloc (.cells x2 27)) x0 x1 x2 := by
 have T := Bx2.new w x0 x1
 have h := aO_below (aO (aO w x0) x1) x2
 have s : (aO (aO w x0) x1).heap.size = w.heap.size + 1 + 1 := by rw [aO_size, aO_size]
 refine ⟨T.bel.trans (h.mono (by omega)), T.b0.below h (by omega), T.b1.below h (by omega), ?_⟩
 have := aO_new (aO (aO w x0) x1) x2
 rw [s] at this
 exact this
structure Bx4 (w W : World) (x0 x1 x2 x3 : Array Value) : Prop where
 bel : Below w.heap.size w W
 b0 : Bx W w.heap.size x0
 b1 : Bx W (w.heap.size + 1) x1
 b2 : Bx W (w.heap.size + 1 + 1) x2
 b3 : Bx W (w.heap.size + 1 + 1 + 1) x3
theorem Bx4.new (w : World) (x0 x1 x2 x3 : Array Value) : Bx4 w ((((w.alloc (.cells x0 27)).alloc (.cells x1 27)).alloc (.cells x2 27)).alloc (.cells x3 27)) x0 x1 x2 x3 := by
 have T := Bx3.new w x0 x1 x2
 have h := aO_below (aO (aO (aO w x0) x1) x2) x3
 have s : (aO (aO (aO w x0) x1) x2).heap.size = w.heap.size + 1 + 1 + 1 := by rw [aO_size, aO_size, aO_size]
 refine ⟨T.bel.trans (h.mono (by omega)), T.b0.below h (by omega), T.b1.below h (by omega), T.b2.below h (by omega), ?_⟩
 have := aO_new (aO (aO (aO w x0) x1) x2) x3
 rw [s] at this
 exact this
theorem Bx.set {W : World} {g : Nat} {x y : Array Value} (h : Bx W g x) : Bx (W.setRow g y) g y := setRow_heap _ _ _ _ _ _ h
theorem Bx.other {W : World} {g k : Nat} {x y : Array Value} (h : Bx W g x) (hk : g ≠ k) : Bx (W.setRow k y) g x := (setRow_other W k g y hk).trans h
theorem Bx3.n1 {w W : World} {x0 x1 x2 y : Array Value} (T : Bx3 w W x0 x1 x2) : Bx (W.setRow w.heap.size y) (w.heap.size + 1) x1 := T.b1.other (by omega)
theorem Bx3.n2 {w W : World} {x0 x1 x2 y y' : Array Value} (T : Bx3 w W x0 x1 x2) : Bx ((W.setRow w.heap.size y).setRow (w.heap.size + 1) y') (w.heap.size + 1 + 1) x2 := (T.b2.other (by omega)).other (by omega)
structure Pt3 (w X : World) (o0 o1 o2 : Ob) (p0 p1 p2 : Value) : Prop where
 bel : Below w.heap.size w X
 b0 : Bx X w.heap.size (cellsO o0 p0).toArray
 b1 : Bx X (w.heap.size + 1) (cellsO o1 p1).toArray
 b2 : Bx X (w.heap.size + 1 + 1) (cellsO o2 p2).toArray
theorem Pt3.new {w : World} {o0 o1 o2 : Ob} {p0 p1 p2 : Value} {z0 z1 z2 : Array Value} :
 Pt3 w (World.setRow (World.setRow (World.setRow (((w.alloc (.cells z0 27)).alloc (.cells z1 27)).alloc (.cells z2 27)) w.heap.size (cellsO o0 p0).toArray) (w.heap.size + 1) (cellsO o1 p1).toArray) (w.heap.size + 1 + 1) (cellsO o2 p2).toArray) o0 o1 o2 p0 p1 p2 := by
 have T := Bx3.new w z0 z1 z2
 refine ⟨below_setRowO (below_setRowO (below_setRowO T.bel (Nat.le_refl _) _) (by omega) _) (by omega) _, ?_, ?_, ?_⟩
 · exact (T.b0.set.other (by omega)).other (by omega)
 · exact ((T.b1.other (by omega)).set).other (by omega)
 · exact ((T.b2.other (by omega)).other (by omega)).set
theorem vO_cells {o : Ob} {p x0 x1 x2 x3 x4 x5 : Value} (h : cellsO o p = [x0, x1, x2, x3, x4, x5, p]) : vO o p = .agg #[x0, x1, x2, x3, x4, x5, p] := by unfold vO; rw [h]
theorem loadB {ops : Array Oper} {rest : List Oper} {o : Oper} {a : Act} {w : World} {Q : Exit → Act → World → Prop} {g : Nat} {b : Ob} {p : Value} (x : Operand) (ho : o.op = .load 27 x) (hgd : o.guard = none)
 (hx : a.eval x = .pointer (some ⟨g, 0, none⟩)) (hb : Bx w g (cellsO b p).toArray)
 (h : wpList Tryz.prog ops Q rest (a.put o.dst (vO b p)) w) : wpList Tryz.prog ops Q (o :: rest) a w :=
 wpList_load_row hgd 27 x ho g hx _ _ _ _ hb Tryz.underlying27 rfl (by rw [List.size_toArray, cellsO_length]; kernel_rfl) h
theorem loadG {ops : Array Oper} {rest : List Oper} {o : Oper} {a : Act} {w : World} {Q : Exit → Act → World → Prop} {g : Nat} {b : Ob} {p : Value} (x : Operand) (ho : o.op = .load 27 x) (hw : Region.wanted o (yielded ops a.tmps) = true)
 (hx : a.eval x = .pointer (some ⟨g, 0, none⟩)) (hb : Bx w g (cellsO b p).toArray)
 (h : wpList Tryz.prog ops Q rest (a.put o.dst (vO b p)) w) : wpList Tryz.prog ops Q (o :: rest) a w := by
 unfold wpList
 rw [if_pos hw]
 exact .inl (wp_load_row 27 x ho g hx _ _ _ _ hb Tryz.underlying27 rfl (by rw [List.size_toArray, cellsO_length]; kernel_rfl) h)
theorem storeB {ops : Array Oper} {rest : List Oper} {o : Oper} {a : Act} {w : World} {Q : Exit → Act → World → Prop} {g : Nat} {b : Ob} {p : Value} {x0 x1 x2 x3 x4 x5 x6 : Value} {w1 : World} (x y : Operand) (ho : o.op = .store 27 x y) (hgd : o.guard = none)
 (hx : a.eval x = .pointer (some ⟨g, 0, none⟩)) (hy : a.eval y = vO b p) (hp : Hd w1 b p) (hg : Bx w g #[x0, x1, x2, x3, x4, x5, x6])
 (h : wpList Tryz.prog ops Q rest (a.put o.dst undef) (w.setRow g (cellsO b p).toArray)) : wpList Tryz.prog ops Q (o :: rest) a w :=
 storeV hgd x y ho g b p hx hy hp _ _ hg rfl h
theorem cells_open {w : World} {S : Nat → Prop} {o : Ob} {p : Value} (h : Pair w S o p) : ∃ (k : Int) (s1 s2 s3 s4 s5 : ByteArray) (A : Option Addr) (n c : Nat),
 cellsO o p = [.int .i64 k, .string s1, .string s2, .string s3, .string s4, .string s5, .slice A n c] ∧ p = .slice A n c := by
 cases o with
 | num q => have e : p = .slice none 0 0 := h; subst e; exact ⟨_, _, _, _, _, _, _, _, _, rfl, rfl⟩
 | str s => have e : p = .slice none 0 0 := h; subst e; exact ⟨_, _, _, _, _, _, _, _, _, rfl, rfl⟩
 | sym x y => have e : p = .slice none 0 0 := h; subst e; exact ⟨_, _, _, _, _, _, _, _, _, rfl, rfl⟩
 | cons a d => obtain ⟨b, o, c, pa, pd, rfl, _⟩ := h; exact ⟨_, _, _, _, _, _, _, _, _, rfl, rfl⟩

theorem load_row7 (w : World) (g : Nat) (cs : Array Value) (hg : Bx w g cs) (hs : cs.size = 7) : (loadVar 27 ⟨g, 0, none⟩).run Tryz.prog w = .ok (.agg cs) w :=
 run_loadVar_row w g 27 27 cs (0, 0) _ hg Tryz.underlying27 rfl (by rw [hs]; kernel_rfl)
theorem results_cs {fn : Func} {r0 r1 : Tmp} (h : fn.results = #[.cell r0 27, .tmp r1]) (tmps : Array Value) (w : World) (g0 : Nat) (c0 : Array Value)
 (h0 : tmps.getD r0 undef = .pointer (some ⟨g0, 0, none⟩)) (b0 : Bx w g0 c0) (s0 : c0.size = 7) :
 (results fn tmps).run Tryz.prog w = .ok (.tuple #[.agg c0, tmps.getD r1 undef]) w := by
 have h0' : tmps[r0]?.getD undef = .pointer (some ⟨g0, 0, none⟩) := by simpa using h0
 simp [results, h, h0', asAddr, load_row7 w g0 c0 b0 s0]
section
variable {P : Program} {Q : Exit → Act → World → Prop} {ops : Array Oper} {K : Act → World → Prop} {a : Act} {w : World} {i : Nat} {o : Oper}
end

abbrev Lv := Value → Nat → Nat → World → Prop
def Mon (f : Lv) : Prop := ∀ (v : Value) (lo hi : Nat) (w w' : World), f v lo hi w → hi ≤ w.heap.size → Below w.heap.size w w' → f v lo hi w'
def LV (u : Value) : Lv := fun v _ _ _ => v = u
def LH (o : Ob) : Lv := fun v _ _ w => ∃ p, v = vO o p ∧ Hd w o p
def LBx : Lv := fun v lo hi w => v = .pointer (some ⟨lo, 0, none⟩) ∧ Bx w lo zeroC ∧ lo < hi
theorem mLV (u : Value) : Mon (LV u) := fun _ _ _ _ _ h _ _ => h
theorem mLH (o : Ob) : Mon (LH o) := fun _ _ _ _ _ ⟨p, h, k⟩ _ hb => ⟨p, h, k.below hb⟩
theorem mLBx : Mon LBx := fun _ _ _ _ _ ⟨h, k, l⟩ hm hb => ⟨h, k.below hb (by omega), l⟩
def Mons : List Lv → Prop
 | [] => True
 | f :: l => Mon f ∧ Mons l
def LR (l : List Lv) (i : Nat) : Lv := l.getD i (fun _ _ _ _ => True)
theorem LR_mono : ∀ {l : List Lv}, Mons l → ∀ (i : Nat) (x : Value) (l' m : Nat) (w w' : World), LR l i x l' m w → m ≤ w.heap.size → Below w.heap.size w w' → LR l i x l' m w'
 | [], _, i, x, l', m, w, w', h, _, _ => by unfold LR; simp
 | f :: l, ⟨hf, hl⟩, 0, x, l', m, w, w', h, hm, hb => hf x l' m w w' h hm hb
 | f :: l, ⟨hf, hl⟩, i + 1, x, l', m, w, w', h, hm, hb => LR_mono hl i x l' m w w' h hm hb

theorem Pair.box {w : World} {S : Nat → Prop} {g : Nat} {x : Array Value} (hg : Bx w g x) (hx : x.size = 7) (y : Array Value) : ∀ {o : Ob} {p : Value}, Pair w S o p → Pair (w.setRow g y) S o p
 | .num _, _, h => h
 | .str _, _, h => h
 | .sym _ _, _, h => h
 | .cons a d, p, ⟨b, o, c, pa, pd, h1, h2, h3, h4, h5, h6⟩ => by
  have hne : ¬ b = g := by
   rintro rfl
   have hl : 13 < (cellsO a pa ++ cellsO d pd).length := by rw [List.length_append, cellsO_length, cellsO_length]; omega
   have := h4 13 _ (List.getElem?_eq_getElem hl)
   rw [cell_of_row _ _ _ _ _ _ hg, Array.getElem?_eq_none (by omega)] at this
   cases this
  have hk : (w.setRow g y).heap[b]? = w.heap[b]? := setRow_other w g b y hne
  exact ⟨b, o, c, pa, pd, h1, h2, ⟨h3.1, h3.2.keep hk⟩, fun j u hj => (World.cell?_of_block (a := ⟨b, o + j, none⟩) hk).trans (h4 j u hj), Pair.box hg hx y h5, Pair.box hg hx y h6⟩
theorem Hd.box {w : World} {g : Nat} {x : Array Value} {o : Ob} {p : Value} (h : Hd w o p) (hg : Bx w g x) (hx : x.size = 7) (y : Array Value) : Hd (w.setRow g y) o p :=
 (Pair.box hg hx y h).more fun b hb => by unfold Has at hb ⊢; rw [size_setRow]; exact hb
theorem retH {fn : Func} {q : Tmp} {w0 w : World} {tmps : Array Value} {g : Nat} {o : Ob} {p : Value} (h : fn.results = #[.cell q 27]) (hq : tmps.getD q undef = .pointer (some ⟨g, 0, none⟩))
 (hg : Bx w g (cellsO o p).toArray) (hp : Hd w o p) (hb : Below w0.heap.size w0 w) : bodyPost Tryz.prog fn (RetH w0 o) Exit.ret ⟨tmps, []⟩ w :=
 retO h hq hg (by rw [List.size_toArray, cellsO_length]) ⟨p, rfl, hp, hb⟩
theorem retHs {fn : Func} {q : Tmp} {w0 w : World} {tmps : Array Value} {g : Nat} {o : Ob} {p : Value} {x : Array Value} (h : fn.results = #[.cell q 27]) (hq : tmps.getD q undef = .pointer (some ⟨g, 0, none⟩))
 (hg : Bx w g x) (hx : x.size = 7) (hp : Hd w o p) (hlt : w0.heap.size ≤ g) (hb : Below w0.heap.size w0 w) : bodyPost Tryz.prog fn (RetH w0 o) Exit.ret ⟨tmps, []⟩ (w.setRow g (cellsO o p).toArray) :=
 retH h hq hg.set (hp.box hg hx _) (below_setRowO hb hlt _)
theorem consH (a d : Ob) (pa pd : Value) (w : World) (ha : Hd w a pa) (hd : Hd w d pd) :
 Calls Tryz.prog 127 #[vO a pa, vO d pd] w (RetH w (.cons a d)) := (consP a d pa pd w (Has w) (In.has w) ha hd).mono fun _ _ h => h.h (In.has w)
theorem consRH (a d : Ob) (pa pd : Value) (w : World) (ha : Hd w a pa) (hd : Hd w d pd) :
 Calls Tryz.prog 47 #[vO a pa, vO d pd] w (RetH w (.cons a d)) := (consO a d pa pd w (Has w) (In.has w) ha hd).mono fun _ _ h => h.h (In.has w)
theorem hd_num (w : World) (q : Rat) : Hd w (.num q) (.slice none 0 0) := rfl


theorem storeZ {ops : Array Oper} {rest : List Oper} {o : Oper} {a : Act} {w : World} {Q : Exit → Act → World → Prop} {g : Nat} {x0 x1 x2 x3 x4 x5 x6 : Value} (x y : Operand) (ho : o.op = .store 27 x y) (hgd : o.guard = none)
 (hx : a.eval x = .pointer (some ⟨g, 0, none⟩)) (hy : a.eval y = .agg zeroC) (hg : Bx w g #[x0, x1, x2, x3, x4, x5, x6])
 (h : wpList Tryz.prog ops Q rest (a.put o.dst undef) (w.setRow g zeroC)) : wpList Tryz.prog ops Q (o :: rest) a w :=
 storeO hgd x y ho g _ hx hy _ _ hg rfl rfl (by simp [zeroC, Value.oneCell']) h
structure Pt1 (w X : World) (o : Ob) (p : Value) : Prop where
 bel : Below w.heap.size w X
 b0 : Bx X w.heap.size (cellsO o p).toArray
theorem Pt1.new {w : World} {o : Ob} {p : Value} {z : Array Value} : Pt1 w (World.setRow (w.alloc (.cells z 27)) w.heap.size (cellsO o p).toArray) o p := by
 have T := Bx1.new w z
 exact ⟨below_setRowO T.bel (Nat.le_refl _) _, T.b0.set⟩

section
variable {Q : Exit → Act → World → Prop}
theorem set_getD {l : Array Bool} {i : Nat} : (l.setIfInBounds i true).getD i true = true := by
 rcases Nat.lt_or_ge i l.size with h' | h' <;> simp [h']
end

def Ad (w : World) (o : Ob) (b k : Nat) (p : Value) : Prop := At w (Has w) o b k p
theorem Ad.below {w w' : World} {o : Ob} {b k : Nat} {p : Value} (h : Ad w o b k p) (hb : Below w.heap.size w w') : Ad w' o b k p :=
 (At.below h (In.has w) hb).more fun b hb' => Nat.lt_of_lt_of_le hb' hb.size
theorem Ad.hd {w : World} {o : Ob} {b k : Nat} {p : Value} (h : Ad w o b k p) : Hd w o p := h.2.2
theorem Hd.cons {w : World} {a d : Ob} {p : Value} (h : Hd w (.cons a d) p) : ∃ b o c pa pd, p = .slice (some ⟨b, o, none⟩) 2 c ∧ 2 ≤ c ∧ Ad w a b o pa ∧ Ad w d b (o + 7) pd := Pair.parts h
theorem loadA {ops : Array Oper} {rest : List Oper} {o : Oper} {a : Act} {w : World} {Q : Exit → Act → World → Prop} {g k : Nat} {b : Ob} {p : Value} (ho : ∃ x, o.op = .load 27 x ∧ a.eval x = .pointer (some ⟨g, k, none⟩)) (hgd : o.guard = none)
 (hb : Ad w b g k p)
 (h : wpList Tryz.prog ops Q rest (a.put o.dst (vO b p)) w) : wpList Tryz.prog ops Q (o :: rest) a w := by
 obtain ⟨x, ho, hx⟩ := ho
 exact wpList_load_mid hgd 27 x ho g k hx (cellsO b p) _ hb.2.1 Tryz.underlying27 rfl (by rw [cellsO_length]; kernel_rfl) h
theorem loadAG {ops : Array Oper} {rest : List Oper} {o : Oper} {a : Act} {w : World} {Q : Exit → Act → World → Prop} {g k : Nat} {b : Ob} {p : Value} (ho : ∃ x, o.op = .load 27 x ∧ a.eval x = .pointer (some ⟨g, k, none⟩)) (hw : Region.wanted o (yielded ops a.tmps) = true)
 (hb : Ad w b g k p)
 (h : wpList Tryz.prog ops Q rest (a.put o.dst (vO b p)) w) : wpList Tryz.prog ops Q (o :: rest) a w := by
 obtain ⟨x, ho, hx⟩ := ho
 unfold wpList
 rw [if_pos hw]
 exact .inl (wp_load_mid 27 x ho g k hx (cellsO b p) _ hb.2.1 Tryz.underlying27 rfl (by rw [cellsO_length]; kernel_rfl) h)
set_option maxHeartbeats 4000000 in
set_option maxRecDepth 100000 in
theorem countFlat (k : Int) (s1 s2 s3 s4 s5 : ByteArray) (m : Int) (w : World) :
 Calls Tryz.prog 52 #[.agg #[.int .i64 k, .string s1, .string s2, .string s3, .string s4, .string s5, .slice none 0 0], .int .i64 m] w (RetI w 1) := by
 go_enter Tryz.func52, Tryz.ntmps52
 go_wp2
 go_ret
 exact ⟨rfl, aO_below w _⟩
set_option maxHeartbeats 4000000 in
set_option maxRecDepth 100000 in
theorem countCons (a d : Ob) (p : Value) (m x y : Int) (w : World) (hx : 1 ≤ x) (hy : 1 ≤ y) (hxy : 1 + x + y ≤ m) (hm : m ≤ 3001) (hp : Hd w (.cons a d) p)
 (ca : ∀ X q, Hd X a q → Calls Tryz.prog 52 #[vO a q, .int .i64 (m - 1)] X (RetI X x)) (cd : ∀ X q, Hd X d q → Calls Tryz.prog 52 #[vO d q, .int .i64 (m - (1 + x))] X (RetI X y)) :
 Calls Tryz.prog 52 #[vO (.cons a d) p, .int .i64 m] w (RetI w (1 + x + y)) := by
 obtain ⟨b1, o1, n1, pa, pd, rfl, hn1, hA, hD⟩ := hp.cons
 have CA := qh9 ca
 have CD := qh9 cd
 clear ca cd
 have HA := qh9 hA
 have HD := qh9 hD
 clear hA hD
 have ea : cellsO (.cons a d) (.slice (some ⟨b1, o1, none⟩) 2 n1) = [.int .i64 4, .string ⟨#[]⟩, .string ⟨#[]⟩, .string ⟨#[]⟩, .string ⟨#[]⟩, .string ⟨#[]⟩, (.slice (some ⟨b1, o1, none⟩) 2 n1)] := rfl
 have T := Bx1.new w #[.int .i64 4, .string ⟨#[]⟩, .string ⟨#[]⟩, .string ⟨#[]⟩, .string ⟨#[]⟩, .string ⟨#[]⟩, (.slice (some ⟨b1, o1, none⟩) 2 n1)]
 rw [vO_cells ea]
 go_enter Tryz.func52, Tryz.ntmps52
 go_upto_region 1 with fail
 generalize w.alloc (.cells #[.int .i64 4, .string ⟨#[]⟩, .string ⟨#[]⟩, .string ⟨#[]⟩, .string ⟨#[]⟩, .string ⟨#[]⟩, (.slice (some ⟨b1, o1, none⟩) 2 n1)] 27) = W at T ⊢
 have B0 : Hid (Bx W (w.heap.size) (cellsO (.cons a d) (.slice (some ⟨b1, o1, none⟩) 2 n1)).toArray) := by rw [ea]; exact T.b0
 have K0 := qh9 (hp.below T.bel)
 have HW := qh9 T.bel
 try rw [← vO_cells ea]
 clear T ea hp
 replace HA := qh9 (HA.out.below HW.out)
 replace HD := qh9 (HD.out.below HW.out)
 obtain ⟨m0, _, _, _, _, _, m6⟩ := Bx.c B0.out
 have hm1 : ¬ m ≤ 1 := by omega
 have hm2 : 3 ≤ m := by omega
 go_wp2_with (first | ((with_reducible refine loadB (.tmp 2) ?_ ?_ ?_ B0.out ?_); rfl; rfl; rfl) | ((with_reducible refine loadG (.tmp 2) ?_ ?_ ?_ B0.out ?_); rfl; rfl; rfl) | ((with_reducible refine loadA ?_ ?_ HA.out ?_); exact ⟨_, rfl, rfl⟩; rfl) | ((with_reducible refine loadAG ?_ ?_ HA.out ?_); exact ⟨_, rfl, rfl⟩; rfl) | ((with_reducible refine loadA ?_ ?_ HD.out ?_); exact ⟨_, rfl, rfl⟩; rfl) | ((with_reducible refine loadAG ?_ ?_ HD.out ?_); exact ⟨_, rfl, rfl⟩; rfl))
 with_reducible refine (CA.out _ _ HA.out.hd).mono ?_
 rintro e w1 ⟨rfl, hb⟩
 replace B0 := qh9 (B0.out.keep hb)
 replace K0 := qh9 (K0.out.below hb)
 replace HW := qc9 HW hb
 replace HA := qh9 (HA.out.below hb)
 replace HD := qh9 (HD.out.below hb)
 clear hb
 obtain ⟨m0, _, _, _, _, _, m6⟩ := Bx.c B0.out
 have hn2 : ¬ m ≤ 1 + x := by omega
 go_wp2_with (first | ((with_reducible refine loadB (.tmp 2) ?_ ?_ ?_ B0.out ?_); rfl; rfl; rfl) | ((with_reducible refine loadG (.tmp 2) ?_ ?_ ?_ B0.out ?_); rfl; rfl; rfl) | ((with_reducible refine loadA ?_ ?_ HA.out ?_); exact ⟨_, rfl, rfl⟩; rfl) | ((with_reducible refine loadAG ?_ ?_ HA.out ?_); exact ⟨_, rfl, rfl⟩; rfl) | ((with_reducible refine loadA ?_ ?_ HD.out ?_); exact ⟨_, rfl, rfl⟩; rfl) | ((with_reducible refine loadAG ?_ ?_ HD.out ?_); exact ⟨_, rfl, rfl⟩; rfl))
 with_reducible refine (CD.out _ _ HD.out.hd).mono ?_
 rintro e w2 ⟨rfl, hb⟩
 replace B0 := qh9 (B0.out.keep hb)
 replace K0 := qh9 (K0.out.below hb)
 replace HW := qc9 HW hb
 replace HA := qh9 (HA.out.below hb)
 replace HD := qh9 (HD.out.below hb)
 clear hb
 go_wp2_with (first | ((with_reducible refine loadB (.tmp 2) ?_ ?_ ?_ B0.out ?_); rfl; rfl; rfl) | ((with_reducible refine loadG (.tmp 2) ?_ ?_ ?_ B0.out ?_); rfl; rfl; rfl) | ((with_reducible refine loadA ?_ ?_ HA.out ?_); exact ⟨_, rfl, rfl⟩; rfl) | ((with_reducible refine loadAG ?_ ?_ HA.out ?_); exact ⟨_, rfl, rfl⟩; rfl) | ((with_reducible refine loadA ?_ ?_ HD.out ?_); exact ⟨_, rfl, rfl⟩; rfl) | ((with_reducible refine loadAG ?_ ?_ HD.out ?_); exact ⟨_, rfl, rfl⟩; rfl))
 go_ret
 exact ⟨ret_int (by omega), HW.out⟩
theorem countR : ∀ (o : Ob) (p : Value) (m : Int) (w : World), (o.nodes : Int) ≤ m → m ≤ 3001 → Hd w o p → Calls Tryz.prog 52 #[vO o p, .int .i64 m] w (RetI w (o.nodes : Int))
 | .num q, p, m, w, h, h', hp => by obtain rfl := hp.flat rfl; exact countFlat _ _ _ _ _ _ m w
 | .str s, p, m, w, h, h', hp => by obtain rfl := hp.flat rfl; exact countFlat _ _ _ _ _ _ m w
 | .sym x y, p, m, w, h, h', hp => by obtain rfl := hp.flat rfl; exact countFlat _ _ _ _ _ _ m w
 | .cons a d, p, m, w, h, h', hp => by
  have e : ((Ob.cons a d).nodes : Int) = 1 + (a.nodes : Int) + (d.nodes : Int) := by show ((1 + a.nodes + d.nodes : Nat) : Int) = _; omega
  have ha := a.nodes_pos
  have hd := d.nodes_pos
  rw [e] at h ⊢
  exact countCons a d p m _ _ w (by omega) (by omega) h h' hp (fun X q hq => countR a q (m - 1) X (by omega) (by omega) hq) (fun X q hq => countR d q _ X (by omega) (by omega) hq)
set_option maxHeartbeats 4000000 in
set_option maxRecDepth 100000 in
theorem nodesR (o : Ob) (p : Value) (w : World) (hn : o.nodes ≤ 3000) (hp : Hd w o p) :
 Calls Tryz.prog 34 #[vO o p] w (RetI w (o.nodes : Int)) := by
 obtain ⟨a0, a1, a2, a3, a4, a5, ea⟩ := cells7 (o) p
 have T := Bx1.new w #[a0, a1, a2, a3, a4, a5, p]
 rw [vO_cells ea]
 go_enter Tryz.func34, Tryz.ntmps34
 go_wp2_with fail
 generalize w.alloc (.cells #[a0, a1, a2, a3, a4, a5, p] 27) = W at T ⊢
 have B0 : Hid (Bx W (w.heap.size) (cellsO (o) p).toArray) := by rw [ea]; exact T.b0
 have K0 := qh9 (hp.below T.bel)
 have HW := qh9 T.bel
 try rw [← vO_cells ea]
 clear T ea hp
 with_reducible refine (countR o p 3001 _ (by omega) (by omega) K0.out).mono ?_
 rintro e w1 ⟨rfl, hb⟩
 replace B0 := qh9 (B0.out.keep hb)
 replace K0 := qh9 (K0.out.below hb)
 replace HW := qc9 HW hb
 clear hb
 go_wp2_with (first | ((with_reducible refine loadB (.tmp 1) ?_ ?_ ?_ B0.out ?_); rfl; rfl; rfl) | ((with_reducible refine loadG (.tmp 1) ?_ ?_ ?_ B0.out ?_); rfl; rfl; rfl))
 go_ret
 exact ⟨rfl, HW.out⟩
end Go.Proofs.YtbffnoodpoagcaaGreatDoor
