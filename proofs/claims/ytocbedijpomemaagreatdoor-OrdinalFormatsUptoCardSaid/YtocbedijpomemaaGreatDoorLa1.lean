/- Boxes of seeds; few, made, boxes filled together. -/
import Derived.Test.YtocbedijpomemaaGreatDoorG27
import Derived.Test.YtocbedijpomemaaGreatDoorG21
import Derived.Test.YtocbedijpomemaaGreatDoorG24
import Derived.Test.YtocbedijpomemaaGreatDoorG19
namespace Go.Proofs.YtocbedijpomemaaGreatDoor
open Go Go.RowKit
set_option linter.unusedVariables false
def Sb (W : World) (g : Nat) (x y : Value) : Prop := W.heap[g]? = some (.cells #[x, y] 24 (0, 0))
theorem blk_lt {W : World} {g : Nat} {o : Obj} (h : W.heap[g]? = some o) : g < W.heap.size := by
 rcases Nat.lt_or_ge g W.heap.size with hlt | hge
 · exact hlt
 · rw [Array.getElem?_eq_none hge] at h; cases h
theorem Sb.lt {W : World} {g : Nat} {x y : Value} (h : Sb W g x y) : g < W.heap.size := blk_lt h
theorem Sb.keep {W W' : World} {g : Nat} {x y : Value} (h : Sb W g x y) (hb : Below W.heap.size W W') : Sb W' g x y := (hb.block g h.lt).trans h
theorem Sb.new (w : World) (x y : Value) : Sb (w.alloc (.cells #[x, y] 24)) w.heap.size x y := heap_alloc_new w _
theorem Sb.c0 {W : World} {g : Nat} {x y : Value} (h : Sb W g x y) : W.cell? ⟨g, 0, none⟩ = some x := by rw [cell_of_row _ _ _ _ _ _ h]; rfl
theorem Sb.c1 {W : World} {g : Nat} {x y : Value} (h : Sb W g x y) : W.cell? ⟨g, 1, none⟩ = some y := by rw [cell_of_row _ _ _ _ _ _ h]; rfl
def Rb (W : World) (g : Nat) (x0 x1 x2 x3 : Value) : Prop := W.heap[g]? = some (.cells #[x0, x1, x2, x3] 27 (0, 0))
theorem Rb.keep {W W' : World} {g : Nat} {x0 x1 x2 x3 : Value} (h : Rb W g x0 x1 x2 x3) (hb : Below W.heap.size W W') : Rb W' g x0 x1 x2 x3 := (hb.block g (blk_lt h)).trans h
theorem Rb.c {W : World} {g : Nat} {x0 x1 x2 x3 : Value} (h : Rb W g x0 x1 x2 x3) : W.cell? ⟨g, 0, none⟩ = some x0 ∧ W.cell? ⟨g, 1, none⟩ = some x1 ∧ W.cell? ⟨g, 2, none⟩ = some x2 ∧ W.cell? ⟨g, 3, none⟩ = some x3 := by
 refine ⟨?_, ?_, ?_, ?_⟩ <;> (rw [cell_of_row _ _ _ _ _ _ h]; rfl)
theorem blk2 (w : World) (o0 o1 : Obj) : Below w.heap.size w ((w.alloc o0).alloc o1) ∧ ((w.alloc o0).alloc o1).heap[w.heap.size]? = some o0 ∧ ((w.alloc o0).alloc o1).heap[w.heap.size + 1]? = some o1 := by
 have h1 := Below.alloc (Below.refl (w.alloc o0).heap.size (w.alloc o0)) (Nat.le_refl _) o1
 have s : (w.alloc o0).heap.size = w.heap.size + 1 := by simp
 refine ⟨Below.alloc (Below.alloc (Below.refl _ _) (Nat.le_refl _) o0) (by simp) o1, (h1.block _ (by omega)).trans (heap_alloc_new w o0), ?_⟩
 have := heap_alloc_new (w.alloc o0) o1
 rw [s] at this
 exact this
set_option maxRecDepth 100000 in
theorem gr_seed {Q : Exit → Act → World → Prop} {ops : Array Oper} {K : Act → World → Prop} {a : Act} {w : World} {i : Nat} {o : Oper} (ho : ops[i]? = some o) (hg : o.guard = none) (x : Operand) (hop : o.op = .load 24 x) {g : Nat} {u v : Value} (hx : a.eval x = .pointer (some ⟨g, 0, none⟩)) (hb : Sb w g u v)
 (hK : K (a.put o.dst (.agg #[u, v])) w) : wpOp Tryz.prog ops Q i K a w :=
 gr_load ho hg 24 x hop g hx _ _ _ _ hb Tryz.underlying24 rfl (by kernel_rfl) hK
theorem RetX.h {w w' : World} {m : Nat} {e : Ending} (h : RetX w m e w') : ∃ o p, e = .returned (vO o p) ∧ Hd w' o p ∧ Below w.heap.size w w' ∧ OkO m o := by
 obtain ⟨o, p, h1, h2, h3, h4⟩ := h
 exact ⟨o, p, h1, h2.more (fun b hb => by rcases hb with hb | hb; exact hb.elim; exact hb.2), h3, h4⟩
mutual
theorem SdAt.more {w : World} {S S' : Nat → Prop} (hk : ∀ b, S b → S' b) : ∀ (r : Sd) (cs : List Value), SdAt w S r cs → SdAt w S' r cs
 | .mk n l, cs, h => by
  unfold SdAt at h ⊢
  obtain ⟨A, c, h1, h2, h4, h5, h6⟩ := h
  refine ⟨A, c, h1, h2, h4, h5, fun hl => ?_⟩
  obtain ⟨b, o, e, hb, hr⟩ := h6 hl
  exact ⟨b, o, e, hk b hb, SdsAt.more hk b o l hr⟩
theorem SdsAt.more {w : World} {S S' : Nat → Prop} (hk : ∀ b, S b → S' b) (b o : Nat) : ∀ l : List Sd, SdsAt w S b o l → SdsAt w S' b o l
 | [], _ => by unfold SdsAt; trivial
 | r :: rs, h => by
  unfold SdsAt at h ⊢
  obtain ⟨⟨cs, h1, h2⟩, h3⟩ := h
  exact ⟨⟨cs, SdAt.more hk r cs h1, h2⟩, SdsAt.more hk b (o + 2) rs h3⟩
end
theorem few1 (s : Sd) (s0 s1 : Value) (w X : World) (hs : SdAt w (Has w) s [s0, s1]) (cs : s.cnt ≤ 1048576) (hb : Below w.heap.size w X) :
 Calls Tryz.prog 5 #[.slice (some ⟨X.heap.size, 0, none⟩) 1 1] (X.alloc (.cells #[s0, s1] 24)) (fun e w' => e = .returned (.bool (fewSd [s])) ∧ Below X.heap.size X w') := by
 have hn := heap_alloc_new X (.cells #[s0, s1] 24)
 have hB := Below.alloc (Below.refl X.heap.size X) (Nat.le_refl _) (.cells #[s0, s1] 24)
 have hz : (X.alloc (.cells #[s0, s1] 24)).heap.size = X.heap.size + 1 := by simp
 generalize X.alloc (.cells #[s0, s1] 24) = Y at hn hB hz ⊢
 have hbY : Below w.heap.size w Y := chain2 hb hB (Nat.le_refl _)
 have up : ∀ {r : Sd} {cs : List Value}, SdAt w (Has w) r cs → SdAt Y (Has Y) r cs := fun h => (h.below (In.has w) hbY).more (fun b (hb : b < w.heap.size) => Nat.lt_of_lt_of_le hb hbY.size)
 refine (fewSdO [s] X.heap.size 0 1 Y (Has Y) (In.has Y) (Nat.le_refl _) (by omega) (by intro r hr; simp only [List.mem_cons, List.not_mem_nil, or_false] at hr; rcases hr with rfl <;> assumption) (by show X.heap.size < Y.heap.size; omega) ?_).mono ?_
 · unfold SdsAt
   refine ⟨⟨[s0, s1], up hs, fun j v hj => ?_⟩, ?_⟩
   · rw [cell_of_row _ _ _ _ _ _ hn]
     match j, hj with
     | 0, hj => injection hj with hj; subst hj; rfl
     | 1, hj => injection hj with hj; subst hj; rfl
   unfold SdsAt
   trivial
 · rintro e w' ⟨rfl, h⟩
   exact ⟨rfl, chain2 hB h (by omega)⟩
theorem madeK {l : List Sd} {s : Sd} {s0 s1 : Value} {w : World} (hf : fewSd l = true) (hm : s ∈ l) (hs : SdAt w (Has w) s [s0, s1]) (ht : Tab w) :
 ∃ a : On, a.sm 45 3 84 ∧ ∀ X, Below w.heap.size w X → Calls Tryz.prog 9 #[.agg #[s0, s1]] X (RetH X a.ob) := by
 obtain ⟨h1, h2⟩ := fewSd_mem hf hm
 exact ⟨madeE s, madeFew hf hm, fun X hX => madeO s [s0, s1] X (Has w) h1 (by omega) ((In.has w).later hX.size) (hs.below (In.has w) hX) (ht.below hX)⟩
structure Fill1 (w0 X : World) (g0 : Nat) (o0 : Ob) (p0 : Value) : Prop where
 bel : Below w0.heap.size w0 X
 b0 : Bx X g0 (cellsO o0 p0).toArray
 k0 : Hd X o0 p0
end Go.Proofs.YtocbedijpomemaaGreatDoor
