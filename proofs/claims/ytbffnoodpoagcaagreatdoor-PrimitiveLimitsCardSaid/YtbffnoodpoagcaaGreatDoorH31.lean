/- The results as cells; small arguments. -/
import Derived.Test.YtbffnoodpoagcaaGreatDoorH29
import Derived.Test.YtbffnoodpoagcaaGreatDoorH18
import Derived.Test.YtbffnoodpoagcaaGreatDoorH19
import Derived.Test.YtbffnoodpoagcaaGreatDoorH30
namespace Go.Proofs.YtbffnoodpoagcaaGreatDoor
open Go Go.RowKit
set_option linter.unusedVariables false
def Us (w : World) (r : Option Ob × Int) (cs : Array Value) : Prop := cs.size = 7 ∧ cs.all (·.oneCell') = true ∧ match r.1 with
 | some o => ∃ p, cs = (cellsO o p).toArray ∧ Hd w o p
 | none => cs = zeroC
theorem Us.below {w w' : World} {r : Option Ob × Int} {cs : Array Value} (h : Us w r cs) (hb : Below w.heap.size w w') : Us w' r cs := by
 obtain ⟨h1, h2, h3⟩ := h
 obtain ⟨o, n⟩ := r
 cases o with
 | none => exact ⟨h1, h2, h3⟩
 | some o =>
  obtain ⟨p, h4, h5⟩ : ∃ p, cs = (cellsO o p).toArray ∧ Hd w o p := h3
  exact ⟨h1, h2, p, h4, h5.below hb⟩
def RetU (w : World) (r : Option Ob × Int) (e : Ending) (w' : World) : Prop := ∃ cs, e = .returned (.tuple #[.agg cs, .int .i64 r.2]) ∧ Us w' r cs ∧ Below w.heap.size w w'
theorem RetE.u {w w' : World} {r : Option Ob × Int} {e : Ending} (h : RetE w r e w') : RetU w r e w' := by
 obtain ⟨o, n⟩ := r
 cases o with
 | none =>
  obtain ⟨h1, h2⟩ : e = .returned (.tuple #[.agg zeroC, .int .i64 n]) ∧ Below w.heap.size w w' := h
  exact ⟨zeroC, h1, ⟨rfl, by simp [zeroC, Value.oneCell'], rfl⟩, h2⟩
 | some o =>
  obtain ⟨p, h1, h2, h3⟩ : ∃ p, e = .returned (.tuple #[vO o p, .int .i64 n]) ∧ Hd w' o p ∧ Below w.heap.size w w' := h
  exact ⟨(cellsO o p).toArray, h1, ⟨by rw [List.size_toArray, cellsO_length], Pair.one h2, p, rfl, h2⟩, h3⟩
theorem eqSelfU (k : Int) (s1 s2 s3 s4 s5 : ByteArray) : eqS s1 s2 s3 s4 s5 s1 s2 s3 s4 s5 = true := by unfold eqS; simp
theorem eqU {w : World} {r : Option Ob × Int} {cs ds : Array Value} (h : Us w r cs) (h' : Us w r ds) : Calls Tryz.prog 12 #[.agg cs, .agg ds] w (RetB w true) := by
 obtain ⟨o, n⟩ := r
 obtain ⟨_, _, h3⟩ := h
 obtain ⟨_, _, h4⟩ := h'
 cases o with
 | none =>
  obtain rfl : cs = zeroC := h3
  obtain rfl : ds = zeroC := h4
  have h := eqFlat 0 ⟨#[]⟩ ⟨#[]⟩ ⟨#[]⟩ ⟨#[]⟩ ⟨#[]⟩ ⟨#[]⟩ ⟨#[]⟩ ⟨#[]⟩ ⟨#[]⟩ ⟨#[]⟩ w
  rw [eqSelfU 0] at h
  exact h
 | some o =>
  obtain ⟨p, rfl, hp⟩ : ∃ p, cs = (cellsO o p).toArray ∧ Hd w o p := h3
  obtain ⟨q, rfl, hq⟩ : ∃ p, ds = (cellsO o p).toArray ∧ Hd w o p := h4
  have h := equalO o o p q w (Has w) (In.has w) hp hq
  rw [decide_eq_true rfl] at h
  exact h
theorem storeU {ops : Array Oper} {rest : List Oper} {o : Oper} {a : Act} {w : World} {Q : Exit → Act → World → Prop} {g : Nat} {cs : Array Value} {x0 x1 x2 x3 x4 x5 x6 : Value} {w1 : World} {r : Option Ob × Int} (x y : Operand) (ho : o.op = .store 27 x y) (hgd : o.guard = none)
 (hx : a.eval x = .pointer (some ⟨g, 0, none⟩)) (hy : a.eval y = .agg cs) (hp : Us w1 r cs) (hg : Bx w g #[x0, x1, x2, x3, x4, x5, x6])
 (h : wpList Tryz.prog ops Q rest (a.put o.dst undef) (w.setRow g cs)) : wpList Tryz.prog ops Q (o :: rest) a w :=
 storeO hgd x y ho g cs hx hy _ _ hg rfl hp.1 hp.2.1 h
theorem loadU {ops : Array Oper} {rest : List Oper} {o : Oper} {a : Act} {w w1 : World} {Q : Exit → Act → World → Prop} {g : Nat} {cs : Array Value} {r : Option Ob × Int} (x : Operand) (ho : o.op = .load 27 x) (hgd : o.guard = none)
 (hx : a.eval x = .pointer (some ⟨g, 0, none⟩)) (hb : Bx w g cs) (hp : Us w1 r cs)
 (h : wpList Tryz.prog ops Q rest (a.put o.dst (.agg cs)) w) : wpList Tryz.prog ops Q (o :: rest) a w :=
 wpList_load_row hgd 27 x ho g hx _ _ _ _ hb Tryz.underlying27 rfl (by rw [hp.1]; kernel_rfl) h
theorem loadUG {ops : Array Oper} {rest : List Oper} {o : Oper} {a : Act} {w w1 : World} {Q : Exit → Act → World → Prop} {g : Nat} {cs : Array Value} {r : Option Ob × Int} (x : Operand) (ho : o.op = .load 27 x) (hw : Region.wanted o (yielded ops a.tmps) = true)
 (hx : a.eval x = .pointer (some ⟨g, 0, none⟩)) (hb : Bx w g cs) (hp : Us w1 r cs)
 (h : wpList Tryz.prog ops Q rest (a.put o.dst (.agg cs)) w) : wpList Tryz.prog ops Q (o :: rest) a w := by
 unfold wpList
 rw [if_pos hw]
 exact .inl (wp_load_row 27 x ho g hx _ _ _ _ hb Tryz.underlying27 rfl (by rw [hp.1]; kernel_rfl) h)
theorem boxU (w : World) (z cs : Array Value) : Below w.heap.size w (World.setRow (w.alloc (.cells z 27)) w.heap.size cs) ∧ Bx (World.setRow (w.alloc (.cells z 27)) w.heap.size cs) w.heap.size cs := by
 have T := Bx1.new w z
 exact ⟨below_setRowO T.bel (Nat.le_refl _) _, T.b0.set⟩
end Go.Proofs.YtbffnoodpoagcaaGreatDoor
