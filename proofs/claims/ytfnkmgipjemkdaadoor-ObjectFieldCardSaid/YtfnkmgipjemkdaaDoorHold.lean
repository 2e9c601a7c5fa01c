/- Objects in memory: what a value of the type api.Object stands for, and the reference's functions that make one. -/
import Derived.Test.YtfnkmgipjemkdaaDoorM30
import Derived.KernelRfl
namespace Go.Proofs.YtfnkmgipjemkdaaDoor
open Go Go.RowKit
set_option linter.unusedVariables false

/-- The empty string, as the program has it. -/
def e0 : Value := .string ⟨#[]⟩
/-- The seven cells of an object whose last field is p. -/
def cellsO : Ob → Value → List Value
  | .num q, p => [.int .i64 1, .string (nt q), .string (dt q), e0, e0, e0, p]
  | .str s, p => [.int .i64 3, e0, e0, e0, e0, .string (BA s), p]
  | .sym a n, p => [.int .i64 2, e0, e0, .string (BA a), .string (BA n), e0, p]
  | .cons _ _, p => [.int .i64 4, e0, e0, e0, e0, e0, p]
/-- An object as a value. -/
def vO (o : Ob) (p : Value) : Value := .agg (cellsO o p).toArray
theorem cellsO_length (o : Ob) (p : Value) : (cellsO o p).length = 7 := by cases o <;> rfl

/-- A block of cells that nothing has frozen. -/
def Plain (w : World) (b : Nat) : Prop := ∃ cs t, w.heap[b]? = some (.cells cs t (0, 0))
theorem Plain.keep {w w' : World} {b : Nat} (h : Plain w b) (hk : w'.heap[b]? = w.heap[b]?) : Plain w' b := by
  obtain ⟨cs, t, h⟩ := h; exact ⟨cs, t, hk.trans h⟩
theorem Plain.new (w : World) (cs : Array Value) (t : TypeId) : Plain (w.alloc (.cells cs t)) w.heap.size := ⟨cs, t, heap_alloc_new w _⟩

/-- The last field p of the object o, as memory has it; S holds of every block that it reaches. -/
def Pair (w : World) (S : Nat → Prop) : Ob → Value → Prop
  | .cons a d, p => ∃ b o c pa pd, p = .slice (some ⟨b, o, none⟩) 2 c ∧ 2 ≤ c ∧ (S b ∧ Plain w b) ∧
      (∀ j u, (cellsO a pa ++ cellsO d pd)[j]? = some u → w.cell? ⟨b, o + j, none⟩ = some u) ∧ Pair w S a pa ∧ Pair w S d pd
  | _, p => p = .slice none 0 0

theorem Pair.keep {w w' : World} {S S' : Nat → Prop} (hS : ∀ b, S b → S' b) (hk : ∀ b, S b → w'.heap[b]? = w.heap[b]?) : ∀ {o : Ob} {p : Value}, Pair w S o p → Pair w' S' o p
  | .num _, _, h => h
  | .str _, _, h => h
  | .sym _ _, _, h => h
  | .cons a d, p, ⟨b, o, c, pa, pd, h1, h2, h3, h4, h5, h6⟩ =>
    ⟨b, o, c, pa, pd, h1, h2, ⟨hS b h3.1, h3.2.keep (hk b h3.1)⟩, fun j u hj => (World.cell?_of_block (a := ⟨b, o + j, none⟩) (hk b h3.1)).trans (h4 j u hj), h5.keep hS hk, h6.keep hS hk⟩
theorem Pair.below {w w' : World} {S : Nat → Prop} {B : Nat} {o : Ob} {p : Value} (h : Pair w S o p) (hS : ∀ b, S b → b < B) (hb : Below B w w') : Pair w' S o p := h.keep (fun _ h => h) fun q hq => hb.block q (hS q hq)
theorem Pair.more {w : World} {S S' : Nat → Prop} {o : Ob} {p : Value} (h : Pair w S o p) (hS : ∀ b, S b → S' b) : Pair w S' o p := h.keep hS fun _ _ => rfl
theorem Pair.setRow {w : World} {S : Nat → Prop} {o : Ob} {p : Value} (h : Pair w S o p) (g : Nat) (hg : ¬ S g) (cs : Array Value) : Pair (w.setRow g cs) S o p :=
  h.keep (fun _ h => h) fun q hq => setRow_other w g q cs (fun e => hg (e ▸ hq))

/-- S, and the blocks that have come between two worlds. -/
def Upto (w w' : World) (S : Nat → Prop) (b : Nat) : Prop := S b ∨ (w.heap.size ≤ b ∧ b < w'.heap.size)
/-- All of S lies in the world. -/
def In (S : Nat → Prop) (w : World) : Prop := ∀ b, S b → b < w.heap.size
theorem In.upto {S : Nat → Prop} {w w' : World} (h : In S w) (hs : w.heap.size ≤ w'.heap.size) : In (Upto w w' S) w' := fun b hb => by
  rcases hb with hb | ⟨_, hb⟩
  · exact Nat.lt_of_lt_of_le (h b hb) hs
  · exact hb
theorem In.later {S : Nat → Prop} {w w' : World} (h : In S w) (hs : w.heap.size ≤ w'.heap.size) : In S w' := fun b hb => Nat.lt_of_lt_of_le (h b hb) hs

/-- The call returned the object o, over blocks of S and its own; what was there before stands. -/
def RetO (w : World) (S : Nat → Prop) (o : Ob) (e : Ending) (w' : World) : Prop := ∃ p, e = .returned (vO o p) ∧ Pair w' (Upto w w' S) o p ∧ Below w.heap.size w w'

/-- A function returns what lies in its result's block. -/
theorem retO {fn : Func} {p : Tmp} {Q : Ending → World → Prop} {tmps : Array Value} {w : World} {g : Nat} {cs : Array Value} {t : TypeId} {fr : Nat × Nat}
    (h : fn.results = #[.cell p 27]) (hp : tmps.getD p undef = .pointer (some ⟨g, 0, none⟩)) (hg : w.heap[g]? = some (.cells cs t fr)) (hs : cs.size = 7)
    (hQ : Q (.returned (.agg cs)) w) : bodyPost Tryd.prog fn Q Exit.ret ⟨tmps, []⟩ w :=
  bodyPost_ret (results_cell_row h tmps w g t cs fr _ hp hg Tryd.underlying27 rfl (by rw [hs]; kernel_rfl)) rfl hQ

/-- A store of a whole object into its block. -/
theorem storeO {ops : Array Oper} {rest : List Oper} {o : Oper} {a : Act} {w : World} {Q : Exit → Act → World → Prop} (hgd : o.guard = none) (x y : Operand) (ho : o.op = .store 27 x y)
    (g : Nat) (cells : Array Value) (hx : a.eval x = .pointer (some ⟨g, 0, none⟩)) (hy : a.eval y = .agg cells)
    (t : TypeId) (old : Array Value) (hg : w.heap[g]? = some (.cells old t (0, 0))) (hold : old.size = 7) (hc : cells.size = 7) (h1 : cells.all (·.oneCell') = true)
    (h : wpList Tryd.prog ops Q rest (a.put o.dst undef) (w.setRow g cells)) : wpList Tryd.prog ops Q (o :: rest) a w :=
  wpList_store_row hgd 27 x y ho g cells hx hy t old hg (by rw [hc]; kernel_rfl) (hold.trans hc.symm) h1 h
theorem below_setRowO {B g : Nat} {w0 w : World} (hb : Below B w0 w) (hBg : B ≤ g) (cs : Array Value) : Below B w0 (w.setRow g cs) :=
  ⟨hb.os, hb.tape, hb.output, by rw [size_setRow]; exact hb.size, fun k hk => (setRow_other w g k cs (by omega)).trans (hb.block k hk)⟩

theorem heap_new_at {w : World} {o : Obj} {g : Nat} (hg : g = w.heap.size) : (w.alloc o).heap[g]? = some o := by subst hg; exact heap_alloc_new w o
theorem Pair.one {w : World} {S : Nat → Prop} {o : Ob} {p : Value} (h : Pair w S o p) : (cellsO o p).toArray.all (·.oneCell') = true := by
  cases o with
  | cons a d => obtain ⟨b, o, c, pa, pd, rfl, _⟩ := h; simp [cellsO, Value.oneCell', e0]
  | num q => have e : p = .slice none 0 0 := h; subst e; simp [cellsO, Value.oneCell', e0]
  | str s => have e : p = .slice none 0 0 := h; subst e; simp [cellsO, Value.oneCell', e0]
  | sym a n => have e : p = .slice none 0 0 := h; subst e; simp [cellsO, Value.oneCell', e0]
/-- A store of an object that memory holds. -/
theorem storeV {ops : Array Oper} {rest : List Oper} {o : Oper} {a : Act} {w w1 : World} {S : Nat → Prop} {Q : Exit → Act → World → Prop} (hgd : o.guard = none) (x y : Operand) (ho : o.op = .store 27 x y)
    (g : Nat) (b : Ob) (p : Value) (hx : a.eval x = .pointer (some ⟨g, 0, none⟩)) (hy : a.eval y = vO b p) (hp : Pair w1 S b p)
    (t : TypeId) (old : Array Value) (hg : w.heap[g]? = some (.cells old t (0, 0))) (hold : old.size = 7)
    (h : wpList Tryd.prog ops Q rest (a.put o.dst undef) (w.setRow g (cellsO b p).toArray)) : wpList Tryd.prog ops Q (o :: rest) a w :=
  storeO hgd x y ho g _ hx hy t old hg hold (by simp [cellsO_length]) hp.one h
/-- A function returns the object that lies in its result's block. -/
theorem retV {fn : Func} {q : Tmp} {w0 : World} {S S' : Nat → Prop} {tmps : Array Value} {w : World} {g : Nat} {o : Ob} {p : Value} {t : TypeId} {old : Array Value} {fr : Nat × Nat}
    (h : fn.results = #[.cell q 27]) (hq : tmps.getD q undef = .pointer (some ⟨g, 0, none⟩)) (hg : w.heap[g]? = some (.cells old t fr))
    (hp : Pair w S' o p) (hn : ¬ S' g) (hS : ∀ b, S' b → Upto w0 w S b) (hlt : w0.heap.size ≤ g) (hb : Below w0.heap.size w0 w) :
    bodyPost Tryd.prog fn (RetO w0 S o) Exit.ret ⟨tmps, []⟩ (w.setRow g (cellsO o p).toArray) :=
  retO h hq (setRow_heap _ _ _ _ _ _ hg) (by simp [cellsO_length]) ⟨p, rfl, (hp.setRow g hn _).more (fun b hb => by
    have := hS b hb
    unfold Upto at this ⊢
    rwa [size_setRow]), below_setRowO hb hlt _⟩

theorem cells7 (o : Ob) (p : Value) : ∃ a0 a1 a2 a3 a4 a5, cellsO o p = [a0, a1, a2, a3, a4, a5, p] := by
  cases o <;> exact ⟨_, _, _, _, _, _, rfl⟩

end Go.Proofs.YtfnkmgipjemkdaaDoor
