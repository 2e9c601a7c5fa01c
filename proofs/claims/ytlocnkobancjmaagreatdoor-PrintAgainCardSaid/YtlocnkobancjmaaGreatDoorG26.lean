import Derived.Test.YtlocnkobancjmaaGreatDoorAl
import Derived.Test.YtlocnkobancjmaaGreatDoorG24
import Derived.Test.YtlocnkobancjmaaGreatDoorG22
import Derived.Test.YtlocnkobancjmaaGreatDoorG25
import Derived.Test.YtlocnkobancjmaaGreatDoorG11
import Derived.Test.YtlocnkobancjmaaGreatDoorG17
import Derived.Test.YtlocnkobancjmaaGreatDoorG19
namespace Go.Proofs.YtlocnkobancjmaaGreatDoor
open Go Go.RowKit
set_option linter.unusedVariables false
def injL (l : List Nat) : Bool := (List.range l.length).all fun i => (List.range l.length).all fun j => decide (l.getD i 0 = l.getD j 0 → i = j)
theorem inj_getD (l : List Nat) (h : injL l = true) (i j : Nat) (hi : i < l.length) (hj : j < l.length) (e : l.getD i 0 = l.getD j 0) : i = j := by
 have h1 := List.all_eq_true.1 h i (List.mem_range.2 hi)
 have h2 := List.all_eq_true.1 h1 j (List.mem_range.2 hj)
 exact of_decide_eq_true h2 e
theorem lt_getD (m : Nat) (l : List Nat) (h : (l.all fun x => decide (x < m)) = true) (i : Nat) (hi : i < l.length) : l.getD i 0 < m := by
 have h1 := List.all_eq_true.1 h l[i] (List.getElem_mem hi)
 rw [List.getD_eq_getElem?_getD, List.getElem?_eq_getElem hi]
 exact of_decide_eq_true h1
theorem ne_getD (m : Nat) (l : List Nat) (h : (l.all fun x => decide (x ≠ m)) = true) (i : Nat) (hi : i < l.length) : l.getD i 0 ≠ m := by
 have h1 := List.all_eq_true.1 h l[i] (List.getElem_mem hi)
 rw [List.getD_eq_getElem?_getD, List.getElem?_eq_getElem hi]
 exact of_decide_eq_true h1

inductive On where
 | fin (n : Nat)
 | pw (e : On) (c : Nat) (r : On)
deriving DecidableEq

def On.exp : On → On
 | .fin _ => .fin 0
 | .pw e _ _ => e
def On.coef : On → Nat
 | .fin n => n
 | .pw _ c _ => c
def On.rest : On → On
 | .fin _ => .fin 0
 | .pw _ _ r => r
def cmpNt (a b : Nat) : Int := if a < b then -1 else if b < a then 1 else 0
def cmpE : On → On → Int
 | .fin a, .fin b => cmpNt a b
 | .fin _, .pw _ _ _ => -1
 | .pw _ _ _, .fin _ => 1
 | .pw e c r, .pw e' c' r' => next (cmpE e e') (next (cmpNt c c') (cmpE r r'))
def On.nf : On → Prop
 | .fin _ => True
 | .pw e c r => e.nf ∧ e ≠ .fin 0 ∧ 1 ≤ c ∧ r.nf ∧ cmpE r.exp e < 0

def On.nd : On → Nat
 | .fin _ => 1
 | .pw e _ r => 3 + e.nd + r.nd
def On.bd (k : Nat) : On → Prop
 | .fin n => n ≤ k
 | .pw e c r => e.bd k ∧ c ≤ k ∧ r.bd k
inductive Sd where
 | mk (n : Int) (l : List Sd)

mutual
def Sd.cnt : Sd → Nat
 | .mk _ l => 1 + Sd.cnts l
def Sd.cnts : List Sd → Nat
 | [] => 0
 | r :: rs => r.cnt + Sd.cnts rs
end
mutual
def Sd.ok : Sd → Prop
 | .mk _ l => l.length ≤ 3 ∧ Sd.oks l
def Sd.oks : List Sd → Prop
 | [] => True
 | r :: rs => r.ok ∧ Sd.oks rs
end
def On.len : On → Nat
 | .fin _ => 0
 | .pw _ _ r => 1 + r.len
structure On.sm (a : On) (N L K : Nat) : Prop where
 nf : a.nf
 nd : a.nd ≤ N
 len : a.len ≤ L
 bd : a.bd K
/-- The world holds the object o, whose last field is p. -/
def Hd (w : World) (o : Ob) (p : Value) : Prop := Pair w (Has w) o p
theorem Hd.below {w w' : World} {o : Ob} {p : Value} (h : Hd w o p) (hb : Below w.heap.size w w') : Hd w' o p :=
 (Pair.below h (In.has w) hb).more fun b hb' => Nat.lt_of_lt_of_le hb' hb.size
theorem Pair.hd {w : World} {S : Nat → Prop} {o : Ob} {p : Value} (h : Pair w S o p) (hS : In S w) : Hd w o p := h.more hS
/-- The call returned the object o; what was there before stands. -/
def RetH (w : World) (o : Ob) (e : Ending) (w' : World) : Prop := ∃ p, e = .returned (vO o p) ∧ Hd w' o p ∧ Below w.heap.size w w'
theorem RetO.h {w w' : World} {S : Nat → Prop} {o : Ob} {e : Ending} (h : RetO w S o e w') (hS : In S w) : RetH w o e w' := by
 obtain ⟨p, h1, h2, h3⟩ := h
 exact ⟨p, h1, h2.hd (hS.upto h3.size), h3⟩
/-- Block g is a box with these seven fields. -/
def Bx (W : World) (g : Nat) (x : Array Value) : Prop := W.heap[g]? = some (.cells x 27 (0, 0))
theorem Bx.below {W W' : World} {g B : Nat} {x : Array Value} (h : Bx W g x) (hb : Below B W W') (hg : g < B) : Bx W' g x := (hb.block g hg).trans h
theorem Bx.lt {W : World} {g : Nat} {x : Array Value} (h : Bx W g x) : g < W.heap.size := by
 rcases Nat.lt_or_ge g W.heap.size with hlt | hge
 · exact hlt
 · unfold Bx at h; rw [Array.getElem?_eq_none hge] at h; cases h
theorem Bx.keep {W W' : World} {g : Nat} {x : Array Value} (h : Bx W g x) (hb : Below W.heap.size W W') : Bx W' g x := h.below hb h.lt
theorem Bx.c {W : World} {g : Nat} {a0 a1 a2 a3 a4 a5 a6 : Value} (h : Bx W g #[a0, a1, a2, a3, a4, a5, a6]) :
 W.cell? ⟨g, 0, none⟩ = some a0 ∧ W.cell? ⟨g, 1, none⟩ = some a1 ∧ W.cell? ⟨g, 2, none⟩ = some a2 ∧ W.cell? ⟨g, 3, none⟩ = some a3 ∧ W.cell? ⟨g, 4, none⟩ = some a4 ∧ W.cell? ⟨g, 5, none⟩ = some a5 ∧ W.cell? ⟨g, 6, none⟩ = some a6 := (row7 h).1
def zeroC : Array Value := #[.int .i64 0, .string ⟨#[]⟩, .string ⟨#[]⟩, .string ⟨#[]⟩, .string ⟨#[]⟩, .string ⟨#[]⟩, .slice none 0 0]
def aO (w : World) (x : Array Value) : World := w.alloc (.cells x 27)
theorem aO_new (w : World) (x : Array Value) : Bx (aO w x) w.heap.size x := heap_alloc_new w _
theorem aO_size (w : World) (x : Array Value) : (aO w x).heap.size = w.heap.size + 1 := by unfold aO; simp
theorem aO_below (w : World) (x : Array Value) : Below w.heap.size w (aO w x) := Below.alloc (Below.refl _ _) (Nat.le_refl _) _
/-- One box, two, three, four, made one after another. -/
structure Bx1 (w W : World) (x0 : Array Value) : Prop where
 bel : Below w.heap.size w W
 b0 : Bx W w.heap.size x0
theorem Bx1.new (w : World) (x0 : Array Value) : Bx1 w (w.alloc (.cells x0 27)) x0 := ⟨aO_below w x0, aO_new w x0⟩
structure Bx2 (w W : World) (x0 x1 : Array Value) : Prop where
 bel : Below w.heap.size w W
 b0 : Bx W w.heap.size x0
 b1 : Bx W (w.heap.size + 1) x1
theorem Bx2.new (w : World) (x0 x1 : Array Value) : Bx2 w ((w.alloc (.cells x0 27)).alloc (.cells x1 27)) x0 x1 := by
 have h := aO_below (aO w x0) x1
 have s := aO_size w x0
 refine ⟨(aO_below w x0).trans (h.mono (by omega)), (aO_new w x0).below h (by omega), ?_⟩
 have := aO_new (aO w x0) x1
 rw [s] at this
 exact this
structure Bx3 (w W : World) (x0 x1 x2 : Array Value) : Prop where
 bel : Below w.heap.size w W
 b0 : Bx W w.heap.size x0
 b1 : Bx W (w.heap.size + 1) x1
 b2 : Bx W (w.heap.size + 1 + 1) x2
theorem Bx.set {W : World} {g : Nat} {x y : Array Value} (h : Bx W g x) : Bx (W.setRow g y) g y := setRow_heap _ _ _ _ _ _ h
theorem vO_cells {o : Ob} {p x0 x1 x2 x3 x4 x5 : Value} (h : cellsO o p = [x0, x1, x2, x3, x4, x5, p]) : vO o p = .agg #[x0, x1, x2, x3, x4, x5, p] := by unfold vO; rw [h]
/-- A load of a whole object from its box. -/
theorem loadB {ops : Array Oper} {rest : List Oper} {o : Oper} {a : Act} {w : World} {Q : Exit → Act → World → Prop} {g : Nat} {b : Ob} {p : Value} (x : Operand) (ho : o.op = .load 27 x) (hgd : o.guard = none)
 (hx : a.eval x = .pointer (some ⟨g, 0, none⟩)) (hb : Bx w g (cellsO b p).toArray)
 (h : wpList Tryz.prog ops Q rest (a.put o.dst (vO b p)) w) : wpList Tryz.prog ops Q (o :: rest) a w :=
 wpList_load_row hgd 27 x ho g hx _ _ _ _ hb Tryz.underlying27 rfl (by rw [List.size_toArray, cellsO_length]; kernel_rfl) h
/-- The same under a guard that lets it run. -/
theorem loadG {ops : Array Oper} {rest : List Oper} {o : Oper} {a : Act} {w : World} {Q : Exit → Act → World → Prop} {g : Nat} {b : Ob} {p : Value} (x : Operand) (ho : o.op = .load 27 x) (hw : Region.wanted o (yielded ops a.tmps) = true)
 (hx : a.eval x = .pointer (some ⟨g, 0, none⟩)) (hb : Bx w g (cellsO b p).toArray)
 (h : wpList Tryz.prog ops Q rest (a.put o.dst (vO b p)) w) : wpList Tryz.prog ops Q (o :: rest) a w := by
 unfold wpList
 rw [if_pos hw]
 exact .inl (wp_load_row 27 x ho g hx _ _ _ _ hb Tryz.underlying27 rfl (by rw [List.size_toArray, cellsO_length]; kernel_rfl) h)
/-- A store into a box. -/
theorem storeB {ops : Array Oper} {rest : List Oper} {o : Oper} {a : Act} {w : World} {Q : Exit → Act → World → Prop} {g : Nat} {b : Ob} {p : Value} {x0 x1 x2 x3 x4 x5 x6 : Value} {w1 : World} (x y : Operand) (ho : o.op = .store 27 x y) (hgd : o.guard = none)
 (hx : a.eval x = .pointer (some ⟨g, 0, none⟩)) (hy : a.eval y = vO b p) (hp : Hd w1 b p) (hg : Bx w g #[x0, x1, x2, x3, x4, x5, x6])
 (h : wpList Tryz.prog ops Q rest (a.put o.dst undef) (w.setRow g (cellsO b p).toArray)) : wpList Tryz.prog ops Q (o :: rest) a w :=
 storeV hgd x y ho g b p hx hy hp _ _ hg rfl h
theorem hI {p : Prop} (h : p) : Hid p := qh9 h
section
variable {P : Program} {Q : Exit → Act → World → Prop} {ops : Array Oper} {K : Act → World → Prop} {a : Act} {w : World} {i : Nat} {o : Oper}
end

abbrev Lv := Value → Nat → Nat → World → Prop
def Mon (f : Lv) : Prop := ∀ (v : Value) (lo hi : Nat) (w w' : World), f v lo hi w → hi ≤ w.heap.size → Below w.heap.size w w' → f v lo hi w'
def LV (u : Value) : Lv := fun v _ _ _ => v = u
theorem mLV (u : Value) : Mon (LV u) := fun _ _ _ _ _ h _ _ => h
def Mons : List Lv → Prop
 | [] => True
 | f :: l => Mon f ∧ Mons l
def LR (l : List Lv) (i : Nat) : Lv := l.getD i (fun _ _ _ _ => True)
theorem LR_mono : ∀ {l : List Lv}, Mons l → ∀ (i : Nat) (x : Value) (l' m : Nat) (w w' : World), LR l i x l' m w → m ≤ w.heap.size → Below w.heap.size w w' → LR l i x l' m w'
 | [], _, i, x, l', m, w, w', h, _, _ => by unfold LR; simp
 | f :: l, ⟨hf, hl⟩, 0, x, l', m, w, w', h, hm, hb => hf x l' m w w' h hm hb
 | f :: l, ⟨hf, hl⟩, i + 1, x, l', m, w, w', h, hm, hb => LR_mono hl i x l' m w w' h hm hb
end Go.Proofs.YtlocnkobancjmaaGreatDoor
