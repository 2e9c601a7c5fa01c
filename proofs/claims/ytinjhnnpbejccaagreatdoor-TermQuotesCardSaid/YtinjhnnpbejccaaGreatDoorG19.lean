import Derived.Test.YtinjhnnpbejccaaGreatDoorAl
import Derived.Test.YtinjhnnpbejccaaGreatDoorG17
import Derived.Test.YtinjhnnpbejccaaGreatDoorG16
import Derived.Test.YtinjhnnpbejccaaGreatDoorG18
import Derived.Test.YtinjhnnpbejccaaGreatDoorG11
import Derived.Test.YtinjhnnpbejccaaGreatDoorG13
import Derived.Deep.MidRow
namespace Go.Proofs.YtinjhnnpbejccaaGreatDoor
open Go Go.RowKit
set_option linter.unusedVariables false
set_option maxHeartbeats 32000000
set_option maxRecDepth 100000
def injL (l : List Nat) : Bool := (List.range l.length).all fun i => (List.range l.length).all fun j => decide (l.getD i 0 = l.getD j 0 → i = j)
theorem inj_getD (l : List Nat) (h : injL l = true) (i j : Nat) (hi : i < l.length) (hj : j < l.length) (e : l.getD i 0 = l.getD j 0) : i = j := by
 have h1 := List.all_eq_true.1 h i (List.mem_range.2 hi)
 have h2 := List.all_eq_true.1 h1 j (List.mem_range.2 hj)
 exact of_decide_eq_true h2 e
theorem lt_getD (m : Nat) (l : List Nat) (h : (l.all fun x => decide (x < m)) = true) (i : Nat) (hi : i < l.length) : l.getD i 0 < m := by
 have h1 := List.all_eq_true.1 h l[i] (List.getElem_mem hi)
 rw [List.getD_eq_getElem?_getD, List.getElem?_eq_getElem hi]
 exact of_decide_eq_true h1
theorem ne_getD (m : Nat) (l : List Nat) (h : (l.all fun x => decide (x ≠ m)) = true) (i : Nat) (hi : i < l.length) : l.getD i 0 ≠ m := by
 have h1 := List.all_eq_true.1 h l[i] (List.getElem_mem hi)
 rw [List.getD_eq_getElem?_getD, List.getElem?_eq_getElem hi]
 exact of_decide_eq_true h1
theorem lt_of_heap {w : World} {b : Nat} {o : Obj} (h : w.heap[b]? = some o) : b < w.heap.size := by
 rcases Nat.lt_or_ge b w.heap.size with hlt | hge
 · exact hlt
 · rw [Array.getElem?_eq_none hge] at h; cases h

inductive On where
 | fin (n : Nat)
 | pw (e : On) (c : Nat) (r : On)
deriving DecidableEq

def On.exp : On → On
 | .fin _ => .fin 0
 | .pw e _ _ => e
def On.coef : On → Nat
 | .fin n => n
 | .pw _ c _ => c
def On.rest : On → On
 | .fin _ => .fin 0
 | .pw _ _ r => r
def cmpNt (a b : Nat) : Int := if a < b then -1 else if b < a then 1 else 0
def cmpE : On → On → Int
 | .fin a, .fin b => cmpNt a b
 | .fin _, .pw _ _ _ => -1
 | .pw _ _ _, .fin _ => 1
 | .pw e c r, .pw e' c' r' => next (cmpE e e') (next (cmpNt c c') (cmpE r r'))
def On.nf : On → Prop
 | .fin _ => True
 | .pw e c r => e.nf ∧ e ≠ .fin 0 ∧ 1 ≤ c ∧ r.nf ∧ cmpE r.exp e < 0
def On.ob : On → Ob
 | .fin n => .num (n : Rat)
 | .pw e c r => .cons (.cons e.ob (.num (c : Rat))) r.ob
def On.nd : On → Nat
 | .fin _ => 1
 | .pw e _ r => 3 + e.nd + r.nd
def On.bd (k : Nat) : On → Prop
 | .fin n => n ≤ k
 | .pw e c r => e.bd k ∧ c ≤ k ∧ r.bd k
inductive Sd where
 | mk (n : Int) (l : List Sd)

mutual
def Sd.cnt : Sd → Nat
 | .mk _ l => 1 + Sd.cnts l
def Sd.cnts : List Sd → Nat
 | [] => 0
 | r :: rs => r.cnt + Sd.cnts rs
end
mutual
def Sd.ok : Sd → Prop
 | .mk _ l => l.length ≤ 3 ∧ Sd.oks l
def Sd.oks : List Sd → Prop
 | [] => True
 | r :: rs => r.ok ∧ Sd.oks rs
end
def On.len : On → Nat
 | .fin _ => 0
 | .pw _ _ r => 1 + r.len
structure On.sm (a : On) (N L K : Nat) : Prop where
 nf : a.nf
 nd : a.nd ≤ N
 len : a.len ≤ L
 bd : a.bd K
/-- The world holds the object o, whose last field is p. -/
def Hd (w : World) (o : Ob) (p : Value) : Prop := Pair w (Has w) o p
/-- Block g is a box with these seven fields. -/
def Bx (W : World) (g : Nat) (x : Array Value) : Prop := W.heap[g]? = some (.cells x 33 (0, 0))
theorem Bx.below {W W' : World} {g B : Nat} {x : Array Value} (h : Bx W g x) (hb : Below B W W') (hg : g < B) : Bx W' g x := (hb.block g hg).trans h
theorem Bx.lt {W : World} {g : Nat} {x : Array Value} (h : Bx W g x) : g < W.heap.size := by
 rcases Nat.lt_or_ge g W.heap.size with hlt | hge
 · exact hlt
 · unfold Bx at h; rw [Array.getElem?_eq_none hge] at h; cases h
theorem Bx.keep {W W' : World} {g : Nat} {x : Array Value} (h : Bx W g x) (hb : Below W.heap.size W W') : Bx W' g x := h.below hb h.lt
theorem Bx.c {W : World} {g : Nat} {a0 a1 a2 a3 a4 a5 a6 : Value} (h : Bx W g #[a0, a1, a2, a3, a4, a5, a6]) :
 W.cell? ⟨g, 0, none⟩ = some a0 ∧ W.cell? ⟨g, 1, none⟩ = some a1 ∧ W.cell? ⟨g, 2, none⟩ = some a2 ∧ W.cell? ⟨g, 3, none⟩ = some a3 ∧ W.cell? ⟨g, 4, none⟩ = some a4 ∧ W.cell? ⟨g, 5, none⟩ = some a5 ∧ W.cell? ⟨g, 6, none⟩ = some a6 := (row7 h).1
def aO (w : World) (x : Array Value) : World := w.alloc (.cells x 33)
/-- One box, two, three, four, made one after another. -/
structure Bx1 (w W : World) (x0 : Array Value) : Prop where
 bel : Below w.heap.size w W
 b0 : Bx W w.heap.size x0
structure Bx2 (w W : World) (x0 x1 : Array Value) : Prop where
 bel : Below w.heap.size w W
 b0 : Bx W w.heap.size x0
 b1 : Bx W (w.heap.size + 1) x1
structure Bx3 (w W : World) (x0 x1 x2 : Array Value) : Prop where
 bel : Below w.heap.size w W
 b0 : Bx W w.heap.size x0
 b1 : Bx W (w.heap.size + 1) x1
 b2 : Bx W (w.heap.size + 1 + 1) x2
theorem vO_cells {o : Ob} {p x0 x1 x2 x3 x4 x5 : Value} (h : cellsO o p = [x0, x1, x2, x3, x4, x5, p]) : vO o p = .agg #[x0, x1, x2, x3, x4, x5, p] := by unfold vO; rw [h]
/-- The same under a guard that lets it run. -/
theorem loadG {ops : Array Oper} {rest : List Oper} {o : Oper} {a : Act} {w : World} {Q : Exit → Act → World → Prop} {g : Nat} {b : Ob} {p : Value} (x : Operand) (ho : o.op = .load 33 x) (hw : Region.wanted o (yielded ops a.tmps) = true)
 (hx : a.eval x = .pointer (some ⟨g, 0, none⟩)) (hb : Bx w g (cellsO b p).toArray)
 (h : wpList Tryz.prog ops Q rest (a.put o.dst (vO b p)) w) : wpList Tryz.prog ops Q (o :: rest) a w := by
 unfold wpList
 rw [if_pos hw]
 exact .inl (wp_load_row 33 x ho g hx _ _ _ _ hb Tryz.underlying33 rfl (by rw [List.size_toArray, cellsO_length]; kernel_rfl) h)
/-- The seven fields, each of its kind. -/
theorem cells_open {w : World} {S : Nat → Prop} {o : Ob} {p : Value} (h : Pair w S o p) : ∃ (k : Int) (s1 s2 s3 s4 s5 : ByteArray) (A : Option Addr) (n c : Nat),
 cellsO o p = [.int .i64 k, .string s1, .string s2, .string s3, .string s4, .string s5, .slice A n c] ∧ p = .slice A n c := by
 cases o with
 | num q => have e : p = .slice none 0 0 := h; subst e; exact ⟨_, _, _, _, _, _, _, _, _, rfl, rfl⟩
 | str s => have e : p = .slice none 0 0 := h; subst e; exact ⟨_, _, _, _, _, _, _, _, _, rfl, rfl⟩
 | sym x y => have e : p = .slice none 0 0 := h; subst e; exact ⟨_, _, _, _, _, _, _, _, _, rfl, rfl⟩
 | cons a d => obtain ⟨b, o, c, pa, pd, rfl, _⟩ := h; exact ⟨_, _, _, _, _, _, _, _, _, rfl, rfl⟩
theorem hI {p : Prop} (h : p) : Hid p := qh9 h
theorem lG {ops : Array Oper} {rest : List Oper} {o : Oper} {a : Act} {w : World} {Q : Exit → Act → World → Prop} {g : Nat} {b : Ob} {p : Value} (x : Operand) (hb : Bx w g (cellsO b p).toArray)
 (h : wpList Tryz.prog ops Q rest (a.put o.dst (vO b p)) w) (ho : o.op = .load 33 x := by with_unfolding_all rfl) (hw : Region.wanted o (yielded ops a.tmps) = true := by with_unfolding_all rfl)
 (hx : a.eval x = .pointer (some ⟨g, 0, none⟩) := by with_unfolding_all rfl) : wpList Tryz.prog ops Q (o :: rest) a w := loadG x ho hw hx hb h
theorem kB {W W' : World} {g : Nat} {x : Array Value} (h : Hid (Bx W g x)) (hb : Below W.heap.size W W') : Hid (Bx W' g x) := qh9 (h.out.keep hb)
abbrev Nm := ByteArray × ByteArray
inductive Tm where
 | var (s : Nm)
 | con (o : Ob)
 | app (s : Nm) (l : List Tm)

mutual
theorem Tm.ind {P : Tm → Prop} (hv : ∀ s, P (.var s)) (hc : ∀ o, P (.con o)) (ha : ∀ s l, (∀ t ∈ l, P t) → P (.app s l)) : ∀ t : Tm, P t
 | .var s => hv s
 | .con o => hc o
 | .app s l => ha s l (Tm.indL hv hc ha l)
theorem Tm.indL {P : Tm → Prop} (hv : ∀ s, P (.var s)) (hc : ∀ o, P (.con o)) (ha : ∀ s l, (∀ t ∈ l, P t) → P (.app s l)) : ∀ l : List Tm, ∀ t ∈ l, P t
 | [] => fun x h => by simp at h
 | t :: l => fun x h => (List.mem_cons.1 h).elim (fun e => e ▸ Tm.ind hv hc ha t) (fun h => Tm.indL hv hc ha l x h)
end
mutual
def Tm.nodes : Tm → Nat
 | .var _ => 1
 | .con o => o.nodes
 | .app _ l => 1 + Tm.nodesL l
def Tm.nodesL : List Tm → Nat
 | [] => 0
 | t :: l => t.nodes + Tm.nodesL l
end
mutual
def Tm.dep : Tm → Nat
 | .var _ => 1
 | .con _ => 1
 | .app _ l => 1 + Tm.depL l
def Tm.depL : List Tm → Nat
 | [] => 0
 | t :: l => max t.dep (Tm.depL l)
end
def Tm.kd : Tm → Int
 | .var _ => 1
 | .con _ => 2
 | .app _ _ => 3
def Tm.nm : Tm → Nm
 | .var s => s
 | .con _ => (⟨#[]⟩, ⟨#[]⟩)
 | .app s _ => s
def Tm.args : Tm → List Tm
 | .app _ l => l
 | _ => []
theorem Tm.nodes_pos (t : Tm) : 1 ≤ t.nodes := by
 cases t with
 | var s => unfold Tm.nodes; omega
 | con o => unfold Tm.nodes; cases o <;> (unfold Ob.nodes; omega)
 | app s l => unfold Tm.nodes; omega
theorem Tm.nodes_mem : ∀ {l : List Tm} {t : Tm}, t ∈ l → t.nodes ≤ Tm.nodesL l
 | x :: l, t, h => by
  unfold Tm.nodesL
  rcases List.mem_cons.1 h with h | h
  · rw [h]; omega
  · have := Tm.nodes_mem h; omega
theorem Tm.nodesL_len : ∀ l : List Tm, l.length ≤ Tm.nodesL l
 | [] => by simp [Tm.nodesL]
 | t :: l => by
  have := Tm.nodesL_len l
  have := t.nodes_pos
  simp only [Tm.nodesL, List.length_cons]; omega
theorem Tm.nodes_args (t : Tm) : 1 + Tm.nodesL t.args ≤ t.nodes := by
 cases t with
 | var s => simp [Tm.args, Tm.nodes, Tm.nodesL]
 | con o => have := Tm.nodes_pos (.con o); simp only [Tm.args, Tm.nodesL]; omega
 | app s l => simp [Tm.args, Tm.nodes]
theorem Tm.nodesL_drop {l : List Tm} {i : Nat} (hi : i < l.length) : Tm.nodesL (l.drop i) = l[i].nodes + Tm.nodesL (l.drop (i + 1)) := by rw [List.drop_eq_getElem_cons hi]; rfl
def zO : List Value := [.int .i64 0, .string ⟨#[]⟩, .string ⟨#[]⟩, .string ⟨#[]⟩, .string ⟨#[]⟩, .string ⟨#[]⟩, .slice none 0 0]
def cellsT (k : Int) (s : Nm) (v : List Value) (a : Value) : List Value := .int .i64 k :: .string s.1 :: .string s.2 :: (v ++ [a])
mutual
def TmAt (w : World) (S : Nat → Prop) : Tm → List Value → Prop
 | .var s, cs => cs = cellsT 1 s zO (.slice none 0 0)
 | .con o, cs => ∃ p, cs = cellsT 2 (⟨#[]⟩, ⟨#[]⟩) (cellsO o p) (.slice none 0 0) ∧ Pair w S o p
 | .app s l, cs => ∃ A c, cs = cellsT 3 s zO (.slice A l.length c) ∧ l.length ≤ c ∧ (0 < l.length → ∃ b o, A = some ⟨b, o, none⟩ ∧ (S b ∧ Plain w b) ∧ TmsAt w S b o l)
def TmsAt (w : World) (S : Nat → Prop) (b o : Nat) : List Tm → Prop
 | [] => True
 | t :: l => (∃ cs, TmAt w S t cs ∧ ∀ j u, cs[j]? = some u → w.cell? ⟨b, o + j, none⟩ = some u) ∧ TmsAt w S b (o + 11) l
end
def ArgsAt (w : World) (S : Nat → Prop) (l : List Tm) (A : Option Addr) (c : Nat) : Prop :=
 l.length ≤ c ∧ (0 < l.length → ∃ b o, A = some ⟨b, o, none⟩ ∧ (S b ∧ Plain w b) ∧ TmsAt w S b o l)
def TsV (w : World) (S : Nat → Prop) (l : List Tm) (v : Value) : Prop := ∃ A c, v = .slice A l.length c ∧ ArgsAt w S l A c
def ValAt (w : World) (S : Nat → Prop) (t : Tm) (v : List Value) : Prop := match t with
 | .con o => ∃ p, v = cellsO o p ∧ Pair w S o p
 | _ => v = zO
theorem cellsT_length {k : Int} {s : Nm} {v : List Value} {a : Value} (h : v.length = 7) : (cellsT k s v a).length = 11 := by simp [cellsT, h]
theorem ValAt.length {w : World} {S : Nat → Prop} {t : Tm} {v : List Value} (h : ValAt w S t v) : v.length = 7 := by
 cases t with
 | var s => have e : v = zO := h; subst e; rfl
 | con o => obtain ⟨p, rfl, _⟩ := h; exact cellsO_length o p
 | app s l => have e : v = zO := h; subst e; rfl
mutual
theorem TmAt.keep {w w' : World} {S S' : Nat → Prop} (hS : ∀ b, S b → S' b) (hk : ∀ b, S b → w'.heap[b]? = w.heap[b]?) : ∀ (t : Tm) (cs : List Value), TmAt w S t cs → TmAt w' S' t cs
 | .var s, cs, h => h
 | .con o, cs, h => by
  unfold TmAt at h ⊢
  obtain ⟨p, h1, h2⟩ := h
  exact ⟨p, h1, h2.keep hS hk⟩
 | .app s l, cs, h => by
  unfold TmAt at h ⊢
  obtain ⟨A, c, h1, h2, h3⟩ := h
  refine ⟨A, c, h1, h2, fun hl => ?_⟩
  obtain ⟨b, o, e, hb, hr⟩ := h3 hl
  exact ⟨b, o, e, ⟨hS b hb.1, hb.2.keep (hk b hb.1)⟩, TmsAt.keep hS hk b o hb.1 l hr⟩
theorem TmsAt.keep {w w' : World} {S S' : Nat → Prop} (hS : ∀ b, S b → S' b) (hk : ∀ b, S b → w'.heap[b]? = w.heap[b]?) (b o : Nat) (hb : S b) : ∀ l : List Tm, TmsAt w S b o l → TmsAt w' S' b o l
 | [], _ => by unfold TmsAt; trivial
 | t :: l, h => by
  unfold TmsAt at h ⊢
  obtain ⟨⟨cs, h1, h2⟩, h3⟩ := h
  exact ⟨⟨cs, TmAt.keep hS hk t cs h1, fun j u hj => (World.cell?_of_block (a := ⟨b, o + j, none⟩) (hk b hb)).trans (h2 j u hj)⟩, TmsAt.keep hS hk b (o + 11) hb l h3⟩
end
theorem TmAt.below {w w' : World} {S : Nat → Prop} {B : Nat} {t : Tm} {cs : List Value} (h : TmAt w S t cs) (hS : ∀ b, S b → b < B) (hb : Below B w w') : TmAt w' S t cs := TmAt.keep (fun _ h => h) (fun q hq => hb.block q (hS q hq)) t cs h
theorem TmAt.more {w : World} {S S' : Nat → Prop} {t : Tm} {cs : List Value} (h : TmAt w S t cs) (hS : ∀ b, S b → S' b) : TmAt w S' t cs := TmAt.keep hS (fun _ _ => rfl) t cs h
theorem ArgsAt.keep {w w' : World} {S S' : Nat → Prop} (hS : ∀ b, S b → S' b) (hk : ∀ b, S b → w'.heap[b]? = w.heap[b]?) {l : List Tm} {A : Option Addr} {c : Nat} (h : ArgsAt w S l A c) : ArgsAt w' S' l A c :=
 ⟨h.1, fun hl => by
  obtain ⟨b, o, e, hb, hr⟩ := h.2 hl
  exact ⟨b, o, e, ⟨hS b hb.1, hb.2.keep (hk b hb.1)⟩, TmsAt.keep hS hk b o hb.1 l hr⟩⟩
theorem ArgsAt.below {w w' : World} {S : Nat → Prop} {B : Nat} {l : List Tm} {A : Option Addr} {c : Nat} (h : ArgsAt w S l A c) (hS : ∀ b, S b → b < B) (hb : Below B w w') : ArgsAt w' S l A c := h.keep (fun _ h => h) fun q hq => hb.block q (hS q hq)
theorem ArgsAt.more {w : World} {S S' : Nat → Prop} {l : List Tm} {A : Option Addr} {c : Nat} (h : ArgsAt w S l A c) (hS : ∀ b, S b → S' b) : ArgsAt w S' l A c := h.keep hS fun _ _ => rfl
theorem TsV.keep {w w' : World} {S S' : Nat → Prop} (hS : ∀ b, S b → S' b) (hk : ∀ b, S b → w'.heap[b]? = w.heap[b]?) {l : List Tm} {v : Value} (h : TsV w S l v) : TsV w' S' l v := by
 obtain ⟨A, c, h1, h2⟩ := h
 exact ⟨A, c, h1, h2.keep hS hk⟩
theorem TsV.below {w w' : World} {S : Nat → Prop} {B : Nat} {l : List Tm} {v : Value} (h : TsV w S l v) (hS : ∀ b, S b → b < B) (hb : Below B w w') : TsV w' S l v := h.keep (fun _ h => h) fun q hq => hb.block q (hS q hq)
theorem TsV.more {w : World} {S S' : Nat → Prop} {l : List Tm} {v : Value} (h : TsV w S l v) (hS : ∀ b, S b → S' b) : TsV w S' l v := h.keep hS fun _ _ => rfl
theorem TmAt.open {w : World} {S : Nat → Prop} {t : Tm} {cs : List Value} (h : TmAt w S t cs) : ∃ v A c, cs = cellsT t.kd t.nm v (.slice A t.args.length c) ∧ ValAt w S t v ∧ ArgsAt w S t.args A c := by
 cases t with
 | var s => exact ⟨zO, none, 0, h, rfl, Nat.le_refl _, fun h => by simp [Tm.args] at h⟩
 | con o =>
  unfold TmAt at h
  obtain ⟨p, h1, h2⟩ := h
  exact ⟨_, none, 0, h1, ⟨p, rfl, h2⟩, Nat.le_refl _, fun h => by simp [Tm.args] at h⟩
 | app s l =>
  unfold TmAt at h
  obtain ⟨A, c, h1, h2, h3⟩ := h
  exact ⟨zO, A, c, h1, rfl, h2, h3⟩
theorem tmAt_var {w : World} {S : Nat → Prop} {s : Nm} : TmAt w S (.var s) (cellsT 1 s zO (.slice none 0 0)) := by unfold TmAt; rfl
theorem tmAt_con {w : World} {S : Nat → Prop} {o : Ob} {p : Value} (h : Pair w S o p) : TmAt w S (.con o) (cellsT 2 (⟨#[]⟩, ⟨#[]⟩) (cellsO o p) (.slice none 0 0)) := by unfold TmAt; exact ⟨p, rfl, h⟩
theorem tmAt_app {w : World} {S : Nat → Prop} {s : Nm} {l : List Tm} {v : Value} (h : TsV w S l v) : TmAt w S (.app s l) (cellsT 3 s zO v) := by
 obtain ⟨A, c, rfl, h⟩ := h
 unfold TmAt; exact ⟨A, c, rfl, h⟩
theorem TmAt.length {w : World} {S : Nat → Prop} {t : Tm} {cs : List Value} (h : TmAt w S t cs) : cs.length = 11 := by
 obtain ⟨v, A, c, rfl, hv, _⟩ := h.open
 exact cellsT_length hv.length
theorem ValAt.one {w : World} {S : Nat → Prop} {t : Tm} {v : List Value} (h : ValAt w S t v) : ∀ u ∈ v, u.oneCell' = true := by
 cases t with
 | var s => have e : v = zO := h; subst e; simp [zO, Value.oneCell']
 | con o =>
  obtain ⟨p, rfl, hp⟩ := h
  have := hp.one
  intro u hu
  rw [Array.all_eq_true_iff_forall_mem] at this
  exact this u (by simpa using hu)
 | app s l => have e : v = zO := h; subst e; simp [zO, Value.oneCell']
theorem TmAt.one {w : World} {S : Nat → Prop} {t : Tm} {cs : List Value} (h : TmAt w S t cs) : ∀ u ∈ cs, u.oneCell' = true := by
 obtain ⟨v, A, c, rfl, hv, _⟩ := h.open
 have h1 := hv.one
 intro u hu
 simp only [cellsT, List.mem_cons, List.mem_append, List.not_mem_nil, or_false] at hu
 rcases hu with rfl | rfl | rfl | hu | rfl
 · rfl
 · rfl
 · rfl
 · exact h1 u hu
 · rfl
theorem TmsAt.get {w : World} {S : Nat → Prop} {b : Nat} : ∀ {l : List Tm} {o i : Nat} (hi : i < l.length), TmsAt w S b o l → ∃ cs, TmAt w S l[i] cs ∧ ∀ j u, cs[j]? = some u → w.cell? ⟨b, o + i * 11 + j, none⟩ = some u
 | t :: l, o, 0, hi, h => by
  unfold TmsAt at h
  obtain ⟨cs, h1, h2⟩ := h.1
  exact ⟨cs, h1, fun j u hj => by rw [Nat.zero_mul, Nat.add_zero]; exact h2 j u hj⟩
 | t :: l, o, i + 1, hi, h => by
  unfold TmsAt at h
  obtain ⟨cs, h1, h2⟩ := TmsAt.get (l := l) (o := o + 11) (i := i) (by simpa using hi) h.2
  exact ⟨cs, h1, fun j u hj => by rw [show o + (i + 1) * 11 + j = o + 11 + i * 11 + j from by omega]; exact h2 j u hj⟩
theorem TmsAt.of {w : World} {S : Nat → Prop} {b : Nat} : ∀ (l : List Tm) (o : Nat), (∀ i (hi : i < l.length), ∃ cs, TmAt w S l[i] cs ∧ ∀ j u, cs[j]? = some u → w.cell? ⟨b, o + i * 11 + j, none⟩ = some u) → TmsAt w S b o l
 | [], o, _ => by unfold TmsAt; trivial
 | t :: l, o, h => by
  unfold TmsAt
  refine ⟨?_, TmsAt.of l (o + 11) fun i hi => ?_⟩
  · obtain ⟨cs, h1, h2⟩ := h 0 (by simp)
    exact ⟨cs, h1, fun j u hj => by have := h2 j u hj; rwa [Nat.zero_mul, Nat.add_zero] at this⟩
  · obtain ⟨cs, h1, h2⟩ := h (i + 1) (by simpa using hi)
    exact ⟨cs, h1, fun j u hj => by rw [show o + 11 + i * 11 + j = o + (i + 1) * 11 + j from by omega]; exact h2 j u hj⟩
def TmP (w : World) (S : Nat → Prop) (t : Tm) (b k : Nat) (cs : List Value) : Prop := (S b ∧ Plain w b) ∧ TmAt w S t cs ∧ ∀ j u, cs[j]? = some u → w.cell? ⟨b, k + j, none⟩ = some u
theorem TmP.keep {w w' : World} {S S' : Nat → Prop} (hS : ∀ b, S b → S' b) (hk : ∀ b, S b → w'.heap[b]? = w.heap[b]?) {t : Tm} {b k : Nat} {cs : List Value} (h : TmP w S t b k cs) : TmP w' S' t b k cs :=
 ⟨⟨hS b h.1.1, h.1.2.keep (hk b h.1.1)⟩, TmAt.keep hS hk t cs h.2.1, fun j u hj => (World.cell?_of_block (a := ⟨b, k + j, none⟩) (hk b h.1.1)).trans (h.2.2 j u hj)⟩
theorem TmP.below {w w' : World} {S : Nat → Prop} {B : Nat} {t : Tm} {b k : Nat} {cs : List Value} (h : TmP w S t b k cs) (hS : ∀ b, S b → b < B) (hb : Below B w w') : TmP w' S t b k cs := h.keep (fun _ h => h) fun q hq => hb.block q (hS q hq)
theorem TmP.more {w : World} {S S' : Nat → Prop} {t : Tm} {b k : Nat} {cs : List Value} (h : TmP w S t b k cs) (hS : ∀ b, S b → S' b) : TmP w S' t b k cs := h.keep hS fun _ _ => rfl
theorem ArgsAt.arg {w : World} {S : Nat → Prop} {l : List Tm} {A : Option Addr} {c i : Nat} (h : ArgsAt w S l A c) (hi : i < l.length) : ∃ b o cs, A = some ⟨b, o, none⟩ ∧ TmP w S l[i] b (o + i * 11) cs := by
 obtain ⟨b, o, e, hb, hr⟩ := h.2 (by omega)
 obtain ⟨cs, h1, h2⟩ := hr.get hi
 exact ⟨b, o, cs, e, hb, h1, h2⟩
theorem TmP.cells {w : World} {S : Nat → Prop} {t : Tm} {b k : Nat} {cs : List Value} (h : TmP w S t b k cs) : ∃ x0 x1 x2 x3 x4 x5 x6 A c, cs = [.int .i64 t.kd, .string t.nm.1, .string t.nm.2, x0, x1, x2, x3, x4, x5, x6, .slice A t.args.length c] ∧
 ValAt w S t [x0, x1, x2, x3, x4, x5, x6] ∧ ArgsAt w S t.args A c ∧
 w.cell? ⟨b, k, none⟩ = some (.int .i64 t.kd) ∧ w.cell? ⟨b, k + 1, none⟩ = some (.string t.nm.1) ∧ w.cell? ⟨b, k + 2, none⟩ = some (.string t.nm.2) ∧ w.cell? ⟨b, k + 3, none⟩ = some x0 ∧ w.cell? ⟨b, k + 4, none⟩ = some x1 ∧ w.cell? ⟨b, k + 5, none⟩ = some x2 ∧ w.cell? ⟨b, k + 6, none⟩ = some x3 ∧ w.cell? ⟨b, k + 7, none⟩ = some x4 ∧ w.cell? ⟨b, k + 8, none⟩ = some x5 ∧ w.cell? ⟨b, k + 9, none⟩ = some x6 ∧ w.cell? ⟨b, k + 10, none⟩ = some (.slice A t.args.length c) := by
 obtain ⟨_, h1, h2⟩ := h
 obtain ⟨v, A, c, rfl, hv, ha⟩ := h1.open
 have hl := hv.length
 match v, hl, hv, h2 with
 | [x0, x1, x2, x3, x4, x5, x6], _, hv, h2 =>
  exact ⟨x0, x1, x2, x3, x4, x5, x6, A, c, rfl, hv, ha, h2 0 _ rfl, h2 1 _ rfl, h2 2 _ rfl, h2 3 _ rfl, h2 4 _ rfl, h2 5 _ rfl, h2 6 _ rfl, h2 7 _ rfl, h2 8 _ rfl, h2 9 _ rfl, h2 10 _ rfl⟩
theorem TmAt.eleven {w : World} {S : Nat → Prop} {t : Tm} {cs : List Value} (h : TmAt w S t cs) : ∃ x0 x1 x2 x3 x4 x5 x6 A c, cs = [.int .i64 t.kd, .string t.nm.1, .string t.nm.2, x0, x1, x2, x3, x4, x5, x6, .slice A t.args.length c] ∧
 ValAt w S t [x0, x1, x2, x3, x4, x5, x6] ∧ ArgsAt w S t.args A c := by
 obtain ⟨v, A, c, rfl, hv, ha⟩ := h.open
 have hl := hv.length
 match v, hl, hv with
 | [x0, x1, x2, x3, x4, x5, x6], _, hv => exact ⟨x0, x1, x2, x3, x4, x5, x6, A, c, rfl, hv, ha⟩
def TB (W : World) (g : Nat) (cs : List Value) : Prop := W.heap[g]? = some (.cells cs.toArray 35 (0, 0))
theorem TB.lt {W : World} {g : Nat} {cs : List Value} (h : TB W g cs) : g < W.heap.size := by
 rcases Nat.lt_or_ge g W.heap.size with hlt | hge
 · exact hlt
 · unfold TB at h; rw [Array.getElem?_eq_none hge] at h; cases h
theorem TB.below {W W' : World} {g B : Nat} {cs : List Value} (h : TB W g cs) (hb : Below B W W') (hg : g < B) : TB W' g cs := (hb.block g hg).trans h
theorem TB.keep {W W' : World} {g : Nat} {cs : List Value} (h : TB W g cs) (hb : Below W.heap.size W W') : TB W' g cs := h.below hb h.lt
theorem TB.new (w : World) (cs : List Value) : TB (w.alloc (.cells cs.toArray 35)) w.heap.size cs := heap_alloc_new w _
theorem TB.cell {W : World} {g : Nat} {cs : List Value} (h : TB W g cs) (j : Nat) (u : Value) (hj : cs[j]? = some u) : W.cell? ⟨g, 0 + j, none⟩ = some u := by
 rw [Nat.zero_add, cell_of_row _ _ _ _ _ _ h, ← hj]
 simp
theorem TB.p {W : World} {S : Nat → Prop} {g : Nat} {t : Tm} {cs : List Value} (h : TB W g cs) (ht : TmAt W S t cs) (hg : S g) : TmP W S t g 0 cs := ⟨⟨hg, _, _, h⟩, ht, h.cell⟩
theorem below_alT (w : World) (x : Obj) : Below w.heap.size w (w.alloc x) := Below.alloc (Below.refl _ _) (Nat.le_refl _) _
theorem below_dn (w : World) (n : Nat) : Below w.heap.size w (w.drewN n) := ⟨rfl, rfl, rfl, Nat.le_refl _, fun _ _ => rfl⟩
def vTm (cs : List Value) : Value := .agg cs.toArray
def RetT (w : World) (S : Nat → Prop) (t : Tm) (e : Ending) (w' : World) : Prop := ∃ cs, e = .returned (vTm cs) ∧ TmAt w' (Upto w w' S) t cs ∧ Below w.heap.size w w'
def RetTB (w : World) (S : Nat → Prop) (t : Tm) (r : Bool) (e : Ending) (w' : World) : Prop := ∃ cs, e = .returned (.tuple #[vTm cs, .bool r]) ∧ TmAt w' (Upto w w' S) t cs ∧ Below w.heap.size w w'
theorem retTb {fn : Func} {p : Tmp} {Q : Ending → World → Prop} {tmps : Array Value} {w : World} {g : Nat} {cs : List Value}
 (h : fn.results = #[.cell p 35]) (hp : tmps.getD p undef = .pointer (some ⟨g, 0, none⟩)) (hg : TB w g cs) (hs : cs.length = 11)
 (hQ : Q (.returned (vTm cs)) w) : bodyPost Tryz.prog fn Q Exit.ret ⟨tmps, []⟩ w :=
 bodyPost_ret (results_cell_row h tmps w g _ _ _ _ hp hg Tryz.underlying35 rfl (by rw [List.size_toArray, hs]; kernel_rfl)) rfl hQ
theorem TB.run {w : World} {g : Nat} {cs : List Value} (hg : TB w g cs) (hs : cs.length = 11) : (loadVar 35 ⟨g, 0, none⟩).run Tryz.prog w = .ok (vTm cs) w :=
 run_loadVar_row w g 35 35 cs.toArray (0, 0) _ hg Tryz.underlying35 rfl (by rw [List.size_toArray, hs]; kernel_rfl)
theorem retTbx {fn : Func} {r0 r1 : Tmp} {tmps : Array Value} {w : World} {g : Nat} {cs : List Value} {x : Value} {Q : Ending → World → Prop} (h : fn.results = #[.cell r0 35, .tmp r1]) (h0 : tmps.getD r0 undef = .pointer (some ⟨g, 0, none⟩)) (h1 : tmps.getD r1 undef = x)
 (hg : TB w g cs) (hs : cs.length = 11) (hQ : Q (.returned (.tuple #[vTm cs, x])) w) : bodyPost Tryz.prog fn Q Exit.ret ⟨tmps, []⟩ w := by
 subst h1
 have h0' : tmps[r0]?.getD undef = .pointer (some ⟨g, 0, none⟩) := by simpa using h0
 exact bodyPost_ret (v := .tuple #[vTm cs, tmps.getD r1 undef]) (by simp [results, h, h0', asAddr, hg.run hs]) rfl hQ
theorem loadTb {ops : Array Oper} {rest : List Oper} {o : Oper} {a : Act} {w : World} {Q : Exit → Act → World → Prop} {g : Nat} {cs : List Value} (x : Operand) (ho : o.op = .load 35 x) (hgd : o.guard = none)
 (hx : a.eval x = .pointer (some ⟨g, 0, none⟩)) (hb : TB w g cs) (hs : cs.length = 11)
 (h : wpList Tryz.prog ops Q rest (a.put o.dst (vTm cs)) w) : wpList Tryz.prog ops Q (o :: rest) a w :=
 wpList_load_row hgd 35 x ho g hx _ _ _ _ hb Tryz.underlying35 rfl (by rw [List.size_toArray, hs]; kernel_rfl) h
theorem loadTg {ops : Array Oper} {rest : List Oper} {o : Oper} {a : Act} {w : World} {Q : Exit → Act → World → Prop} {g : Nat} {cs : List Value} (x : Operand) (ho : o.op = .load 35 x) (hw : Region.wanted o (yielded ops a.tmps) = true)
 (hx : a.eval x = .pointer (some ⟨g, 0, none⟩)) (hb : TB w g cs) (hs : cs.length = 11)
 (h : wpList Tryz.prog ops Q rest (a.put o.dst (vTm cs)) w) : wpList Tryz.prog ops Q (o :: rest) a w := by
 unfold wpList
 rw [if_pos hw]
 exact .inl (wp_load_row 35 x ho g hx _ _ _ _ hb Tryz.underlying35 rfl (by rw [List.size_toArray, hs]; kernel_rfl) h)
theorem storeTb {ops : Array Oper} {rest : List Oper} {o : Oper} {a : Act} {w : World} {Q : Exit → Act → World → Prop} {g : Nat} {cs old : List Value} (x y : Operand) (ho : o.op = .store 35 x y) (hgd : o.guard = none)
 (hx : a.eval x = .pointer (some ⟨g, 0, none⟩)) (hy : a.eval y = vTm cs) (hg : TB w g old) (hold : old.length = 11) (hs : cs.length = 11) (h1 : ∀ u ∈ cs, u.oneCell' = true)
 (h : wpList Tryz.prog ops Q rest (a.put o.dst undef) (w.setRow g cs.toArray)) : wpList Tryz.prog ops Q (o :: rest) a w :=
 wpList_store_row hgd 35 x y ho g _ hx hy _ _ hg (by rw [List.size_toArray, hs]; kernel_rfl) (by rw [List.size_toArray, List.size_toArray, hs, hold]) (by rw [Array.all_eq_true_iff_forall_mem]; intro u hu; exact h1 u (by simpa using hu)) h
theorem TB.set {W : World} {g : Nat} {cs : List Value} (h : TB W g cs) (cs' : List Value) : TB (W.setRow g cs'.toArray) g cs' := setRow_heap _ _ _ _ _ _ h
theorem TB.other {W : World} {g k : Nat} {cs : List Value} {x : Array Value} (h : TB W g cs) (hk : g ≠ k) : TB (W.setRow k x) g cs := (setRow_other W k g x hk).trans h
def zT : List Value := [.int .i64 0, .string ⟨#[]⟩, .string ⟨#[]⟩, .int .i64 0, .string ⟨#[]⟩, .string ⟨#[]⟩, .string ⟨#[]⟩, .string ⟨#[]⟩, .string ⟨#[]⟩, .slice none 0 0, .slice none 0 0]
theorem infoT : ∃ i, Tryz.prog.info? 35 = some i ∧ i.zero = some (.agg #[.int .i64 0, .string ⟨#[]⟩, .string ⟨#[]⟩, .int .i64 0, .string ⟨#[]⟩, .string ⟨#[]⟩, .string ⟨#[]⟩, .string ⟨#[]⟩, .string ⟨#[]⟩, .slice none 0 0, .slice none 0 0]) ∧ i.size = 11 ∧ i.bytes = 176 := info_of (P := Tryz.prog) (t := 35) (z := .agg #[.int .i64 0, .string ⟨#[]⟩, .string ⟨#[]⟩, .int .i64 0, .string ⟨#[]⟩, .string ⟨#[]⟩, .string ⟨#[]⟩, .string ⟨#[]⟩, .string ⟨#[]⟩, .slice none 0 0, .slice none 0 0]) (a := 11) (b := 176) (by kernel_rfl)
structure MkT (S0 : Nat → Prop) (W wr : World) (l : List Tm) (v : Value) (xs : List (List Value)) : Prop where
 len : xs.length = l.length
 own : wr.ownsRow W.heap.size 35 11 v l.length xs.flatten
 tms : ∀ i (hi : i < l.length) (hx : i < xs.length), TmAt wr (fun b => (S0 b ∨ W.heap.size ≤ b) ∧ b < wr.heap.size ∧ v.ownBlock ≠ some b) l[i] xs[i]
 bel : Below W.heap.size W wr
theorem MkT.start (S0 : Nat → Prop) (W : World) : MkT S0 W W [] (.slice none 0 0) [] :=
 ⟨rfl, ⟨rfl, .inl ⟨rfl, rfl⟩⟩, fun i hi => by simp at hi, Below.refl _ _⟩
theorem MkT.own3 {S0 : Nat → Prop} {W wo w3 : World} {l : List Tm} {v : Value} {xs : List (List Value)} (h : MkT S0 W wo l v xs) (hb : Below wo.heap.size wo w3) (x : Obj) : (w3.alloc x).ownsRow W.heap.size 35 11 v l.length xs.flatten :=
 own_keep h.own fun g hg => by
  have := (own_lt h.own g hg).2
  rw [Below.heap_alloc _ _ _ (by have := hb.size; omega)]
  exact hb.block g this
theorem MkT.below {S0 : Nat → Prop} {W wo w3 : World} {l : List Tm} {v : Value} {xs : List (List Value)} (h : MkT S0 W wo l v xs) (hb : Below wo.heap.size wo w3) : MkT S0 W w3 l v xs :=
 ⟨h.len, own_keep h.own fun g hg => hb.block g (own_lt h.own g hg).2, fun i hi hx => TmAt.keep (fun b hb' => ⟨hb'.1, Nat.lt_of_lt_of_le hb'.2.1 hb.size, hb'.2.2⟩) (fun b hb' => hb.block b hb'.2.1) _ _ (h.tms i hi hx), h.bel.trans (hb.mono h.bel.size)⟩
theorem MkT.step {S0 : Nat → Prop} {W wo w3 w4 : World} {l : List Tm} {v v' : Value} {xs : List (List Value)} (h : MkT S0 W wo l v xs) (hS : In S0 W) (hb : Below wo.heap.size wo w3) (x : Obj) {t : Tm} {cs : List Value}
 (hp : TmAt w3 (Upto wo w3 S0) t cs) (h4 : w4.ownsRow W.heap.size 35 11 v' (l.length + 1) (xs.flatten ++ cs)) (hg : (w3.alloc x).grownBy w4 v.ownBlock) (hat : v'.ownBlock = v.ownBlock ∨ v'.ownBlock = some (w3.alloc x).heap.size) :
 MkT S0 W w4 (l ++ [t]) v' (xs ++ [cs]) := by
 have hown := own_lt h.own
 have h34 := hg.size
 have hs3 := hb.size
 have hsW := h.bel.size
 simp only [World.size_alloc] at h34 hat
 have blk : ∀ b, b < w3.heap.size → v.ownBlock ≠ some b → w4.heap[b]? = w3.heap[b]? := fun b hb' hne =>
  (hg.block b (by simp; omega) (fun e => hne e.symm)).trans (Below.heap_alloc _ _ _ hb')
 have hne' : ∀ b, b < w3.heap.size → v.ownBlock ≠ some b → v'.ownBlock ≠ some b := fun b hb' hne e => by
  rcases hat with h0 | h0
  · exact hne (h0.symm.trans e)
  · rw [h0] at e
    have : w3.heap.size + 1 = b := by injection e
    omega
 refine ⟨by simp [h.len], by rw [List.flatten_append]; simpa using h4, fun i hi hx => ?_, ?_⟩
 · by_cases hil : i < l.length
   · have hix : i < xs.length := by rw [h.len]; exact hil
     rw [List.getElem_append_left hil, List.getElem_append_left hix]
     refine TmAt.keep (fun b hb' => ⟨hb'.1, by omega, hne' b (by omega) hb'.2.2⟩) (fun b hb' => ?_) _ _ (h.tms i hil hix)
     rw [blk b (by omega) hb'.2.2, hb.block b hb'.2.1]
   · have hie : i = l.length := by simp at hi; omega
     subst hie
     have e2 : (xs ++ [cs])[l.length] = cs := by simp [← h.len]
     have e1 : (l ++ [t])[l.length] = t := by simp
     rw [e1, e2]
     have hn : ∀ b, Upto wo w3 S0 b → (S0 b ∨ W.heap.size ≤ b) ∧ b < w3.heap.size ∧ v.ownBlock ≠ some b := fun b hb' => by
      rcases hb' with h0 | h0
      · have := hS b h0
        exact ⟨.inl h0, by omega, fun e => by have := (hown b e).1; omega⟩
      · exact ⟨.inr (by omega), h0.2, fun e => by have := (hown b e).2; omega⟩
     refine TmAt.keep (fun b hb' => ?_) (fun b hb' => ?_) _ _ hp
     · obtain ⟨h0, h1, h2⟩ := hn b hb'
       exact ⟨h0, by omega, hne' b h1 h2⟩
     · obtain ⟨h0, h1, h2⟩ := hn b hb'
       exact blk b h1 h2
 · have hb3 := h.bel.trans (hb.mono hsW)
   have hba := Below.alloc hb3 (by omega) x
   exact hba.grown hg hba.size (fun k hk => by have := (hown k hk).1; omega)
theorem flat11 : ∀ (xs : List (List Value)) (i j : Nat) (u : Value) (hi : i < xs.length), (∀ x ∈ xs, x.length = 11) → xs[i][j]? = some u → xs.flatten[i * 11 + j]? = some u
 | x :: xs, 0, j, u, _, hl, h => by
  rw [Nat.zero_mul, Nat.zero_add, List.flatten_cons]
  have hj : j < x.length := by
   rcases Nat.lt_or_ge j x.length with h1 | h1
   · exact h1
   · rw [List.getElem_cons_zero, List.getElem?_eq_none h1] at h; cases h
  rw [List.getElem?_append_left hj]
  exact h
 | x :: xs, i + 1, j, u, hi, hl, h => by
  have hx := hl x (by simp)
  rw [List.flatten_cons, List.getElem?_append_right (by rw [hx]; omega), hx, show (i + 1) * 11 + j - 11 = i * 11 + j from by omega]
  exact flat11 xs i j u (by simpa using hi) (fun y hy => hl y (by simp [hy])) (by simpa using h)
theorem MkT.l11 {S0 : Nat → Prop} {W wr : World} {l : List Tm} {v : Value} {xs : List (List Value)} (h : MkT S0 W wr l v xs) : ∀ x ∈ xs, x.length = 11 := fun x hx => by
 obtain ⟨i, hi, rfl⟩ := List.getElem_of_mem hx
 exact (h.tms i (by rw [← h.len]; exact hi) hi).length
theorem MkT.slice {S0 : Nat → Prop} {W wr : World} {l : List Tm} {v : Value} {xs : List (List Value)} (h : MkT S0 W wr l v xs) : TsV wr (Upto W wr S0) l v := by
 have ho := own_lt h.own
 have h11 := h.l11
 rcases h.own.2 with ⟨rfl, e⟩ | ⟨g, cap, cur, rfl, hb, hh, hn, _, hcs, hcur⟩
 · exact ⟨none, 0, by rw [e], by omega, fun h0 => by omega⟩
 · refine ⟨_, cap, rfl, hn, fun _ => ⟨g, 0, rfl, ⟨.inr (ho g rfl), _, _, hh⟩, TmsAt.of l 0 fun i hi => ?_⟩⟩
   have hix : i < xs.length := by rw [h.len]; exact hi
   refine ⟨xs[i], (h.tms i hi hix).more fun b hb' => ?_, fun j u hj => ?_⟩
   · rcases hb'.1 with h0 | h0
     · exact .inl h0
     · exact .inr ⟨h0, hb'.2.1⟩
   · have hf := flat11 xs i j u hix h11 hj
     rw [Nat.zero_add, cell_of_row _ _ _ _ _ _ hh]
     rw [← hcur] at hf
     rw [List.getElem?_take] at hf
     split at hf
     · simpa using hf
     · cases hf
def repl : List Value → Nat → List Value → List Value
 | cur, _, [] => cur
 | cur, k, v :: r => repl (cur.set k v) (k + 1) r
theorem repl_length : ∀ (cs cur : List Value) (k : Nat), (repl cur k cs).length = cur.length
 | [], _, _ => rfl
 | v :: r, cur, k => by unfold repl; rw [repl_length r]; simp
theorem repl_take : ∀ (cs cur : List Value) (k m : Nat), (repl cur k cs).take m = repl (cur.take m) k cs
 | [], _, _, _ => rfl
 | v :: r, cur, k, m => by unfold repl; rw [repl_take r, List.take_set]
theorem repl_mid : ∀ (cs p x r : List Value), x.length = cs.length → repl (p ++ x ++ r) p.length cs = p ++ cs ++ r
 | [], p, x, r, h => by
  have : x = [] := List.length_eq_zero_iff.1 (by simpa using h)
  subst this; rfl
 | v :: cs, p, [], r, h => by simp at h
 | v :: cs, p, y :: x, r, h => by
  unfold repl
  have e : (p ++ y :: x ++ r).set p.length v = (p ++ [v]) ++ x ++ r := by
   rw [List.append_assoc, List.set_append_right _ _ (Nat.le_refl _), Nat.sub_self]; simp
  rw [e]
  have := repl_mid cs (p ++ [v]) x r (by simpa using h)
  rw [List.length_append, List.length_singleton] at this
  rw [this]; simp
theorem flat_len : ∀ (xs : List (List Value)), (∀ x ∈ xs, x.length = 11) → xs.flatten.length = xs.length * 11
 | [], _ => rfl
 | x :: xs, h => by
  rw [List.flatten_cons, List.length_append, h x (by simp), flat_len xs (fun y hy => h y (by simp [hy])), List.length_cons]; omega
theorem repl_flat {xs : List (List Value)} {i : Nat} (hi : i < xs.length) (h : ∀ x ∈ xs, x.length = 11) {cs : List Value} (hc : cs.length = 11) : repl xs.flatten (i * 11) cs = (xs.set i cs).flatten := by
 have e1 : xs = xs.take i ++ xs[i] :: xs.drop (i + 1) := by rw [← List.drop_eq_getElem_cons hi, List.take_append_drop]
 have e2 : xs.set i cs = xs.take i ++ cs :: xs.drop (i + 1) := by
  rw [List.set_eq_take_append_cons_drop, if_pos hi]
 rw [e2]
 conv => lhs; rw [e1]
 rw [List.flatten_append, List.flatten_cons, List.flatten_append, List.flatten_cons]
 have hp : (xs.take i).flatten.length = i * 11 := by
  rw [flat_len _ (fun x hx => h x (List.mem_of_mem_take hx)), List.length_take]; congr 1; omega
 have := repl_mid cs (xs.take i).flatten xs[i] (xs.drop (i + 1)).flatten (by rw [h _ (List.getElem_mem hi), hc])
 rw [hp] at this
 simpa [List.append_assoc] using this
theorem setCells_row {g : Nat} {t : TypeId} : ∀ (cs : List Value) (k : Nat) (cur : List Value) (w : World), w.heap[g]? = some (.cells cur.toArray t (0, 0)) → w.setCells g k cs = w.setRow g (repl cur k cs).toArray
 | [], k, cur, w, hg => by
  unfold repl
  show w = _
  rw [setRow_self w g cur.toArray t (0, 0) hg]
 | v :: r, k, cur, w, hg => by
  unfold repl
  show ((w.setCell ⟨g, k, none⟩ v).setCells g (k + 1) r) = _
  have e := setCell_eq_setRow w g k cur.toArray t (0, 0) v hg
  have hg2 : (w.setCell ⟨g, k, none⟩ v).heap[g]? = some (.cells (cur.set k v).toArray t (0, 0)) := by
   rw [e]
   have := setRow_heap w g _ (cur.toArray.setIfInBounds k v) t _ hg
   simpa using this
  rw [setCells_row r (k + 1) (cur.set k v) _ hg2, e, setRow_setRow]
theorem MkT.block {S0 : Nat → Prop} {W wr : World} {l : List Tm} {v : Value} {xs : List (List Value)} (h : MkT S0 W wr l v xs) (hl : 0 < l.length) : ∃ g cap cur, v = .slice (some ⟨g, 0, none⟩) l.length cap ∧ W.heap.size ≤ g ∧ g < wr.heap.size ∧ wr.heap[g]? = some (.cells cur 35 (0, 0)) ∧ l.length ≤ cap ∧ cur.size = cap * 11 ∧ cur.toList.take (l.length * 11) = xs.flatten := by
 rcases h.own.2 with ⟨rfl, e⟩ | ⟨g, cap, cur, rfl, hb, hh, hn, _, hcs, hcur⟩
 · omega
 · exact ⟨g, cap, cur, rfl, hb, (own_lt h.own g rfl).2, hh, hn, hcs, hcur⟩
theorem MkT.set {S0 : Nat → Prop} {W wr : World} {l : List Tm} {xs : List (List Value)} {g cap : Nat} {cur : Array Value} (h : MkT S0 W wr l (.slice (some ⟨g, 0, none⟩) l.length cap) xs) (hg : wr.heap[g]? = some (.cells cur 35 (0, 0))) (hgW : W.heap.size ≤ g) {i : Nat} (hi : i < l.length) {t : Tm} {cs : List Value}
 (hcs : TmAt wr (fun b => (S0 b ∨ W.heap.size ≤ b) ∧ b < wr.heap.size ∧ b ≠ g) t cs) : MkT S0 W (wr.setCells g (i * 11) cs) (l.set i t) (.slice (some ⟨g, 0, none⟩) (l.set i t).length cap) (xs.set i cs) := by
 have h11 := h.l11
 have hix : i < xs.length := by rw [h.len]; exact hi
 have hcl := hcs.length
 have e := setCells_row (t := 35) cs (i * 11) cur.toList wr (by simpa using hg)
 rw [e]
 have hoth : ∀ b, b ≠ g → (wr.setRow g (repl cur.toList (i * 11) cs).toArray).heap[b]? = wr.heap[b]? := fun b hb => setRow_other wr g b _ hb
 have hsz : (wr.setRow g (repl cur.toList (i * 11) cs).toArray).heap.size = wr.heap.size := size_setRow _ _ _
 have hnew := setRow_heap wr g _ (repl cur.toList (i * 11) cs).toArray 35 _ hg
 have hne : ∀ b, Value.ownBlock (.slice (some ⟨g, 0, none⟩) l.length cap) ≠ some b → b ≠ g := fun b hb e => hb (by rw [e]; rfl)
 have hne' : ∀ b n, b ≠ g → Value.ownBlock (.slice (some ⟨g, 0, none⟩) n cap) ≠ some b := fun b n hb e => hb (by simpa [Value.ownBlock] using e.symm)
 rcases h.own with ⟨hfl, ⟨e1, e2⟩ | ⟨g', cap', cur', ev, hb', hh, hn, hmx, hcsz, hcur⟩⟩
 · omega
 have eg : g' = g ∧ cap' = cap := by
  injection ev with e1 e2 e3
  injection e1 with e1
  injection e1 with e1
  exact ⟨e1.symm, e3.symm⟩
 obtain ⟨rfl, rfl⟩ := eg
 have ec : cur' = cur := by
  rw [hg] at hh
  injection hh with hh
  injection hh with hh
  exact hh.symm
 subst ec
 refine ⟨by simp [h.len], ⟨?_, .inr ⟨g', cap', _, rfl, hb', hnew, by simpa using hn, hmx, ?_, ?_⟩⟩, fun j hj hx => ?_, ?_⟩
 · rw [← repl_flat hix h11 hcl, repl_length, hfl]; simp
 · rw [List.size_toArray, repl_length, Array.length_toList]; exact hcsz
 · rw [List.length_set]
   show (repl cur'.toList (i * 11) cs).take (l.length * 11) = _
   rw [repl_take, hcur, repl_flat hix h11 hcl]
 · have hj' : j < l.length := by simpa using hj
   have hx' : j < xs.length := by simpa using hx
   by_cases hij : i = j
   · subst hij
     rw [List.getElem_set_self, List.getElem_set_self]
     exact TmAt.keep (fun b hb => ⟨hb.1, by rw [hsz]; exact hb.2.1, hne' b _ hb.2.2⟩) (fun b hb => hoth b hb.2.2) _ _ hcs
   · rw [List.getElem_set_ne hij, List.getElem_set_ne hij]
     exact TmAt.keep (fun b hb => ⟨hb.1, by rw [hsz]; exact hb.2.1, hne' b _ (hne b hb.2.2)⟩) (fun b hb => hoth b (hne b hb.2.2)) _ _ (h.tms j hj' hx')
 · exact below_setRowO h.bel hgW _
theorem there_row {w : World} {g k n : Nat} {cur : Array Value} {t : TypeId} (hg : w.heap[g]? = some (.cells cur t (0, 0))) (hk : k + n ≤ cur.size) : w.there g k n := fun j hj => by
 refine ⟨?_, by simp [World.frozen?, hg]⟩
 rw [cell_of_row _ _ _ _ _ _ hg]
 have : k + j < cur.size := by omega
 simp [this]
theorem TmsAt.rows {w : World} {S : Nat → Prop} {b : Nat} : ∀ (l : List Tm) (o : Nat), TmsAt w S b o l → ∃ xs : List (List Value), xs.length = l.length ∧ (∀ i (hi : i < l.length) (hx : i < xs.length), TmAt w S l[i] xs[i]) ∧ ∀ j u, xs.flatten[j]? = some u → w.cell? ⟨b, o + j, none⟩ = some u
 | [], o, _ => ⟨[], rfl, fun i hi => by simp at hi, fun j u hj => by simp at hj⟩
 | t :: l, o, h => by
  unfold TmsAt at h
  obtain ⟨⟨cs, h1, h2⟩, h3⟩ := h
  obtain ⟨xs, k1, k2, k3⟩ := TmsAt.rows l (o + 11) h3
  refine ⟨cs :: xs, by simp [k1], fun i hi hx => ?_, fun j u hj => ?_⟩
  · cases i with
    | zero => exact h1
    | succ i => exact k2 i (by simpa using hi) (by simpa using hx)
  · rw [List.flatten_cons] at hj
    have hl := h1.length
    by_cases hj1 : j < 11
    · rw [List.getElem?_append_left (by omega)] at hj
      exact h2 j u hj
    · rw [List.getElem?_append_right (by omega), hl] at hj
      have := k3 _ u hj
      rwa [show o + 11 + (j - 11) = o + j from by omega] at this
def RetMk (w : World) (S : Nat → Prop) (l : List Tm) (e : Ending) (w' : World) : Prop := ∃ v xs, e = .returned v ∧ MkT S w w' l v xs
theorem eqNilT (A : Option Addr) (n c : Nat) (W : World) : (binOp .eql 30 (.slice A n c) (.slice none 0 0)).run Tryz.prog W = .ok (.bool A.isNone) W := by
 simp only [binOp]
 simp [run_equal_slice_nil W 30 35 A n c Tryz.underlying30]
theorem cloneT (l : List Tm) (A : Option Addr) (c : Nat) (w : World) (S : Nat → Prop) (hS : In S w) (h : ArgsAt w S l A c) (hn : l.length ≤ 3000) :
 Calls Tryz.prog 69 #[.slice A l.length c] w (RetMk w S l) := by
 have hlc := h.1
 cases A with
 | none =>
  have e0 : l = [] := by
   rcases Nat.eq_zero_or_pos l.length with h0 | h0
   · exact List.length_eq_zero_iff.1 h0
   · obtain ⟨b, o, e, _⟩ := h.2 h0; cases e
  subst e0
  have hse : ∀ W : World, (binOp .eql 30 (.slice none 0 c) (.slice none 0 0)).run Tryz.prog W = .ok (.bool true) W := fun W => eqNilT none 0 c W
  have HQ : Hid (RetMk w S [] (.returned (.slice none 0 0)) w) := ⟨_, [], rfl, MkT.start S w⟩
  clear h
  go_enter Tryz.func69, Tryz.ntmps69
  go_wp2
  go_ret
  exact HQ.out
 | some ad =>
  have hx : ∃ xs : List (List Value), xs.length = l.length ∧ (∀ i (hi : i < l.length) (hx : i < xs.length), TmAt w S l[i] xs[i]) ∧ ∀ j u, xs.flatten[j]? = some u → w.cell? (ad.add j) = some u := by
   by_cases h0 : 0 < l.length
   · obtain ⟨b, o, e, hb, hr⟩ := h.2 h0
     injection e with e
     subst e
     obtain ⟨xs, k1, k2, k3⟩ := hr.rows
     exact ⟨xs, k1, k2, fun j u hj => by rw [Addr.add_mid]; exact k3 j u hj⟩
   · have e0 : l = [] := List.length_eq_zero_iff.1 (by omega)
     subst e0
     exact ⟨[], rfl, fun i hi => by simp at hi, fun j u hj => by simp at hj⟩
  obtain ⟨xs, k1, k2, k3⟩ := hx
  have hxl : ∀ x ∈ xs, x.length = 11 := fun x hx => by
   obtain ⟨i, hi, rfl⟩ := List.getElem_of_mem hx
   exact (k2 i (by omega) hi).length
  have hfl : xs.flatten.length = l.length * 11 := by rw [flat_len xs hxl, k1]
  have hone : ∀ u ∈ xs.flatten, u.oneCell' = true := fun u hu => by
   obtain ⟨x, hx, hux⟩ := List.mem_flatten.1 hu
   obtain ⟨i, hi, rfl⟩ := List.getElem_of_mem hx
   exact (k2 i (by omega) hi).one u hux
  have hnews : ∀ j u, xs.flatten[j]? = some u → (w.alloc (.cells #[] 35)).cell? (ad.add j) = some u := fun j u hj => by
   have hc := k3 j u hj
   exact ((below_alT w (.cells #[] 35)).cell (World.block_lt_of_cell? w _ hc)).trans hc
  obtain ⟨i0, hi0, hz0, hz1, hz2⟩ := infoT
  have own0 : (w.alloc (.cells #[] 35)).ownsRow w.heap.size 35 11 (.slice (some ⟨w.heap.size, 0, none⟩) 0 0) 0 [] := ⟨rfl, .inr ⟨w.heap.size, 0, #[], rfl, Nat.le_refl _, heap_alloc_new w _, Nat.le_refl _, Nat.zero_le _, rfl, rfl⟩⟩
  have HQ : Hid (∀ v' w', w'.ownsRow w.heap.size 35 11 v' (0 + l.length) ([] ++ xs.flatten) → (w.alloc (.cells #[] 35)).grownBy w' (some w.heap.size) → RetMk w S l (.returned v') w') := fun v' w' ho hg => by
   have hb : Below w.heap.size w w' := (below_alT w _).grown hg (by simp) (fun k hk => by injection hk with hk; omega)
   refine ⟨v', xs, rfl, k1, by simpa using ho, fun i hi hx => ?_, hb⟩
   exact TmAt.keep (fun b hb' => ⟨.inl hb', by have := hS b hb'; have := hb.size; omega, fun e => by have := (own_lt ho b e).1; have := hS b hb'; omega⟩) (fun b hb' => hb.block b (hS b hb')) _ _ (k2 i hi hx)
  have HI0 := hI hi0
  have HZ0 := hI hz0
  have HZ1 := hI hz1
  have HZ2 := hI hz2
  have OWN := hI own0
  have HN := hI hnews
  have HO := hI hone
  have HF := hI hfl
  have hse : ∀ W : World, (binOp .eql 30 (.slice (some ad) l.length c) (.slice none 0 0)).run Tryz.prog W = .ok (.bool false) W := fun W => eqNilT (some ad) l.length c W
  clear h hi0 hz0 hz1 hz2 own0 hnews hone hfl k2 k3 k1
  generalize l.length = L at hn hlc HF HQ hse ⊢
  go_enter Tryz.func69, Tryz.ntmps69
  go_wp2_with (at_builtin; refine wpList_append_own_at _ rfl (.tmp 5) (.tmp 6) _ rfl w.heap.size 35 i0 _ 11 176 Tryz.underlying30 HI0.out HZ0.out HZ1.out HZ2.out rfl (by omega) (.slice (some ⟨w.heap.size, 0, none⟩) 0 0) 0 [] rfl OWN.out ad L c xs.flatten rfl HF.out HN.out HO.out (by simp only [maxLen]; omega) (by omega) (by simp) ?_; intro v4 w4 hown4 hg4 hnil4 hat4; have hst := hI (HQ.out v4 w4 hown4 hg4); clear hown4 hg4 hnil4 hat4)
  go_ret
  exact hst.out
section
variable {P : Program} {Q : Exit → Act → World → Prop} {ops : Array Oper} {K : Act → World → Prop} {a : Act} {w : World} {i : Nat} {o : Oper}
theorem gr_ext2 (ho : ops[i]? = some o) (hg : o.guard = none) (s : Tmp) (u v : Value) (hop : o.op = Op.extract (.tmp s) 0) (hx : a.tmps[s]? = some (.tuple #[u, v])) (hK : K (a.put o.dst u) w) : wpOp P ops Q i K a w :=
 wpOp_step ho fun K' hK' => by
  rw [if_pos (wanted_plain hg)]
  unfold Oper.wp
  simp only [execOp, hop]
  go_simp
  exact hK' _ _ hK
theorem gr_ext2' (ho : ops[i]? = some o) (hg : o.guard = none) (s : Tmp) (u v : Value) (hop : o.op = Op.extract (.tmp s) 1) (hx : a.tmps[s]? = some (.tuple #[u, v])) (hK : K (a.put o.dst v) w) : wpOp P ops Q i K a w :=
 wpOp_step ho fun K' hK' => by
  rw [if_pos (wanted_plain hg)]
  unfold Oper.wp
  simp only [execOp, hop]
  go_simp
  exact hK' _ _ hK
end

abbrev Lv := Value → Nat → Nat → World → Prop
def Mon (f : Lv) : Prop := ∀ (v : Value) (lo hi : Nat) (w w' : World), f v lo hi w → hi ≤ w.heap.size → Below w.heap.size w w' → f v lo hi w'
def LV (u : Value) : Lv := fun v _ _ _ => v = u
theorem mLV (u : Value) : Mon (LV u) := fun _ _ _ _ _ h _ _ => h
def Mons : List Lv → Prop
 | [] => True
 | f :: l => Mon f ∧ Mons l
def LR (l : List Lv) (i : Nat) : Lv := l.getD i (fun _ _ _ _ => True)
theorem LR_mono : ∀ {l : List Lv}, Mons l → ∀ (i : Nat) (x : Value) (l' m : Nat) (w w' : World), LR l i x l' m w → m ≤ w.heap.size → Below w.heap.size w w' → LR l i x l' m w'
 | [], _, i, x, l', m, w, w', h, _, _ => by unfold LR; simp
 | f :: l, ⟨hf, hl⟩, 0, x, l', m, w, w', h, hm, hb => hf x l' m w w' h hm hb
 | f :: l, ⟨hf, hl⟩, i + 1, x, l', m, w, w', h, hm, hb => LR_mono hl i x l' m w w' h hm hb
section
variable {Q : Exit → Act → World → Prop}
theorem set_getD {l : Array Bool} {i : Nat} : (l.setIfInBounds i true).getD i true = true := by
 rcases Nat.lt_or_ge i l.size with h' | h' <;> simp [h']
end
theorem alloc_setRow (w : World) (o : Obj) (g : Nat) (cs : Array Value) (h : g < w.heap.size) : (w.alloc o).setRow g cs = (w.setRow g cs).alloc o := by
 unfold World.setRow World.alloc
 congr 1
 apply Array.ext_getElem?
 intro k
 rw [Array.getElem?_modify]
 by_cases hk : g = k
 · subst hk
   rw [if_pos rfl, Array.getElem?_push, if_neg (by omega), Array.getElem?_push, if_neg (by rw [Array.size_modify]; omega), Array.getElem?_modify, if_pos rfl]
 · rw [if_neg hk, Array.getElem?_push, Array.getElem?_push, Array.size_modify]
   by_cases h2 : k = w.heap.size
   · rw [if_pos h2, if_pos h2]
   · rw [if_neg h2, if_neg h2, Array.getElem?_modify, if_neg hk]
def stW (f : Nat → Nat × Array Value) (w : World) : Nat → World
 | 0 => w
 | t + 1 => (stW f w t).setRow (f t).1 (f t).2
theorem stW_size (f : Nat → Nat × Array Value) (w : World) : ∀ t, (stW f w t).heap.size = w.heap.size
 | 0 => rfl
 | t + 1 => by show ((stW f w t).setRow _ _).heap.size = _; rw [size_setRow, stW_size f w t]
theorem stW_other (f : Nat → Nat × Array Value) (w : World) (b : Nat) : ∀ t, (∀ s, s < t → (f s).1 ≠ b) → (stW f w t).heap[b]? = w.heap[b]?
 | 0, _ => rfl
 | t + 1, h => by
  show ((stW f w t).setRow _ _).heap[b]? = _
  rw [setRow_other _ _ _ _ (fun e => h t (by omega) e.symm), stW_other f w b t (fun s hs => h s (by omega))]
theorem stW_alloc (f : Nat → Nat × Array Value) (w : World) (o : Obj) : ∀ t, (∀ s, s < t → (f s).1 < w.heap.size) → stW f (w.alloc o) t = (stW f w t).alloc o
 | 0, _ => rfl
 | t + 1, h => by
  show (stW f (w.alloc o) t).setRow _ _ = ((stW f w t).setRow _ _).alloc o
  rw [stW_alloc f w o t (fun s hs => h s (by omega)), alloc_setRow _ _ _ _ (by rw [stW_size]; exact h t (by omega))]
theorem stW_congr {f f' : Nat → Nat × Array Value} (w : World) : ∀ t, (∀ s, s < t → f s = f' s) → stW f w t = stW f' w t
 | 0, _ => rfl
 | t + 1, h => by
  show (stW f w t).setRow _ _ = (stW f' w t).setRow _ _
  rw [stW_congr w t (fun s hs => h s (by omega)), h t (by omega)]
section
variable {Q : Exit → Act → World → Prop}
end
section
variable {P : Program} {Q : Exit → Act → World → Prop} {ops : Array Oper} {K : Act → World → Prop} {a : Act} {w : World} {i : Nat} {o : Oper}
theorem wanted_g {og : Oper} {g : Nat} {b v : Bool} {s : Tmp} (hg : o.guard = some (g, b)) (ho : ops[g]? = some og) (hd : og.dst = some s) (hs : a.tmps[s]? = some (.bool v)) : Region.wanted o (yielded ops a.tmps) = (v == b) := by
 simp [Region.wanted, hg, yielded, ho, hd, hs]
theorem wanted_on {og : Oper} {g : Nat} {b v : Bool} {s : Tmp} (hg : o.guard = some (g, b)) (ho : ops[g]? = some og) (hd : og.dst = some s) (hs : a.tmps[s]? = some (.bool v)) (e : (v == b) = true) : Region.wanted o (yielded ops a.tmps) = true := (wanted_g hg ho hd hs).trans e
theorem wanted_off {og : Oper} {g : Nat} {b v : Bool} {s : Tmp} (hg : o.guard = some (g, b)) (ho : ops[g]? = some og) (hd : og.dst = some s) (hs : a.tmps[s]? = some (.bool v)) (e : (v == b) = false) : Region.wanted o (yielded ops a.tmps) = false := (wanted_g hg ho hd hs).trans e
theorem gw_skip (ho : ops[i]? = some o) (hw : Region.wanted o (yielded ops a.tmps) = false) (hK : K (a.put o.dst undef) w) : wpOp P ops Q i K a w :=
 wpOp_step ho fun K' hK' => by
  rw [if_neg (by rw [hw]; exact Bool.false_ne_true)]
  exact hK' _ _ hK
theorem gw_t (ho : ops[i]? = some o) (hw : Region.wanted o (yielded ops a.tmps) = true) (f : FuncId) (s0 : Tmp) (v0 : Value) (ts : Array TypeId) (hop : o.op = Op.call { callee := Callee.value (Operand.func f), args := #[.tmp s0], argTypes := ts }) (hf : ∀ (v0 : Value) (w : World), (callFunc f #[v0]).run P w = .ok (.enter f #[v0]) w)
 (h0 : a.tmps[s0]? = some v0)
 (hc : Calls P f #[v0] w fun e w' => ∃ r, e = .returned r ∧ K (a.put o.dst r) w') : wpOp P ops Q i K a w :=
 wpOp_step ho fun K' hK' => by
  rw [if_pos hw]
  unfold Oper.wp
  simp only [execOp, hop]
  go_simp
  refine hc.mono ?_
  rintro e w' ⟨r, rfl, h⟩
  exact hK' _ _ h
theorem gw_c (ho : ops[i]? = some o) (hw : Region.wanted o (yielded ops a.tmps) = true) (f : FuncId)  (v0 : Value) (ts : Array TypeId) (hop : o.op = Op.call { callee := Callee.value (Operand.func f), args := #[.const v0], argTypes := ts }) (hf : ∀ (v0 : Value) (w : World), (callFunc f #[v0]).run P w = .ok (.enter f #[v0]) w)

 (hc : Calls P f #[v0] w fun e w' => ∃ r, e = .returned r ∧ K (a.put o.dst r) w') : wpOp P ops Q i K a w :=
 wpOp_step ho fun K' hK' => by
  rw [if_pos hw]
  unfold Oper.wp
  simp only [execOp, hop]
  go_simp
  refine hc.mono ?_
  rintro e w' ⟨r, rfl, h⟩
  exact hK' _ _ h
theorem gw_tt (ho : ops[i]? = some o) (hw : Region.wanted o (yielded ops a.tmps) = true) (f : FuncId) (s0 : Tmp) (s1 : Tmp) (v0 v1 : Value) (ts : Array TypeId) (hop : o.op = Op.call { callee := Callee.value (Operand.func f), args := #[.tmp s0, .tmp s1], argTypes := ts }) (hf : ∀ (v0 v1 : Value) (w : World), (callFunc f #[v0, v1]).run P w = .ok (.enter f #[v0, v1]) w)
 (h0 : a.tmps[s0]? = some v0) (h1 : a.tmps[s1]? = some v1)
 (hc : Calls P f #[v0, v1] w fun e w' => ∃ r, e = .returned r ∧ K (a.put o.dst r) w') : wpOp P ops Q i K a w :=
 wpOp_step ho fun K' hK' => by
  rw [if_pos hw]
  unfold Oper.wp
  simp only [execOp, hop]
  go_simp
  refine hc.mono ?_
  rintro e w' ⟨r, rfl, h⟩
  exact hK' _ _ h
theorem gw_ttt (ho : ops[i]? = some o) (hw : Region.wanted o (yielded ops a.tmps) = true) (f : FuncId) (s0 : Tmp) (s1 : Tmp) (s2 : Tmp) (v0 v1 v2 : Value) (ts : Array TypeId) (hop : o.op = Op.call { callee := Callee.value (Operand.func f), args := #[.tmp s0, .tmp s1, .tmp s2], argTypes := ts }) (hf : ∀ (v0 v1 v2 : Value) (w : World), (callFunc f #[v0, v1, v2]).run P w = .ok (.enter f #[v0, v1, v2]) w)
 (h0 : a.tmps[s0]? = some v0) (h1 : a.tmps[s1]? = some v1) (h2 : a.tmps[s2]? = some v2)
 (hc : Calls P f #[v0, v1, v2] w fun e w' => ∃ r, e = .returned r ∧ K (a.put o.dst r) w') : wpOp P ops Q i K a w :=
 wpOp_step ho fun K' hK' => by
  rw [if_pos hw]
  unfold Oper.wp
  simp only [execOp, hop]
  go_simp
  refine hc.mono ?_
  rintro e w' ⟨r, rfl, h⟩
  exact hK' _ _ h
theorem gw_move (ho : ops[i]? = some o) (hw : Region.wanted o (yielded ops a.tmps) = true) (s : Tmp) (v : Value) (hop : o.op = Op.move (.tmp s)) (hx : a.tmps[s]? = some v) (hK : K (a.put o.dst v) w) : wpOp P ops Q i K a w :=
 wpOp_step ho fun K' hK' => by
  rw [if_pos hw]
  unfold Oper.wp
  simp only [execOp, hop]
  go_simp
  exact hK' _ _ hK
end
def LTm (w0 : World) (S : Nat → Prop) (t : Tm) : Lv := fun v _ _ w => w0.heap.size ≤ w.heap.size ∧ ∃ cs, v = vTm cs ∧ TmAt w (Upto w0 w S) t cs
def LTs (w0 : World) (S : Nat → Prop) (l : List Tm) : Lv := fun v _ _ w => w0.heap.size ≤ w.heap.size ∧ TsV w (Upto w0 w S) l v
theorem upto_more {w0 w w' : World} {S : Nat → Prop} (hs : w.heap.size ≤ w'.heap.size) (b : Nat) (h : Upto w0 w S b) : Upto w0 w' S b := by
 rcases h with h | ⟨h1, h2⟩
 · exact .inl h
 · exact .inr ⟨h1, Nat.lt_of_lt_of_le h2 hs⟩
theorem upto_lt {w0 w : World} {S : Nat → Prop} (hS : In S w0) (hs : w0.heap.size ≤ w.heap.size) (b : Nat) (h : Upto w0 w S b) : b < w.heap.size := by
 rcases h with h | ⟨h1, h2⟩
 · exact Nat.lt_of_lt_of_le (hS b h) hs
 · exact h2
theorem mLTm {w0 : World} {S : Nat → Prop} (hS : In S w0) (t : Tm) : Mon (LTm w0 S t) := fun _ _ _ _ _ ⟨h0, cs, h, k⟩ _ hb => ⟨Nat.le_trans h0 hb.size, cs, h, TmAt.keep (fun b hb' => upto_more hb.size b hb') (fun b hb' => hb.block b (upto_lt hS h0 b hb')) _ _ k⟩
theorem mLTs {w0 : World} {S : Nat → Prop} (hS : In S w0) (l : List Tm) : Mon (LTs w0 S l) := fun _ _ _ _ _ ⟨h0, h⟩ _ hb => ⟨Nat.le_trans h0 hb.size, h.keep (fun b hb' => upto_more hb.size b hb') (fun b hb' => hb.block b (upto_lt hS h0 b hb'))⟩
theorem varP (s : Nm) (w : World) (S : Nat → Prop) : Calls Tryz.prog 18 #[.agg #[.string s.1, .string s.2]] w (RetT w S (.var s)) := by
 go_enter Tryz.func18, Tryz.ntmps18
 go_wp2_with fail
 refine retTb (cs := [.int .i64 1, .string s.1, .string s.2, .int .i64 0, .string ⟨#[]⟩, .string ⟨#[]⟩, .string ⟨#[]⟩, .string ⟨#[]⟩, .string ⟨#[]⟩, .slice none 0 0, .slice none 0 0]) rfl rfl (heap_alloc2_new w _ _) rfl ⟨_, rfl, tmAt_var, ?_⟩
 exact Below.alloc (Below.alloc (Below.refl _ _) (Nat.le_refl _) _) (by simp) _
theorem varR (s : Nm) (w : World) (S : Nat → Prop) : Calls Tryz.prog 19 #[.agg #[.string s.1, .string s.2]] w (RetT w S (.var s)) := by
 go_enter Tryz.func19, Tryz.ntmps19
 go_wp2_with fail
 refine retTb (cs := [.int .i64 1, .string s.1, .string s.2, .int .i64 0, .string ⟨#[]⟩, .string ⟨#[]⟩, .string ⟨#[]⟩, .string ⟨#[]⟩, .string ⟨#[]⟩, .slice none 0 0, .slice none 0 0]) rfl rfl (heap_alloc2_new w _ _) rfl ⟨_, rfl, tmAt_var, ?_⟩
 exact Below.alloc (Below.alloc (Below.refl _ _) (Nat.le_refl _) _) (by simp) _
theorem conP (o : Ob) (p : Value) (w : World) (S : Nat → Prop) (hS : In S w) (h : Pair w S o p) : Calls Tryz.prog 20 #[vO o p] w (RetT w S (.con o)) := by
 obtain ⟨k, s1, s2, s3, s4, s5, A, n, c, e, ep⟩ := cells_open h
 have HQ : Hid (∀ w', Below w.heap.size w w' → RetT w S (.con o) (.returned (vTm [.int .i64 2, .string ⟨#[]⟩, .string ⟨#[]⟩, .int .i64 k, .string s1, .string s2, .string s3, .string s4, .string s5, .slice A n c, .slice none 0 0])) w') := fun w' hb => by
  refine ⟨_, rfl, ?_, hb⟩
  have := tmAt_con (w := w') (S := Upto w w' S) ((h.below hS hb).more fun b hb' => Or.inl hb')
  rwa [e] at this
 unfold vO
 rw [e]
 clear e h
 go_enter Tryz.func20, Tryz.ntmps20
 go_wp2_with fail
 refine retTb rfl rfl (heap_alloc2_new w _ _) rfl (HQ.out _ ?_)
 exact Below.alloc (Below.alloc (Below.refl _ _) (Nat.le_refl _) _) (by simp) _
theorem conR (o : Ob) (p : Value) (w : World) (S : Nat → Prop) (hS : In S w) (h : Pair w S o p) : Calls Tryz.prog 21 #[vO o p] w (RetT w S (.con o)) := by
 obtain ⟨k, s1, s2, s3, s4, s5, A, n, c, e, ep⟩ := cells_open h
 have HQ : Hid (∀ w', Below w.heap.size w w' → RetT w S (.con o) (.returned (vTm [.int .i64 2, .string ⟨#[]⟩, .string ⟨#[]⟩, .int .i64 k, .string s1, .string s2, .string s3, .string s4, .string s5, .slice A n c, .slice none 0 0])) w') := fun w' hb => by
  refine ⟨_, rfl, ?_, hb⟩
  have := tmAt_con (w := w') (S := Upto w w' S) ((h.below hS hb).more fun b hb' => Or.inl hb')
  rwa [e] at this
 unfold vO
 rw [e]
 clear e h
 go_enter Tryz.func21, Tryz.ntmps21
 go_wp2_with fail
 refine retTb rfl rfl (heap_alloc2_new w _ _) rfl (HQ.out _ ?_)
 exact Below.alloc (Below.alloc (Below.refl _ _) (Nat.le_refl _) _) (by simp) _
theorem appR (s : Nm) (l : List Tm) (v : Value) (w : World) (S : Nat → Prop) (hS : In S w) (h : TsV w S l v) : Calls Tryz.prog 23 #[.agg #[.string s.1, .string s.2], v] w (RetT w S (.app s l)) := by
 have h' := h
 obtain ⟨A, c, rfl, _⟩ := h'
 have HQ : Hid (∀ w', Below w.heap.size w w' → RetT w S (.app s l) (.returned (vTm [.int .i64 3, .string s.1, .string s.2, .int .i64 0, .string ⟨#[]⟩, .string ⟨#[]⟩, .string ⟨#[]⟩, .string ⟨#[]⟩, .string ⟨#[]⟩, .slice none 0 0, .slice A l.length c])) w') := fun w' hb => by
  exact ⟨_, rfl, tmAt_app ((h.below hS hb).more fun b hb' => Or.inl hb'), hb⟩
 clear h
 generalize l.length = L at *
 go_enter Tryz.func23, Tryz.ntmps23
 go_wp2_with fail
 refine retTb rfl rfl (heap_alloc2_new w _ _) rfl (HQ.out _ ?_)
 exact Below.alloc (Below.alloc (Below.refl _ _) (Nat.le_refl _) _) (by simp) _
theorem up3 {w W w9 w3 : World} {S : Nat → Prop} (h1 : Below w.heap.size w W) (h2 : Below W.heap.size W w9) (b : Nat) (h : Upto w9 w3 S b) : Upto w w3 S b := by
 rcases h with h | ⟨h3, h4⟩
 · exact .inl h
 · exact .inr ⟨Nat.le_trans (Nat.le_trans h1.size h2.size) h3, h4⟩
theorem appP (s : Nm) (l : List Tm) (v : Value) (w : World) (S : Nat → Prop) (hS : In S w) (h : TsV w S l v) (hn : l.length ≤ 3000) : Calls Tryz.prog 22 #[.agg #[.string s.1, .string s.2], v] w (RetT w S (.app s l)) := by
 obtain ⟨A, c, rfl, ha⟩ := h
 have hA : Below w.heap.size w ((w.alloc (.cells #[.string s.1, .string s.2] 23)).alloc (.cells #[.int .i64 0, .string ⟨#[]⟩, .string ⟨#[]⟩, .int .i64 0, .string ⟨#[]⟩, .string ⟨#[]⟩, .string ⟨#[]⟩, .string ⟨#[]⟩, .string ⟨#[]⟩, .slice none 0 0, .slice none 0 0] 35)) := Below.alloc (Below.alloc (Below.refl _ _) (Nat.le_refl _) _) (by simp) _
 have hz : ((w.alloc (.cells #[.string s.1, .string s.2] 23)).alloc (.cells #[.int .i64 0, .string ⟨#[]⟩, .string ⟨#[]⟩, .int .i64 0, .string ⟨#[]⟩, .string ⟨#[]⟩, .string ⟨#[]⟩, .string ⟨#[]⟩, .string ⟨#[]⟩, .slice none 0 0, .slice none 0 0] 35)).heap.size = w.heap.size + 2 := by simp
 have c0 : ((w.alloc (.cells #[.string s.1, .string s.2] 23)).alloc (.cells #[.int .i64 0, .string ⟨#[]⟩, .string ⟨#[]⟩, .int .i64 0, .string ⟨#[]⟩, .string ⟨#[]⟩, .string ⟨#[]⟩, .string ⟨#[]⟩, .string ⟨#[]⟩, .slice none 0 0, .slice none 0 0] 35)).cell? ⟨w.heap.size, 0, none⟩ = some (.string s.1) := by rw [cell_of_row _ _ _ _ _ _ (heap_alloc2_old w _ _)]; rfl
 have c1 : ((w.alloc (.cells #[.string s.1, .string s.2] 23)).alloc (.cells #[.int .i64 0, .string ⟨#[]⟩, .string ⟨#[]⟩, .int .i64 0, .string ⟨#[]⟩, .string ⟨#[]⟩, .string ⟨#[]⟩, .string ⟨#[]⟩, .string ⟨#[]⟩, .slice none 0 0, .slice none 0 0] 35)).cell? ⟨w.heap.size, 1, none⟩ = some (.string s.2) := by rw [cell_of_row _ _ _ _ _ _ (heap_alloc2_old w _ _)]; rfl
 have B1 : TB ((w.alloc (.cells #[.string s.1, .string s.2] 23)).alloc (.cells #[.int .i64 0, .string ⟨#[]⟩, .string ⟨#[]⟩, .int .i64 0, .string ⟨#[]⟩, .string ⟨#[]⟩, .string ⟨#[]⟩, .string ⟨#[]⟩, .string ⟨#[]⟩, .slice none 0 0, .slice none 0 0] 35)) (w.heap.size + 1) [.int .i64 0, .string ⟨#[]⟩, .string ⟨#[]⟩, .int .i64 0, .string ⟨#[]⟩, .string ⟨#[]⟩, .string ⟨#[]⟩, .string ⟨#[]⟩, .string ⟨#[]⟩, .slice none 0 0, .slice none 0 0] := heap_alloc2_new w _ _
 have CLN : Hid (∀ W, Below ((w.alloc (.cells #[.string s.1, .string s.2] 23)).alloc (.cells #[.int .i64 0, .string ⟨#[]⟩, .string ⟨#[]⟩, .int .i64 0, .string ⟨#[]⟩, .string ⟨#[]⟩, .string ⟨#[]⟩, .string ⟨#[]⟩, .string ⟨#[]⟩, .slice none 0 0, .slice none 0 0] 35)).heap.size ((w.alloc (.cells #[.string s.1, .string s.2] 23)).alloc (.cells #[.int .i64 0, .string ⟨#[]⟩, .string ⟨#[]⟩, .int .i64 0, .string ⟨#[]⟩, .string ⟨#[]⟩, .string ⟨#[]⟩, .string ⟨#[]⟩, .string ⟨#[]⟩, .slice none 0 0, .slice none 0 0] 35)) W → Calls Tryz.prog 69 #[.slice A l.length c] W (RetMk W S l)) := fun W hw => cloneT l A c W S (hS.later (Nat.le_trans hA.size hw.size)) (ha.below hS (hA.trans (hw.mono hA.size))) hn
 have HA := hI hA
 have HS0 := hI c0
 have HS1 := hI c1
 have HSl : Hid (w.heap.size < ((w.alloc (.cells #[.string s.1, .string s.2] 23)).alloc (.cells #[.int .i64 0, .string ⟨#[]⟩, .string ⟨#[]⟩, .int .i64 0, .string ⟨#[]⟩, .string ⟨#[]⟩, .string ⟨#[]⟩, .string ⟨#[]⟩, .string ⟨#[]⟩, .slice none 0 0, .slice none 0 0] 35)).heap.size) := (by show _ < _; omega)
 have HB1 := hI B1
 have HIn := hI hS
 have HZ := hI hz
 clear hA c0 c1 hz B1 ha hS hn
 go_enter Tryz.func22, Tryz.ntmps22
 go_wp2_with fail
 generalize ((w.alloc (.cells #[.string s.1, .string s.2] 23)).alloc (.cells #[.int .i64 0, .string ⟨#[]⟩, .string ⟨#[]⟩, .int .i64 0, .string ⟨#[]⟩, .string ⟨#[]⟩, .string ⟨#[]⟩, .string ⟨#[]⟩, .string ⟨#[]⟩, .slice none 0 0, .slice none 0 0] 35)) = W at *
 refine wp_region_grow (l := _) 3 (by kernel_rfl) (by kernel_rfl) (fun i => [5, 6, 7].getD i 0) (LR [LV (.agg #[.string s.1, .string s.2]), LV (.slice A l.length c), LTs W S l]) (LR_mono ⟨mLV _, mLV _, mLTs (HIn.out.later HA.out.size) l, trivial⟩) (by
  intro i j hi hj h
  exact inj_getD [5, 6, 7] (by decide) i j hi hj h) (by
  intro i hi
  exact lt_getD 9 [5, 6, 7] (by decide) i hi) ?step ?done
 case step =>
  intro ii hii a w9 v lo hi' hoth hb hw
  have sl2 : a.tmps[2]? = some (.pointer (some ⟨w.heap.size, 0, none⟩)) := (hoth 2 (fun j hj => ne_getD 2 _ (by decide) j hj)).trans rfl
  have sl1 : a.tmps[1]? = some (.slice A l.length c) := (hoth 1 (fun j hj => ne_getD 1 _ (by decide) j hj)).trans rfl
  match ii, hii with
  | 0, _ =>
   have cc0 := (hb.cell (p := ⟨w.heap.size, 0, none⟩) HSl.out).trans HS0.out
   have cc1 := (hb.cell (p := ⟨w.heap.size, 1, none⟩) HSl.out).trans HS1.out
   refine wpOp_step rfl fun K' hK' => ?_
   rw [if_pos (wanted_plain rfl)]
   unfold Oper.wp
   simp only [execOp]
   go_simp
   exact hK' _ _ ⟨_, rfl, Below.refl _ _, rfl⟩
  | 1, _ =>
   exact gw_move rfl (wanted_plain rfl) 1 _ rfl sl1 ⟨_, rfl, Below.refl _ _, rfl⟩
  | 2, _ =>
   obtain ⟨s0, r0, _⟩ := hw 1 (by omega) (by kernel_rfl)
   have e0 : v 1 = .slice A l.length c := r0
   rw [e0] at s0
   replace s0 : a.tmps[6]? = some (.slice A l.length c) := s0
   refine gw_t rfl (wanted_plain rfl) 69 6 _ _ rfl (fun v w => by go_simp) s0 ?_
   with_reducible refine (CLN.out w9 hb).mono ?_
   rintro e w3 ⟨vv, xs, rfl, hm⟩
   exact ⟨_, rfl, _, rfl, hm.bel, Nat.le_trans hb.size hm.bel.size, (hm.slice).more (fun b hb' => up3 (Below.refl _ W) hb b hb')⟩
 case done =>
  intro a w9 v lo hi' hdef hsz hoth hb hj hap
  obtain ⟨_, hv0, _, _⟩ := hj 0 (by omega)
  obtain ⟨_, ⟨hz9, A', c', hv2, ha'⟩, hlo2, hhi2⟩ := hj 2 (by omega)
  have ha := eq_puts hdef hsz hoth (fun i hi => (hj i hi).1)
  subst ha
  clear hj hoth hdef hsz hap
  change v 0 = _ at hv0
  simp only [puts, List.getD_cons_zero, List.getD_cons_succ, hv0, hv2]
  generalize v 1 = v1
  clear hv0 hv2
  simp only [Act.put, List.setIfInBounds_toArray, List.set_cons_zero, List.set_cons_succ]
  show wpList _ _ _ [_, _] _ _
  have HB := hI (HA.out.trans (hb.mono HA.out.size))
  have HT := hI (HB1.out.keep hb)
  have ha2 := hI ha'
  clear hb CLN
  go_wp2_with ((with_reducible refine storeTb (cs := [.int .i64 3, .string s.1, .string s.2, .int .i64 0, .string ⟨#[]⟩, .string ⟨#[]⟩, .string ⟨#[]⟩, .string ⟨#[]⟩, .string ⟨#[]⟩, .slice none 0 0, .slice A' l.length c']) (.tmp 4) (.tmp 8) ?_ ?_ ?_ ?_ HT.out ?_ ?_ ?_ ?_); rfl; rfl; rfl; rfl; rfl; rfl; simp [Value.oneCell'])
  refine retTb (cs := [.int .i64 3, .string s.1, .string s.2, .int .i64 0, .string ⟨#[]⟩, .string ⟨#[]⟩, .string ⟨#[]⟩, .string ⟨#[]⟩, .string ⟨#[]⟩, .slice none 0 0, .slice A' l.length c']) rfl rfl (TB.set HT.out _) rfl ⟨_, rfl, tmAt_app ⟨A', c', rfl, ha2.out.keep (fun b hb' => ?_) (fun b hb' => setRow_other w9 _ b _ ?_)⟩, below_setRowO HB.out (by omega) _⟩
  · have hz := HZ.out
    have h1 := HB.out.size
    rcases hb' with h | ⟨h, h'⟩
    · exact .inl h
    · exact .inr ⟨by omega, by rw [size_setRow]; exact h'⟩
  · have hz := HZ.out
    rcases hb' with h | ⟨h, h'⟩
    · have := HIn.out b h; omega
    · omega
section
variable {Q : Exit → Act → World → Prop}
end
def One11 (cs : List Value) : Prop := cs.length = 11 ∧ ∀ u ∈ cs, u.oneCell' = true
theorem TmAt.o11 {w : World} {S : Nat → Prop} {t : Tm} {cs : List Value} (h : TmAt w S t cs) : One11 cs := ⟨h.length, h.one⟩
def LTx : Lv := fun v lo hi w => v = .pointer (some ⟨lo, 0, none⟩) ∧ TB w lo zT ∧ lo < hi
theorem mLTx : Mon LTx := fun _ _ _ _ _ ⟨h, k, l⟩ hm hb => ⟨h, k.below hb (by omega), l⟩
section
variable {Q : Exit → Act → World → Prop}
theorem wp_region_growT {id : Nat} {a0 : Act} {w0 : World} {l : List Oper} (n : Nat) (hm : Tryz.prog.follows .mixedOrders = true) (hB : invB .any l.toArray (n + 1) = true)
 (d : Nat → Nat) (R : Nat → Value → Nat → Nat → World → Prop) (hR : ∀ i x l m w w', R i x l m w → m ≤ w.heap.size → Below w.heap.size w w' → R i x l m w')
 (hd : ∀ i j, i < n → j < n → d i = d j → i = j) (hds : ∀ i, i < n → d i < a0.tmps.size)
 (late : List Nat) (hlate : ((List.range n).all fun i => late.contains i || Region.waitsFor .any l.toArray n i) = true)
 (kb kv : Nat) (hkb : kb < n) (hkv : kv < n) (hwb : Region.waitsFor .any l.toArray n kb = true) (hwv : Region.waitsFor .any l.toArray n kv = true)
 (os : Oper) (hos : l[n]? = some os) (hog : os.guard = none) (hod : os.dst = none) (hop : os.op = .store 35 (.tmp (d kb)) (.tmp (d kv)))
 (hRb : ∀ v lo hi w, R kb v lo hi w → LTx v lo hi w) (hRv : ∀ v lo hi w, R kv v lo hi w → ∃ cs, v = vTm cs ∧ One11 cs)
 (step : ∀ i, i < n → ∀ (a : Act) (w : World) (v : Nat → Value) (lo hi : Nat → Nat), (∀ s, (∀ j, j < n → d j ≠ s) → a.tmps[s]? = a0.tmps[s]?) → Below w0.heap.size w0 w →
   (∀ j, j < n → Region.waitsFor .any l.toArray i j = true → a.tmps[d j]? = some (v j) ∧ R j (v j) (lo j) (hi j) w ∧ w0.heap.size ≤ lo j ∧ hi j ≤ w.heap.size) →
   wpOp Tryz.prog l.toArray Q i (fun a' w' => ∃ x, a' = a.put (some (d i)) x ∧ Below w.heap.size w w' ∧ R i x w.heap.size w'.heap.size w') a w)
 (stepL : ∀ i, i < n → late.contains i = true → ∀ (a : Act) (w1 w : World) (v : Nat → Value) (lo hi : Nat → Nat),
   (∀ j, j < n → Region.waitsFor .any l.toArray i j = true → a.tmps[d j]? = some (v j) ∧ R j (v j) (lo j) (hi j) w1) →
   wpOp Tryz.prog l.toArray Q i (fun a' w' => ∃ x, a' = a.put (some (d i)) x ∧ w' = w ∧ R i x w1.heap.size w1.heap.size w1) a w)
 (done : ∀ (a : Act) (w : World) (v : Nat → Value) (lo hi : Nat → Nat) (cs : List Value), a.defers = a0.defers → a.tmps.size = a0.tmps.size → (∀ s, (∀ j, j < n → d j ≠ s) → a.tmps[s]? = a0.tmps[s]?) → Below w0.heap.size w0 w →
   (∀ j, j < n → a.tmps[d j]? = some (v j) ∧ R j (v j) (lo j) (hi j) w ∧ w0.heap.size ≤ lo j ∧ hi j ≤ w.heap.size) → (∀ i j, i < n → j < n → i ≠ j → hi i ≤ lo j ∨ hi j ≤ lo i) →
   v kv = vTm cs → One11 cs → v kb = .pointer (some ⟨lo kb, 0, none⟩) → TB w (lo kb) zT →
   wpList Tryz.prog l.toArray Q (l.drop (n + 1)) a (w.setRow (lo kb) cs.toArray)) :
 (Code.region id l.toArray true).wp Tryz.prog Q a0 w0 := by
 have hn : n + 1 < l.length := by
  simp only [invB, Bool.and_eq_true, decide_eq_true_eq] at hB
  simpa using hB.1.1.1.1
 have hwait : ∀ i, i < n → late.contains i = false → Region.waitsFor .any l.toArray n i = true := fun i hi hl => by
  have h1 := List.all_eq_true.1 hlate i (List.mem_range.2 hi)
  rw [hl] at h1
  simpa using h1
 refine wp_region_inv (n + 1) hm hB (fun listed a w => listed.size = l.length ∧
  ((listed.getD n true = false ∧ ∃ v lo hi, Grow n d R a0 w0 listed a w v lo hi) ∨
    (listed.getD n true = true ∧ (∀ i, i < n → Region.waitsFor .any l.toArray n i = true → listed.getD i true = true) ∧
      ∃ v lo hi w1 cs, Grow n d R a0 w0 listed a w1 v lo hi ∧ v kv = vTm cs ∧ One11 cs ∧ v kb = .pointer (some ⟨lo kb, 0, none⟩) ∧ TB w1 (lo kb) zT ∧ w = w1.setRow (lo kb) cs.toArray))) ?_ ?_ ?_
 · refine ⟨by simp, .inl ⟨?_, fun _ => undef, fun _ => 0, fun _ => 0, rfl, rfl, fun _ _ => rfl, ⟨rfl, rfl, rfl, Nat.le_refl _, fun _ _ => rfl⟩, fun i hi hl => ?_, fun i j hi hj _ hl => ?_⟩⟩
   · have hlt : n < l.length := by omega
     simp [hlt]
   · have : (Array.replicate l.length false).getD i true = false := by
      have hlt : i < l.length := by omega
      simp [hlt]
     rw [this] at hl; cases hl
   · have : (Array.replicate l.length false).getD i true = false := by
      have hlt : i < l.length := by omega
      simp [hlt]
     rw [this] at hl; cases hl
 · rintro listed a w i hi hr ⟨hsz, hph⟩
   obtain ⟨hun, oi, hoi, hall⟩ := mem_ready.1 hr
   have hwl : ∀ j, j < l.length → Region.waitsFor .any l.toArray i j = true → listed.getD j true = true := fun j hj hw => by
    obtain ⟨oj, hoj, e, he, hbn, hon⟩ := Region.waitsFor_spec hw
    have : oj = oi := Option.some.inj (hoj.symm.trans hoi)
    subst this
    have hlj := hall e he hbn
    rw [hon] at hlj
    have hjl : j < listed.size := by omega
    simp [hjl] at hlj ⊢
    exact hlj
   have hgrow : ∀ k, listed.getD k true = true → (listed.setIfInBounds i true).getD k true = true := fun k hk => by
    by_cases e : i = k
    · subst e; exact set_getD
    · rw [Go.getD_set_ne true e]; exact hk
   rcases hph with ⟨hnl, v, lo, hi', hG⟩ | ⟨hnl, hwt, v, lo, hi', w1, cs, hG, hv, hp, hvb, hb, rfl⟩
   · by_cases hin : i = n
     · subst hin
       have hb := hwl kb (by omega) hwb
       have hvv := hwl kv (by omega) hwv
       obtain ⟨sb, rb, _, _, _⟩ := hG.slot kb hkb hb
       obtain ⟨sv, rv, _, _, _⟩ := hG.slot kv hkv hvv
       obtain ⟨eb, bb, lb⟩ := hRb _ _ _ _ rb
       obtain ⟨cs, ev, hp⟩ := hRv _ _ _ _ rv
       have hosl : l.toArray[i]? = some os := by simpa using hos
       refine wpOp_step hosl fun K' hK' => ?_
       rw [if_pos (wanted_plain hog)]
       refine wp_store_row 35 _ _ hop (lo kb) cs.toArray ((eval_of sb).trans eb) ((eval_of sv).trans ev) _ _ bb (by rw [List.size_toArray, hp.1]; kernel_rfl) (by rw [List.size_toArray, List.size_toArray, hp.1]; rfl) (by rw [Array.all_eq_true_iff_forall_mem]; intro u hu; exact hp.2 u (by simpa using hu)) ?_
       refine hK' _ _ ⟨by simpa using hsz, .inr ⟨set_getD, fun j hj hw => hgrow j (hwl j (by omega) hw), v, lo, hi', w, cs, ?_, ev, hp, eb, bb, rfl⟩⟩
       rw [hod]
       have hset : ∀ j, j < i → (listed.setIfInBounds i true).getD j true = listed.getD j true := fun j hj => Go.getD_set_ne true (by omega)
       exact ⟨hG.defers, hG.size, hG.other, hG.below, fun j hj hl => hG.slot j hj (by rw [← hset j hj]; exact hl), fun j k hj hk hne hl hl2 => hG.apart j k hj hk hne (by rw [← hset j hj]; exact hl) (by rw [← hset k hk]; exact hl2)⟩
     · have hi2 : i < n := by omega
       refine wpOp_mono ?_ (step i hi2 a w v lo hi' hG.other hG.below (fun j hj hw => ?_))
       · rintro a' w' ⟨x, rfl, hb, hx⟩
         refine ⟨by simpa using hsz, .inl ⟨?_, _, _, _, hG.step hR hd hds hi2 (by omega) hun hb hx⟩⟩
         rw [Go.getD_set_ne true (by omega)]; exact hnl
       · obtain ⟨h1, h2, h3, h4, h5⟩ := hG.slot j hj (hwl j (by omega) hw)
         exact ⟨h1, h2, h3, h5⟩
   · have hin : i ≠ n := fun e => by rw [e, hnl] at hun; cases hun
     have hi2 : i < n := by omega
     have hcl : late.contains i = true := by
      cases hc : late.contains i with
      | true => rfl
      | false => rw [hwt i hi2 (hwait i hi2 hc)] at hun; cases hun
     have hb1 := hwt kb hkb hwb
     have hb2 := hwt kv hkv hwv
     have n1 : ¬ kb = i := fun e => by rw [← e, hb1] at hun; cases hun
     have n2 : ¬ kv = i := fun e => by rw [← e, hb2] at hun; cases hun
     refine wpOp_mono ?_ (stepL i hi2 hcl a w1 (w1.setRow (lo kb) cs.toArray) v lo hi' (fun j hj hw => ?_))
     · rintro a' w' ⟨x, rfl, rfl, hx⟩
       refine ⟨by simpa using hsz, .inr ⟨hgrow n hnl, fun j hj hw => hgrow j (hwt j hj hw), _, _, _, w1, cs, hG.step hR hd hds hi2 (by omega) hun (Below.refl _ _) hx, ?_, hp, ?_, ?_, ?_⟩⟩
       · simp only [if_neg n2]; exact hv
       · simp only [if_neg n1]; exact hvb
       · simp only [if_neg n1]; exact hb
       · simp only [if_neg n1]
     · obtain ⟨h1, h2, _, _, _⟩ := hG.slot j hj (hwl j (by omega) hw)
       exact ⟨h1, h2⟩
 · rintro a w ⟨hsz, hph⟩
   have hfull : ∀ i, i < n + 1 → (fullHead (n + 1) (l.length - (n + 1))).getD i true = true := fun i hi => by
    have hlt : i < (fullHead (n + 1) (l.length - (n + 1))).size := by simp [fullHead]; omega
    simp [fullHead, hi, List.getElem?_append]
   rcases hph with ⟨hnl, _⟩ | ⟨hnl, hwt, v, lo, hi', w1, cs, hG, hv, hp, hvb, hb, rfl⟩
   · rw [hfull n (by omega)] at hnl; cases hnl
   · exact done a w1 v lo hi' cs hG.defers hG.size hG.other hG.below (fun j hj => by
      obtain ⟨h1, h2, h3, h4, h5⟩ := hG.slot j hj (hfull j (by omega))
      exact ⟨h1, h2, h3, h5⟩) (fun i j hi hj hne => hG.apart i j hi hj hne (hfull i (by omega)) (hfull j (by omega))) hv hp hvb hb
end
section
variable {P : Program} {Q : Exit → Act → World → Prop} {ops : Array Oper} {K : Act → World → Prop} {a : Act} {w : World} {i : Nat} {o : Oper}
theorem gw_dyn (ho : ops[i]? = some o) (hw : Region.wanted o (yielded ops a.tmps) = true) (sf s0 : Tmp) (f : FuncId) (caps : Array Value) (v0 : Value) (ts : Array TypeId) (hop : o.op = Op.call { callee := Callee.value (.tmp sf), args := #[.tmp s0], argTypes := ts })
 (hf : ∀ (w : World), (callFunc f (#[v0] ++ caps)).run P w = .ok (.enter f (#[v0] ++ caps)) w) (hx : a.tmps[sf]? = some (.func (.func f) #[] caps)) (h0 : a.tmps[s0]? = some v0)
 (hc : Calls P f (#[v0] ++ caps) w fun e w' => ∃ r, e = .returned r ∧ K (a.put o.dst r) w') : wpOp P ops Q i K a w :=
 wpOp_step ho fun K' hK' => by
  rw [if_pos hw]
  unfold Oper.wp
  have hf1 := hf w
  have e1 : a.eval (.tmp sf) = .func (.func f) #[] caps := eval_of hx
  have e2 : a.eval (.tmp s0) = v0 := eval_of h0
  simp only [execOp, hop, resolve, invoke, e1, e2, List.map_toArray, List.map_cons, List.map_nil]
  go_simp
  refine hc.mono ?_
  rintro e w' ⟨r, rfl, h⟩
  exact hK' _ _ h
end
def LTB (w0 : World) (S : Nat → Prop) (t : Tm) (r : Bool) : Lv := fun v _ _ w => w0.heap.size ≤ w.heap.size ∧ ∃ cs, v = .tuple #[vTm cs, .bool r] ∧ TmAt w (Upto w0 w S) t cs
theorem mLTB {w0 : World} {S : Nat → Prop} (hS : In S w0) (t : Tm) (r : Bool) : Mon (LTB w0 S t r) := fun _ _ _ _ _ ⟨h0, cs, h, k⟩ _ hb => ⟨Nat.le_trans h0 hb.size, cs, h, TmAt.keep (fun b hb' => upto_more hb.size b hb') (fun b hb' => hb.block b (upto_lt hS h0 b hb')) _ _ k⟩
def EdAt (w : World) (g : Nat) (f : FuncId) (caps : Array Value) : Prop := w.heap[g]? = some (.cells #[.func (.func f) #[] caps, .pointer none] 99 (0, 0))
theorem EdAt.lt {W : World} {g : Nat} {f : FuncId} {caps : Array Value} (h : EdAt W g f caps) : g < W.heap.size := by
 rcases Nat.lt_or_ge g W.heap.size with hlt | hge
 · exact hlt
 · unfold EdAt at h; rw [Array.getElem?_eq_none hge] at h; cases h
theorem EdAt.keep {W W' : World} {g : Nat} {f : FuncId} {caps : Array Value} (h : EdAt W g f caps) (hb : Below W.heap.size W W') : EdAt W' g f caps := (hb.block g h.lt).trans h
theorem EdAt.c0 {W : World} {g : Nat} {f : FuncId} {caps : Array Value} (h : EdAt W g f caps) : W.cell? ⟨g, 0, none⟩ = some (.func (.func f) #[] caps) := by rw [cell_of_row _ _ _ _ _ _ h]; rfl
theorem EdAt.c1 {W : World} {g : Nat} {f : FuncId} {caps : Array Value} (h : EdAt W g f caps) : W.cell? ⟨g, 1, none⟩ = some (.pointer none) := by rw [cell_of_row _ _ _ _ _ _ h]; rfl
def TmQ (w : World) (S : Nat → Prop) (t : Tm) (b k : Nat) (cs : List Value) : Prop := (b < w.heap.size ∧ Plain w b) ∧ TmAt w S t cs ∧ ∀ j u, cs[j]? = some u → w.cell? ⟨b, k + j, none⟩ = some u
theorem TmP.q {w : World} {S : Nat → Prop} {t : Tm} {b k : Nat} {cs : List Value} (h : TmP w S t b k cs) (hS : In S w) : TmQ w S t b k cs := ⟨⟨hS b h.1.1, h.1.2⟩, h.2⟩
theorem TmQ.p {w : World} {S : Nat → Prop} {t : Tm} {b k : Nat} {cs : List Value} (h : TmQ w S t b k cs) (hS : In S w) : TmP w (Has w) t b k cs := ⟨⟨h.1.1, h.1.2⟩, h.2.1.more hS, h.2.2⟩
theorem TmQ.below {w w' : World} {S : Nat → Prop} {t : Tm} {b k : Nat} {cs : List Value} (h : TmQ w S t b k cs) (hS : In S w) (hb : Below w.heap.size w w') : TmQ w' S t b k cs :=
 ⟨⟨Nat.lt_of_lt_of_le h.1.1 hb.size, h.1.2.keep (hb.block b h.1.1)⟩, h.2.1.below hS hb, fun j u hj => (hb.cell (p := ⟨b, k + j, none⟩) h.1.1).trans (h.2.2 j u hj)⟩
def RetEd (w : World) (S : Nat → Prop) (l : List Tm) (r : Bool) (e : Ending) (w' : World) : Prop := ∃ v, e = .returned (.agg #[v, .bool r]) ∧ TsV w' (Upto w w' S) l v ∧ Below w.heap.size w w'
def EB2 (W : World) (g : Nat) (v : Value) (r : Bool) : Prop := W.heap[g]? = some (.cells #[v, .bool r] 125 (0, 0))
theorem EB2.lt {W : World} {g : Nat} {v : Value} {r : Bool} (h : EB2 W g v r) : g < W.heap.size := by
 rcases Nat.lt_or_ge g W.heap.size with hlt | hge
 · exact hlt
 · unfold EB2 at h; rw [Array.getElem?_eq_none hge] at h; cases h
theorem EB2.keep {W W' : World} {g : Nat} {v : Value} {r : Bool} (h : EB2 W g v r) (hb : Below W.heap.size W W') : EB2 W' g v r := (hb.block g h.lt).trans h
theorem EB2.c0 {W : World} {g : Nat} {v : Value} {r : Bool} (h : EB2 W g v r) : W.cell? ⟨g, 0, none⟩ = some v := by rw [cell_of_row _ _ _ _ _ _ h]; rfl
theorem EB2.c1 {W : World} {g : Nat} {v : Value} {r : Bool} (h : EB2 W g v r) : W.cell? ⟨g, 1, none⟩ = some (.bool r) := by rw [cell_of_row _ _ _ _ _ _ h]; rfl
theorem EB2.set {W : World} {g : Nat} {v u : Value} {r s : Bool} (h : EB2 W g v r) : EB2 (W.setRow g #[u, .bool s]) g u s := setRow_heap _ _ _ _ _ _ h
theorem EB2.store {ops : Array Oper} {rest : List Oper} {o : Oper} {a : Act} {w : World} {Q : Exit → Act → World → Prop} {g : Nat} {v u : Value} {r s : Bool} (x y : Operand) (ho : o.op = .store 125 x y) (hgd : o.guard = none)
 (hx : a.eval x = .pointer (some ⟨g, 0, none⟩)) (hy : a.eval y = .agg #[u, .bool s]) (hg : EB2 w g v r) (h1 : u.oneCell' = true)
 (h : wpList Tryz.prog ops Q rest (a.put o.dst undef) (w.setRow g #[u, .bool s])) : wpList Tryz.prog ops Q (o :: rest) a w :=
 wpList_store_row hgd 125 x y ho g #[u, .bool s] hx hy 125 #[v, .bool r] hg (by kernel_rfl) rfl (by simp only [List.all_toArray, List.all_cons, List.all_nil, h1]; rfl) h
theorem EB2.load {ops : Array Oper} {rest : List Oper} {o : Oper} {a : Act} {w : World} {Q : Exit → Act → World → Prop} {g : Nat} {v : Value} {r : Bool} (x : Operand) (ho : o.op = .load 125 x) (hgd : o.guard = none)
 (hx : a.eval x = .pointer (some ⟨g, 0, none⟩)) (hg : EB2 w g v r)
 (h : wpList Tryz.prog ops Q rest (a.put o.dst (.agg #[v, .bool r])) w) : wpList Tryz.prog ops Q (o :: rest) a w :=
 wpList_load_row hgd 125 x ho g hx 125 #[v, .bool r] (0, 0) _ hg Tryz.underlying125 rfl (by kernel_rfl) h
theorem retEB2 {fn : Func} {p : Tmp} {Q : Ending → World → Prop} {tmps : Array Value} {w : World} {g : Nat} {v : Value} {r : Bool}
 (h : fn.results = #[.cell p 125]) (hp : tmps.getD p undef = .pointer (some ⟨g, 0, none⟩)) (hg : EB2 w g v r)
 (hQ : Q (.returned (.agg #[v, .bool r])) w) : bodyPost Tryz.prog fn Q Exit.ret ⟨tmps, []⟩ w :=
 bodyPost_ret (results_cell_row h tmps w g _ _ _ _ hp hg Tryz.underlying125 rfl (by kernel_rfl)) rfl hQ
def curL (ed : Tm → Tm) (l : List Tm) (i : Nat) : List Tm := (l.take i).map ed ++ l.drop i
theorem curL_len (ed : Tm → Tm) (l : List Tm) (i : Nat) : (curL ed l i).length = l.length := by simp [curL]; omega
theorem curL_end (ed : Tm → Tm) (l : List Tm) : curL ed l l.length = l.map ed := by simp [curL]
theorem curL_step (ed : Tm → Tm) {l : List Tm} {i : Nat} (hi : i < l.length) : (curL ed l i).set i (ed l[i]) = curL ed l (i + 1) := by
 unfold curL
 have hl : ((l.take i).map ed).length = i := by simp; omega
 rw [List.set_append_right _ _ (by omega), hl, Nat.sub_self, List.drop_eq_getElem_cons hi, List.set_cons_zero, List.take_succ_eq_append_getElem hi, List.map_append, List.append_assoc]
 rfl
theorem curL_same (ed : Tm → Tm) {l : List Tm} {i : Nat} (hi : i < l.length) (h : ed l[i] = l[i]) : curL ed l (i + 1) = curL ed l i := by
 rw [← curL_step ed hi, h]
 have : (curL ed l i)[i]'(by rw [curL_len]; exact hi) = l[i] := by
  unfold curL
  rw [List.getElem_append_right (by simp; omega)]
  simp only [List.length_map, List.length_take, List.getElem_drop]
  congr 1; omega
 conv => lhs; rw [← this]
 exact List.set_getElem_self _
theorem any_take {ch : Tm → Bool} {l : List Tm} {i : Nat} (hi : i < l.length) : (l.take (i + 1)).any ch = ((l.take i).any ch || ch l[i]) := by
 rw [List.take_succ_eq_append_getElem hi, List.any_append]; simp
theorem map_same {ed : Tm → Tm} {ch : Tm → Bool} : ∀ {l : List Tm}, (∀ x ∈ l, ch x = false → ed x = x) → l.any ch = false → l.map ed = l
 | [], _, _ => rfl
 | x :: l, h, ha => by
  simp only [List.any_cons, Bool.or_eq_false_iff] at ha
  rw [List.map_cons, h x (by simp) ha.1, map_same (fun y hy => h y (by simp [hy])) ha.2]
def LiW (w wo : World) (S : Nat → Prop) (g : Nat) (ed : Tm → Tm) (ch : Tm → Bool) (l : List Tm) (A : Option Addr) (c i : Nat) : Prop :=
 Below w.heap.size w wo ∧ ((((l.take i).any ch = false) ∧ EB2 wo g (.slice A l.length c) false) ∨
  (((l.take i).any ch = true) ∧ ∃ (gr cap : Nat) (xs : List (List Value)), gr ≠ g ∧ EB2 wo g (.slice (some ⟨gr, 0, none⟩) l.length cap) true ∧ MkT S w wo (curL ed l i) (.slice (some ⟨gr, 0, none⟩) (curL ed l i).length cap) xs))
def NB (w : World) (g : Nat) : Prop := ∃ cur t fr, w.heap[g]? = some (.cells cur t fr) ∧ (cur.size < 11 ∨ cur = zT.toArray)
theorem NB.le {w : World} {g : Nat} (h : NB w g) : ∃ cur t fr, w.heap[g]? = some (.cells cur t fr) ∧ cur.size ≤ 11 := by
 obtain ⟨cur, t, fr, h1, h2⟩ := h
 refine ⟨cur, t, fr, h1, ?_⟩
 rcases h2 with h2 | rfl
 · omega
 · exact Nat.le_refl _
theorem TB.nb {w : World} {g : Nat} (h : TB w g zT) : NB w g := ⟨_, _, _, h, .inr rfl⟩
theorem EB2.nb {w : World} {g : Nat} {v : Value} {r : Bool} (h : EB2 w g v r) : NB w g := ⟨_, _, _, h, .inl (by show 2 < 11; omega)⟩
theorem Pair.nbox {w : World} {S : Nat → Prop} {g : Nat} (hg : NB w g) : ∀ {o : Ob} {p : Value}, Pair w S o p → Pair w (fun b => S b ∧ b ≠ g) o p
 | .num _, _, h => h
 | .str _, _, h => h
 | .sym _ _, _, h => h
 | .cons a d, p, ⟨b, o, c, pa, pd, h1, h2, h3, h4, h5, h6⟩ => by
  have hne : ¬ b = g := by
   rintro rfl
   obtain ⟨cur, t, fr, hh, hs⟩ := hg.le
   have hl : 13 < (cellsO a pa ++ cellsO d pd).length := by rw [List.length_append, cellsO_length, cellsO_length]; omega
   have := h4 13 _ (List.getElem?_eq_getElem hl)
   rw [cell_of_row _ _ _ _ _ _ hh, Array.getElem?_eq_none (by omega)] at this
   cases this
  exact ⟨b, o, c, pa, pd, h1, h2, ⟨⟨h3.1, hne⟩, h3.2⟩, h4, Pair.nbox hg h5, Pair.nbox hg h6⟩
theorem nb_first {w : World} {S : Nat → Prop} {b o : Nat} {l : List Tm} (hl : 0 < l.length) (hr : TmsAt w S b o l) : ¬ NB w b := by
 rintro ⟨cur, ty, fr, hh, hs⟩
 obtain ⟨cs1, k1, k2⟩ := hr.get hl
 obtain ⟨v, A1, c1, rfl, hv, _⟩ := k1.open
 have hlen := cellsT_length (k := l[0].kd) (s := l[0].nm) (a := .slice A1 l[0].args.length c1) hv.length
 have e10 := k2 10 _ (List.getElem?_eq_getElem (by omega))
 have e0 := k2 0 _ rfl
 rw [cell_of_row _ _ _ _ _ _ hh] at e0 e10
 have h10 : o + 0 * 11 + 10 < cur.size := by
  rcases Nat.lt_or_ge (o + 0 * 11 + 10) cur.size with h | h
  · exact h
  · rw [Array.getElem?_eq_none h] at e10; cases e10
 rcases hs with hs | rfl
 · omega
 · have h11 : zT.toArray.size = 11 := rfl
   have ho : o = 0 := by omega
   subst ho
   have e1 : l[0].kd = 0 := by
    have : some (Value.int .i64 0) = some (Value.int .i64 l[0].kd) := e0
    injection this with this
    injection this with _ this
    exact this.symm
   cases hk : l[0] <;> rw [hk] at e1 <;> simp [Tm.kd] at e1
mutual
theorem TmAt.nbox {w : World} {S : Nat → Prop} {g : Nat} (hg : NB w g) : ∀ (t : Tm) (cs : List Value), TmAt w S t cs → TmAt w (fun b => S b ∧ b ≠ g) t cs
 | .var s, cs, h => h
 | .con o, cs, h => by
  unfold TmAt at h ⊢
  obtain ⟨p, h1, h2⟩ := h
  exact ⟨p, h1, h2.nbox hg⟩
 | .app s l, cs, h => by
  unfold TmAt at h ⊢
  obtain ⟨A, c, h1, h2, h3⟩ := h
  refine ⟨A, c, h1, h2, fun hl => ?_⟩
  obtain ⟨b, o, e, hb, hr⟩ := h3 hl
  exact ⟨b, o, e, ⟨⟨hb.1, fun e => nb_first hl hr (e ▸ hg)⟩, hb.2⟩, TmsAt.nbox hg b o l hr⟩
theorem TmsAt.nbox {w : World} {S : Nat → Prop} {g : Nat} (hg : NB w g) (b o : Nat) : ∀ l : List Tm, TmsAt w S b o l → TmsAt w (fun b => S b ∧ b ≠ g) b o l
 | [], _ => by unfold TmsAt; trivial
 | t :: l, h => by
  unfold TmsAt at h ⊢
  obtain ⟨⟨cs, h1, h2⟩, h3⟩ := h
  exact ⟨⟨cs, TmAt.nbox hg t cs h1, h2⟩, TmsAt.nbox hg b (o + 11) l h3⟩
end
theorem TsV.nbox {w : World} {S : Nat → Prop} {g : Nat} (hg : NB w g) {l : List Tm} {v : Value} (h : TsV w S l v) : TsV w (fun b => S b ∧ b ≠ g) l v := by
 obtain ⟨A, c, e, h1, h2⟩ := h
 refine ⟨A, c, e, h1, fun hl => ?_⟩
 obtain ⟨b, o, e2, hb, hr⟩ := h2 hl
 exact ⟨b, o, e2, ⟨⟨hb.1, fun e => nb_first hl hr (e ▸ hg)⟩, hb.2⟩, TmsAt.nbox hg b o l hr⟩
theorem vTm_inj {a b : List Value} (h : vTm a = vTm b) : a = b := by
 unfold vTm at h
 injection h with h
 exact List.toArray_inj h
theorem ownsRow_mono {w : World} {B B' : Nat} {e : TypeId} {size n : Nat} {v : Value} {xs : List Value} (h : w.ownsRow B e size v n xs) (hB : B' ≤ B) : w.ownsRow B' e size v n xs := by
 refine ⟨h.1, ?_⟩
 rcases h.2 with h0 | ⟨g', cap, cur, rfl, hb, h1⟩
 · exact .inl h0
 · exact .inr ⟨g', cap, cur, rfl, Nat.le_trans hB hb, h1⟩
theorem MkT.base {S : Nat → Prop} {w X w4 : World} {l : List Tm} {v : Value} {xs : List (List Value)} {g : Nat} {y : Array Value} (h : MkT S X w4 l v xs) (hS : In S w) (hX : Below w.heap.size w X) (hg : w.heap.size ≤ g) (hgX : g < X.heap.size) : MkT S w (w4.setRow g y) l v xs := by
 have hw := hX.size
 have hsz : (w4.setRow g y).heap.size = w4.heap.size := size_setRow _ _ _
 refine ⟨h.len, own_keep (ownsRow_mono h.own hw) fun b hb => ?_, fun i hi hx => ?_, below_setRowO (hX.trans (h.bel.mono hw)) hg _⟩
 · have := (own_lt h.own b hb).1
   exact setRow_other w4 g b y (by omega)
 · have k1 : ∀ b, (S b ∨ X.heap.size ≤ b) ∧ b < w4.heap.size ∧ v.ownBlock ≠ some b → (S b ∨ w.heap.size ≤ b) ∧ b < (w4.setRow g y).heap.size ∧ v.ownBlock ≠ some b := fun b hb => by
    refine ⟨?_, by rw [hsz]; exact hb.2.1, hb.2.2⟩
    rcases hb.1 with h0 | h0
    · exact .inl h0
    · exact .inr (by omega)
   have k2 : ∀ b, (S b ∨ X.heap.size ≤ b) ∧ b < w4.heap.size ∧ v.ownBlock ≠ some b → (w4.setRow g y).heap[b]? = w4.heap[b]? := fun b hb => by
    refine setRow_other w4 g b y ?_
    rcases hb.1 with h0 | h0
    · have := hS b h0; omega
    · omega
   exact TmAt.keep k1 k2 _ _ (h.tms i hi hx)
theorem listE (f : FuncId) (caps : Array Value) (ed : Tm → Tm) (ch : Tm → Bool) (l : List Tm) (A : Option Addr) (c ge : Nat) (w : World) (S : Nat → Prop) (hS : In S w) (he : EdAt w ge f caps) (ha : ArgsAt w S l A c) (hn : l.length ≤ 3000)
 (hcf : ∀ (v : Value) (W : World), (callFunc f (#[v] ++ caps)).run Tryz.prog W = .ok (.enter f (#[v] ++ caps)) W)
 (ke : ∀ x ∈ l, ∀ (W : World) (b k : Nat) (cs : List Value), Below w.heap.size w W → TmQ W S x b k cs → Calls Tryz.prog f (#[.pointer (some ⟨b, k, none⟩)] ++ caps) W (RetTB W S (ed x) (ch x)))
 (hne : ∀ x ∈ l, ch x = false → ed x = x) :
 Calls Tryz.prog 106 #[.pointer (some ⟨ge, 0, none⟩), .slice A l.length c] w (RetEd w S (l.map ed) (l.any ch)) := by
 have hA : Below w.heap.size w ((w.alloc (.cells #[.slice none 0 0, .bool false] 125)).alloc (.cells #[.slice A l.length c, .bool false] 125)) := Below.alloc (Below.alloc (Below.refl _ _) (Nat.le_refl _) _) (by simp) _
 have B0 : EB2 ((w.alloc (.cells #[.slice none 0 0, .bool false] 125)).alloc (.cells #[.slice A l.length c, .bool false] 125)) w.heap.size (.slice none 0 0) false := heap_alloc2_old w _ _
 have B1 : EB2 ((w.alloc (.cells #[.slice none 0 0, .bool false] 125)).alloc (.cells #[.slice A l.length c, .bool false] 125)) (w.heap.size + 1) (.slice A l.length c) false := heap_alloc2_new w _ _
 have hz : ((w.alloc (.cells #[.slice none 0 0, .bool false] 125)).alloc (.cells #[.slice A l.length c, .bool false] 125)).heap.size = w.heap.size + 2 := by simp
 have HEw := hI he
 have HA := hI ha
 have HCF : Hid (∀ (v : Value) (W : World), (callFunc f (#[v] ++ caps)).run Tryz.prog W = .ok (.enter f (#[v] ++ caps)) W) := hcf
 have KE := hI ke
 have HNE := hI hne
 have HS := hI hS
 have hcl := ha.1
 have HW := hI hA
 have HB0 := hI B0
 have HZ := hI hz
 have h0 : Hid (LiW w ((w.alloc (.cells #[.slice none 0 0, .bool false] 125)).alloc (.cells #[.slice A l.length c, .bool false] 125)) S (w.heap.size + 1) ed ch l A c 0 ∧ EB2 ((w.alloc (.cells #[.slice none 0 0, .bool false] 125)).alloc (.cells #[.slice A l.length c, .bool false] 125)) w.heap.size (.slice none 0 0) false) := ⟨⟨hA, .inl ⟨by simp, B1⟩⟩, B0⟩
 clear he ha hcf ke hne hS hA B0 B1 hz
 go_enter Tryz.func106, Tryz.ntmps106
 go_wp2_with fail
 generalize (w.alloc (.cells #[.slice none 0 0, .bool false] 125)).alloc (.cells #[.slice A l.length c, .bool false] 125) = W at *
 go_loopw [13] (fun v wr => ∃ (i : Nat), i ≤ l.length ∧ v = .int .i64 (i : Int) ∧ Hid (LiW w wr S (w.heap.size + 1) ed ch l A c i ∧ EB2 wr w.heap.size (.slice none 0 0) false)) (fun v _ => l.length - (intOf v).toNat)
 case atStart => exact ⟨0, Nat.zero_le _, rfl, h0⟩
 case round =>
  clear h0
  obtain ⟨i, hi, rfl, hE⟩ := hrel
  obtain ⟨wo, rfl⟩ : ∃ wo : World, wo = wr := ⟨_, rfl⟩
  obtain ⟨⟨hb0, hM⟩, hR0⟩ := hE.out
  clear hE
  by_cases hlt : i < l.length
  · obtain ⟨b1, o1, cs1, rfl, hP⟩ := HA.out.arg hlt
    have HSo : Hid (In S wo) := HS.out.later hb0.size
    have HE : Hid (EdAt wo ge f caps) := HEw.out.keep hb0
    have CALL : Hid (∀ W, Below wo.heap.size wo W → Calls Tryz.prog f (#[.pointer (some ⟨b1, o1 + i * 11, none⟩)] ++ caps) W (RetTB W S (ed l[i]) (ch l[i]))) := fun W hW =>
     KE.out l[i] (List.getElem_mem hlt) W b1 (o1 + i * 11) cs1 (chain2 hb0 hW (Nat.le_refl _)) ((hP.q HS.out).below HS.out (chain2 hb0 hW (Nat.le_refl _)))
    have HNi := hI (HNE.out l[i] (List.getElem_mem hlt))
    have HAT := hI (any_take (ch := ch) hlt)
    have HM := hI hM
    have HR0 := hI hR0
    have HB := hI hb0
    have HLT := hI hlt
    generalize ch l[i] = q at CALL HNi HAT
    clear hP hM hR0 hb0
    go_wp2_with fail
    refine wp_region_growT (l := _) 12 (by kernel_rfl) (by kernel_rfl) (fun i => [17, 18, 19, 20, 21, 22, 23, 24, 16, 25, 26, 7].getD i 0) (LR [LV (.pointer (some ⟨ge, 0, none⟩)), LV (.pointer (some ⟨ge, 0, none⟩)), LV (.pointer (some ⟨ge, 0, none⟩)), LV (.func (.func f) #[] caps), LV (.slice (some ⟨b1, o1, none⟩) l.length c), LV (.int .i64 (i : Int)), LV (.pointer (some ⟨b1, o1 + i * 11, none⟩)), LTB wo S (ed l[i]) q, LTB wo S (ed l[i]) q, LTm wo S (ed l[i]), LV (.bool q), LTx]) (LR_mono ⟨mLV _, mLV _, mLV _, mLV _, mLV _, mLV _, mLV _, mLTB HSo.out _ _, mLTB HSo.out _ _, mLTm HSo.out _, mLV _, mLTx, trivial⟩) (by
     intro i j hi hj h
     exact inj_getD [17, 18, 19, 20, 21, 22, 23, 24, 16, 25, 26, 7] (by decide) i j hi hj h) (by
     intro i hi
     exact lt_getD 42 [17, 18, 19, 20, 21, 22, 23, 24, 16, 25, 26, 7] (by decide) i hi) [10] (by kernel_rfl) 11 9 (by omega) (by omega) (by kernel_rfl) (by kernel_rfl) _ rfl rfl rfl rfl (fun _ _ _ _ h => h) (fun _ _ _ _ h => by obtain ⟨_, cs, e, k⟩ := h; exact ⟨cs, e, k.o11⟩) ?step ?stepL ?done
    case step =>
     intro ii hii a w9 v lo hi' hoth hb hw
     have sl0 : a.tmps[0]? = some (.pointer (some ⟨ge, 0, none⟩)) := (hoth 0 (fun j hj => ne_getD 0 _ (by decide) j hj)).trans rfl
     have sl1 : a.tmps[1]? = some (.slice (some ⟨b1, o1, none⟩) l.length c) := (hoth 1 (fun j hj => ne_getD 1 _ (by decide) j hj)).trans rfl
     have sl6 : a.tmps[6]? = some (.int .i64 (i : Int)) := (hoth 6 (fun j hj => ne_getD 6 _ (by decide) j hj)).trans rfl
     match ii, hii with
     | 0, _ =>
      exact gw_move rfl (wanted_plain rfl) 0 _ rfl sl0 ⟨_, rfl, Below.refl _ _, rfl⟩
     | 1, _ =>
      obtain ⟨s0, r0, _⟩ := hw 0 (by omega) (by kernel_rfl)
      have e0 : v 0 = .pointer (some ⟨ge, 0, none⟩) := r0
      rw [e0] at s0
      replace s0 : a.tmps[17]? = some (.pointer (some ⟨ge, 0, none⟩)) := s0
      refine wpOp_step rfl fun K' hK' => ?_
      rw [if_pos (wanted_plain rfl)]
      unfold Oper.wp
      simp only [execOp]
      go_simp
      exact hK' _ _ ⟨_, rfl, Below.refl _ _, rfl⟩
     | 2, _ =>
      obtain ⟨s0, r0, _⟩ := hw 1 (by omega) (by kernel_rfl)
      have e0 : v 1 = .pointer (some ⟨ge, 0, none⟩) := r0
      rw [e0] at s0
      replace s0 : a.tmps[18]? = some (.pointer (some ⟨ge, 0, none⟩)) := s0
      refine wpOp_step rfl fun K' hK' => ?_
      rw [if_pos (wanted_plain rfl)]
      unfold Oper.wp
      simp only [execOp]
      go_simp
      exact hK' _ _ ⟨_, rfl, Below.refl _ _, rfl⟩
     | 3, _ =>
      obtain ⟨s0, r0, _⟩ := hw 2 (by omega) (by kernel_rfl)
      have e0 : v 2 = .pointer (some ⟨ge, 0, none⟩) := r0
      rw [e0] at s0
      replace s0 : a.tmps[19]? = some (.pointer (some ⟨ge, 0, none⟩)) := s0
      have cc := (HE.out.keep hb).c0
      refine wpOp_step rfl fun K' hK' => ?_
      rw [if_pos (wanted_plain rfl)]
      unfold Oper.wp
      simp only [execOp]
      go_simp
      exact hK' _ _ ⟨_, rfl, Below.refl _ _, rfl⟩
     | 4, _ =>
      exact gw_move rfl (wanted_plain rfl) 1 _ rfl sl1 ⟨_, rfl, Below.refl _ _, rfl⟩
     | 5, _ =>
      exact gw_move rfl (wanted_plain rfl) 6 _ rfl sl6 ⟨_, rfl, Below.refl _ _, rfl⟩
     | 6, _ =>
      obtain ⟨s0, r0, _⟩ := hw 4 (by omega) (by kernel_rfl)
      have e0 : v 4 = .slice (some ⟨b1, o1, none⟩) l.length c := r0
      rw [e0] at s0
      replace s0 : a.tmps[21]? = some (.slice (some ⟨b1, o1, none⟩) l.length c) := s0
      obtain ⟨s1, r1, _⟩ := hw 5 (by omega) (by kernel_rfl)
      have e1 : v 5 = .int .i64 (i : Int) := r1
      rw [e1] at s1
      replace s1 : a.tmps[22]? = some (.int .i64 (i : Int)) := s1
      refine wpOp_step rfl fun K' hK' => ?_
      rw [if_pos (wanted_plain rfl)]
      unfold Oper.wp
      simp only [execOp]
      go_simp
      exact hK' _ _ ⟨_, rfl, Below.refl _ _, rfl⟩
     | 7, _ =>
      obtain ⟨s0, r0, _⟩ := hw 3 (by omega) (by kernel_rfl)
      have e0 : v 3 = .func (.func f) #[] caps := r0
      rw [e0] at s0
      replace s0 : a.tmps[20]? = some (.func (.func f) #[] caps) := s0
      obtain ⟨s1, r1, _⟩ := hw 6 (by omega) (by kernel_rfl)
      have e1 : v 6 = .pointer (some ⟨b1, o1 + i * 11, none⟩) := r1
      rw [e1] at s1
      replace s1 : a.tmps[23]? = some (.pointer (some ⟨b1, o1 + i * 11, none⟩)) := s1
      refine gw_dyn rfl (wanted_plain rfl) 20 23 f caps _ _ rfl (HCF.out _) s0 s1 ?_
      with_reducible refine (CALL.out w9 hb).mono ?_
      rintro e w3 ⟨cs, rfl, hcs, hb3⟩
      exact ⟨_, rfl, _, rfl, hb3, Nat.le_trans hb.size hb3.size, cs, rfl, hcs.more fun q hq => up3 (Below.refl _ wo) hb q hq⟩
     | 8, _ =>
      obtain ⟨s0, r0, _⟩ := hw 7 (by omega) (by kernel_rfl)
      obtain ⟨hz0, cs0, e0, k0⟩ : LTB wo S (ed l[i]) q (v 7) (lo 7) (hi' 7) w9 := r0
      rw [e0] at s0
      replace s0 : a.tmps[24]? = some (.tuple #[vTm cs0, .bool q]) := s0
      exact gw_move rfl (wanted_plain rfl) 24 _ rfl s0 ⟨_, rfl, Below.refl _ _, hz0, cs0, rfl, k0⟩
     | 9, _ =>
      obtain ⟨s0, r0, _⟩ := hw 8 (by omega) (by kernel_rfl)
      obtain ⟨hz0, cs0, e0, k0⟩ : LTB wo S (ed l[i]) q (v 8) (lo 8) (hi' 8) w9 := r0
      rw [e0] at s0
      replace s0 : a.tmps[16]? = some (.tuple #[vTm cs0, .bool q]) := s0
      exact gr_ext2 rfl rfl 16 _ _ rfl s0 ⟨_, rfl, Below.refl _ _, hz0, cs0, rfl, k0⟩
     | 10, _ =>
      obtain ⟨s0, r0, _⟩ := hw 8 (by omega) (by kernel_rfl)
      obtain ⟨hz0, cs0, e0, k0⟩ : LTB wo S (ed l[i]) q (v 8) (lo 8) (hi' 8) w9 := r0
      rw [e0] at s0
      replace s0 : a.tmps[16]? = some (.tuple #[vTm cs0, .bool q]) := s0
      exact gr_ext2' rfl rfl 16 _ _ rfl s0 ⟨_, rfl, Below.refl _ _, rfl⟩
     | 11, _ =>
      refine wpOp_step rfl fun K' hK' => ?_
      rw [if_pos (wanted_plain rfl)]
      unfold Oper.wp
      simp only [execOp]
      go_simp
      exact hK' _ _ ⟨_, rfl, below_alT _ _, rfl, TB.new _ zT, by simp⟩
    case stepL =>
     intro ii hii hl a w1 w9 v lo hi' hw
     match ii, hii with
     | 0, _ => exact absurd hl (by decide)
     | 1, _ => exact absurd hl (by decide)
     | 2, _ => exact absurd hl (by decide)
     | 3, _ => exact absurd hl (by decide)
     | 4, _ => exact absurd hl (by decide)
     | 5, _ => exact absurd hl (by decide)
     | 6, _ => exact absurd hl (by decide)
     | 7, _ => exact absurd hl (by decide)
     | 8, _ => exact absurd hl (by decide)
     | 9, _ => exact absurd hl (by decide)
     | 10, _ =>
      obtain ⟨s0, r0⟩ := hw 8 (by omega) (by kernel_rfl)
      obtain ⟨hz0, cs0, e0, k0⟩ : LTB wo S (ed l[i]) q (v 8) (lo 8) (hi' 8) w1 := r0
      rw [e0] at s0
      replace s0 : a.tmps[16]? = some (.tuple #[vTm cs0, .bool q]) := s0
      exact gr_ext2' rfl rfl 16 _ _ rfl s0 ⟨_, rfl, rfl, rfl⟩
     | 11, _ => exact absurd hl (by decide)
    case done =>
     intro a w9 v lo hi' cs hdef hsz hoth hb hj hap hv9 ho11 hv11 hbx
     obtain ⟨_, ⟨hz9, cs9, hv9c, hcs⟩, hlo9, hhi9⟩ := hj 9 (by omega)
     obtain ⟨_, hv10, _, _⟩ := hj 10 (by omega)
     obtain ⟨_, ⟨_, _, hlt11⟩, hlo11, hhi11⟩ := hj 11 (by omega)
     have ha := eq_puts hdef hsz hoth (fun i hi => (hj i hi).1)
     subst ha
     clear hj hoth hdef hsz hap
     change v 10 = _ at hv10
     simp only [puts, List.getD_cons_zero, List.getD_cons_succ, hv9, hv11, hv10]
     generalize v 0 = v0
     generalize v 1 = v1
     generalize v 2 = v2
     generalize v 3 = v3
     generalize v 4 = v4
     generalize v 5 = v5
     generalize v 6 = v6
     generalize v 7 = v7
     generalize v 8 = v8
     simp only [Act.put, List.setIfInBounds_toArray, List.set_cons_zero, List.set_cons_succ]
     show wpList _ _ _ [_] _ _
     have ecs := vTm_inj (hv9c.symm.trans hv9)
     subst ecs
     have hcs2 := TmAt.nbox hbx.nb _ _ hcs
     have hX : Below wo.heap.size wo (w9.setRow (lo 11) cs9.toArray) := below_setRowO hb hlo11 _
     have hcs3 : TmAt (w9.setRow (lo 11) cs9.toArray) (fun b => Upto wo w9 S b ∧ b ≠ lo 11) (ed l[i]) cs9 := TmAt.keep (fun _ h => h) (fun b hb' => setRow_other w9 _ b _ hb'.2) _ _ hcs2
     have T7 : TB (w9.setRow (lo 11) cs9.toArray) (lo 11) cs9 := hbx.set _
     have hszX : (w9.setRow (lo 11) cs9.toArray).heap.size = w9.heap.size := size_setRow _ _ _
     have HCS : Hid (TmAt (w9.setRow (lo 11) cs9.toArray) (fun b => (S b ∨ wo.heap.size ≤ b) ∧ b < (w9.setRow (lo 11) cs9.toArray).heap.size) (ed l[i]) cs9) := hcs3.more fun b hb' => by
      rcases hb'.1 with h0 | ⟨h0, h1⟩
      · have := HSo.out b h0; have := hb.size; exact ⟨.inl h0, by rw [hszX]; omega⟩
      · exact ⟨.inr h0, by rw [hszX]; exact h1⟩
     have H7 : Hid (wo.heap.size ≤ lo 11) := hlo11
     have O11 : Hid (One11 cs9) := ho11
     clear hcs hcs2 hcs3 hbx hb hv9c hv9 hv11 hv10 hz9 hlt11 hlo9 hhi9 hlo11 hhi11 CALL ho11 hszX
     generalize w9.setRow (lo 11) cs9.toArray = X at *
     generalize lo 11 = g7 at *
     have HX := hI hX
     have HT7 := hI T7
     have HWX : Hid (Below w.heap.size w X) := chain2 HB.out hX (Nat.le_refl _)
     have HR0X := hI (HR0.out.keep hX)
     clear hX T7
     cases q with
     | false =>
      have hst : Hid (LiW w X S (w.heap.size + 1) ed ch l (some ⟨b1, o1, none⟩) c (i + 1) ∧ EB2 X w.heap.size (.slice none 0 0) false) := by
       refine ⟨⟨HWX.out, ?_⟩, HR0X.out⟩
       rw [HAT.out, curL_same ed HLT.out (HNi.out rfl), Bool.or_false]
       rcases HM.out with ⟨h1, h2⟩ | ⟨h1, gr, cap, xs, h2, h3, h4⟩
       · exact .inl ⟨h1, h2.keep HX.out⟩
       · exact .inr ⟨h1, gr, cap, xs, h2, h3.keep HX.out, h4.below HX.out⟩
      go_wp2
      go_roundw
      case rel => exact ⟨i + 1, by omega, by go_num, hst⟩
      case measure => simp [intOf]; omega
     | true =>
      have hil : i < l.length := HLT.out
      have HSX : Hid (In S X) := HSo.out.later HX.out.size
      have hg1 : w.heap.size + 1 < wo.heap.size := by
       rcases HM.out with ⟨_, h2⟩ | ⟨_, gr, cap, xs, _, h3, _⟩
       · exact h2.lt
       · exact h3.lt
      rcases HM.out with ⟨h1, h2⟩ | ⟨h1, gr, cap, xs, h2, h3, h4⟩
      · have E1 := hI (h2.keep HX.out)
        have k1 := E1.out.c1
        have CLN := hI (cloneT l (some ⟨b1, o1, none⟩) c X S HSX.out (HA.out.below HS.out HWX.out) hn)
        have HC0 : Hid (curL ed l i = l) := by
         show _ = _
         unfold curL
         rw [map_same (fun x hx => HNE.out x (List.mem_of_mem_take hx)) h1, List.take_append_drop]
        clear HM h2
        go_wp2_with fail
        refine CLN.out.mono ?_
        rintro e w4 ⟨v4, xs, rfl, hm⟩
        obtain ⟨gr, cap, cur, rfl, hgr1, hgr2, hgr3, hcap, hcs, hcur⟩ := hm.block (by omega)
        have E4 := hI (E1.out.keep hm.bel)
        have T74 := hI (HT7.out.keep hm.bel)
        have HC4 : Hid (TmAt w4 (fun b => (S b ∨ wo.heap.size ≤ b) ∧ b < X.heap.size) (ed l[i]) cs9) := TmAt.keep (fun _ h => h) (fun b hb' => hm.bel.block b hb'.2) _ _ HCS.out
        have R04 := hI (HR0X.out.keep hm.bel)
        have hX0 := HX.out.size
        have h70 := H7.out
        have h40 := hm.bel.size
        have hw0 := HB.out.size
        have YM := hm.base (y := #[.slice (some ⟨gr, 0, none⟩) l.length cap, .bool true]) HS.out HWX.out (show w.heap.size ≤ w.heap.size + 1 by omega) (by omega)
        have MY : Hid (MkT S w (w4.setRow (w.heap.size + 1) #[.slice (some ⟨gr, 0, none⟩) l.length cap, .bool true]) (curL ed l i) (.slice (some ⟨gr, 0, none⟩) (curL ed l i).length cap) xs) := by rw [HC0.out]; exact YM
        have EY : Hid (EB2 (w4.setRow (w.heap.size + 1) #[.slice (some ⟨gr, 0, none⟩) l.length cap, .bool true]) (w.heap.size + 1) (.slice (some ⟨gr, 0, none⟩) l.length cap) true) := E4.out.set
        have TY7 : Hid (TB (w4.setRow (w.heap.size + 1) #[.slice (some ⟨gr, 0, none⟩) l.length cap, .bool true]) g7 cs9) := T74.out.other (by omega)
        have hszY : (w4.setRow (w.heap.size + 1) #[.slice (some ⟨gr, 0, none⟩) l.length cap, .bool true]).heap.size = w4.heap.size := size_setRow _ _ _
        have HCY : Hid (TmAt (w4.setRow (w.heap.size + 1) #[.slice (some ⟨gr, 0, none⟩) l.length cap, .bool true]) (fun b => (S b ∨ w.heap.size ≤ b) ∧ b < (w4.setRow (w.heap.size + 1) #[.slice (some ⟨gr, 0, none⟩) l.length cap, .bool true]).heap.size ∧ b ≠ gr) (ed l[i]) cs9) := by
         have j1 : ∀ b, (S b ∨ wo.heap.size ≤ b) ∧ b < X.heap.size → (S b ∨ w.heap.size ≤ b) ∧ b < (w4.setRow (w.heap.size + 1) #[.slice (some ⟨gr, 0, none⟩) l.length cap, .bool true]).heap.size ∧ b ≠ gr := fun b hb' => by
          refine ⟨?_, by rw [hszY]; omega, by omega⟩
          rcases hb'.1 with h0 | h0
          · exact .inl h0
          · exact .inr (by omega)
         have j2 : ∀ b, (S b ∨ wo.heap.size ≤ b) ∧ b < X.heap.size → (w4.setRow (w.heap.size + 1) #[.slice (some ⟨gr, 0, none⟩) l.length cap, .bool true]).heap[b]? = w4.heap[b]? := fun b hb' => by
          refine setRow_other w4 _ b _ ?_
          rcases hb'.1 with h0 | h0
          · have := HS.out b h0; omega
          · omega
         exact TmAt.keep j1 j2 _ _ HC4.out
        have ROW : Hid ((w4.setRow (w.heap.size + 1) #[.slice (some ⟨gr, 0, none⟩) l.length cap, .bool true]).heap[gr]? = some (.cells cur 35 (0, 0))) := (setRow_other w4 _ gr _ (by omega)).trans hgr3
        have THR : Hid ((w4.setRow (w.heap.size + 1) #[.slice (some ⟨gr, 0, none⟩) l.length cap, .bool true]).there gr (i * 11) cs9.toArray.size) := by have e11 : cs9.toArray.size = 11 := (by rw [List.size_toArray]; exact O11.out.1); rw [e11]; exact there_row ROW.out (by omega)
        have RY0 : Hid (EB2 (w4.setRow (w.heap.size + 1) #[.slice (some ⟨gr, 0, none⟩) l.length cap, .bool true]) w.heap.size (.slice none 0 0) false) := (setRow_other w4 _ _ _ (by omega)).trans R04.out
        have ky := EY.out.c0
        have HGW : Hid (w.heap.size ≤ gr) := (by show _ ≤ _; omega)
        have HGR0 : Hid (w.heap.size ≠ gr) := (by show _ ≠ _; omega)
        have HGR1 : Hid (gr ≠ w.heap.size + 1) := (by show _ ≠ _; omega)
        clear hgr1 hgr2 hgr3 hcap hcs hcur hm YM hszY h1 hX0 h70 h40 hw0 hg1 k1
        go_wp2_with (first | ((with_reducible refine EB2.store (u := .slice (some ⟨gr, 0, none⟩) l.length cap) (s := true) (.tmp 5) (.tmp 34) ?_ ?_ ?_ ?_ E4.out ?_ ?_); rfl; rfl; rfl; rfl; rfl; generalize w4.setRow (w.heap.size + 1) #[.slice (some ⟨gr, 0, none⟩) l.length cap, .bool true] = Y at MY EY TY7 HCY ROW THR RY0 ky ⊢) | ((with_reducible refine loadTb (cs := cs9) (.tmp 7) ?_ ?_ ?_ TY7.out ?_ ?_); rfl; rfl; rfl; exact O11.out.1) | ((with_reducible refine wpList_store_mid ?_ 35 (.tmp 39) (.tmp 38) ?_ gr (i * 11) cs9.toArray ?_ ?_ ?_ ?_ ?_ ?_); rfl; rfl; rfl; rfl; exact THR.out; (rw [List.size_toArray, O11.out.1]; kernel_rfl); (rw [Array.all_eq_true_iff_forall_mem]; intro u hu; exact O11.out.2 u (by simpa using hu))))
        have hst : Hid (LiW w (Y.setCells gr (i * 11) cs9) S (w.heap.size + 1) ed ch l (some ⟨b1, o1, none⟩) c (i + 1) ∧ EB2 (Y.setCells gr (i * 11) cs9) w.heap.size (.slice none 0 0) false) := by
         have hset := MY.out.set ROW.out HGW.out (i := i) (by rw [curL_len]; exact HLT.out) HCY.out
         have hoth : ∀ b, b ≠ gr → (Y.setCells gr (i * 11) cs9).heap[b]? = Y.heap[b]? := fun b hb => by
          rw [setCells_row (t := 35) cs9 (i * 11) cur.toList Y (by simpa using ROW.out)]
          exact setRow_other Y gr b _ hb
         rw [curL_step ed HLT.out] at hset
         refine ⟨⟨hset.bel, ?_⟩, (hoth _ HGR0.out).trans RY0.out⟩
         rw [HAT.out]
         exact .inr ⟨by rw [Bool.or_true], gr, cap, _, HGR1.out, (hoth _ (Ne.symm HGR1.out)).trans EY.out, hset⟩
        clear MY HCY ROW EY RY0
        generalize Y.setCells gr (i * 11) cs9 = Z at hst ⊢
        go_wp2
        go_roundw
        case rel => exact ⟨i + 1, by omega, by go_num, hst⟩
        case measure => simp [intOf]; omega
      · have E1 := hI (h3.keep HX.out)
        have k1 := E1.out.c1
        have k0 := E1.out.c0
        have MX := h4.below HX.out
        obtain ⟨gr', cap', cur, ev, hgr1, hgr2, hgr3, hcap, hcs, hcur⟩ := MX.block (by rw [curL_len]; omega)
        have egr : gr' = gr ∧ cap' = cap := by
         injection ev with e1 e2 e3
         injection e1 with e1
         injection e1 with e1
         exact ⟨e1.symm, e3.symm⟩
        obtain ⟨rfl, rfl⟩ := egr
        have h4own := own_lt h4.own gr' rfl
        have hX0 := HX.out.size
        have h70 := H7.out
        rw [curL_len] at hcap
        have MY := hI MX
        have EY := E1
        have TY7 := HT7
        have HCY : Hid (TmAt X (fun b => (S b ∨ w.heap.size ≤ b) ∧ b < X.heap.size ∧ b ≠ gr') (ed l[i]) cs9) := HCS.out.more fun b hb' => by
         have hw0 := HB.out.size
         rcases hb'.1 with h0 | h0
         · have := HS.out b h0; exact ⟨.inl h0, hb'.2, by omega⟩
         · exact ⟨.inr (by omega), hb'.2, by omega⟩
        have ROW := hI hgr3
        have THR : Hid (X.there gr' (i * 11) cs9.toArray.size) := by have e11 : cs9.toArray.size = 11 := (by rw [List.size_toArray]; exact O11.out.1); rw [e11]; exact there_row ROW.out (by omega)
        have RY0 := HR0X
        have HGW : Hid (w.heap.size ≤ gr') := h4own.1
        have HGR0 : Hid (w.heap.size ≠ gr') := fun e => by
         have h5 := RY0.out
         rw [e] at h5
         unfold EB2 at h5
         rw [ROW.out] at h5
         injection h5 with h5
         injection h5 with _ h5
         exact absurd h5 (by decide)
        have HGR1 := hI h2
        clear hgr1 hgr2 hgr3 hcap hcs hcur MX h1 hX0 h70 hg1 h4 h3 h2 HM h4own ev
        go_wp2_with (first | ((with_reducible refine loadTb (cs := cs9) (.tmp 7) ?_ ?_ ?_ TY7.out ?_ ?_); rfl; rfl; rfl; exact O11.out.1) | ((with_reducible refine wpList_store_mid ?_ 35 (.tmp 39) (.tmp 38) ?_ gr' (i * 11) cs9.toArray ?_ ?_ ?_ ?_ ?_ ?_); rfl; rfl; rfl; rfl; exact THR.out; (rw [List.size_toArray, O11.out.1]; kernel_rfl); (rw [Array.all_eq_true_iff_forall_mem]; intro u hu; exact O11.out.2 u (by simpa using hu))))
        have hst : Hid (LiW w (X.setCells gr' (i * 11) cs9) S (w.heap.size + 1) ed ch l (some ⟨b1, o1, none⟩) c (i + 1) ∧ EB2 (X.setCells gr' (i * 11) cs9) w.heap.size (.slice none 0 0) false) := by
         have hset := MY.out.set ROW.out HGW.out (i := i) (by rw [curL_len]; exact HLT.out) HCY.out
         have hoth : ∀ b, b ≠ gr' → (X.setCells gr' (i * 11) cs9).heap[b]? = X.heap[b]? := fun b hb => by
          rw [setCells_row (t := 35) cs9 (i * 11) cur.toList X (by simpa using ROW.out)]
          exact setRow_other X gr' b _ hb
         rw [curL_step ed HLT.out] at hset
         refine ⟨⟨hset.bel, ?_⟩, (hoth _ HGR0.out).trans RY0.out⟩
         rw [HAT.out]
         exact .inr ⟨by rw [Bool.or_true], gr', cap', _, HGR1.out, (hoth _ (Ne.symm HGR1.out)).trans EY.out, hset⟩
        clear MY HCY ROW EY RY0
        generalize X.setCells gr' (i * 11) cs9 = Z at hst ⊢
        go_wp2
        go_roundw
        case rel => exact ⟨i + 1, by omega, by go_num, hst⟩
        case measure => simp [intOf]; omega
  · have hiL : i = l.length := by omega
    have hn2 : ¬ (i : Int) < (l.length : Int) := by omega
    have hMM : ∃ v r, EB2 wo (w.heap.size + 1) v r ∧ TsV wo (Upto w wo S) (l.map ed) v ∧ r = l.any ch := by
     rcases hM with ⟨h1, h2⟩ | ⟨h1, gr, cap, xs, h2, h3, h4⟩
     · rw [hiL, List.take_length] at h1
       refine ⟨_, _, h2, ?_, h1.symm⟩
       rw [map_same HNE.out h1]
       exact ⟨A, c, rfl, (HA.out.below HS.out hb0).more fun b hb => .inl hb⟩
     · rw [hiL, List.take_length] at h1
       refine ⟨_, _, h3, ?_, h1.symm⟩
       have := h4.slice
       rw [hiL, curL_len, curL_end] at this
       exact this
    obtain ⟨v, r, hE1, hT, rfl⟩ := hMM
    have hg1 := hE1.lt
    have HE1 := hI hE1
    have HT := hI hT
    have HR := hI hR0
    have HB := hI hb0
    have hv1 : v.oneCell' = true := by obtain ⟨A', c', e, _⟩ := hT; rw [e]; rfl
    clear hE1 hT hR0 hb0 hM hiL hlt
    generalize l.any ch = r at *
    go_wp2_with (first | ((with_reducible refine EB2.load (.tmp 5) ?_ ?_ ?_ HE1.out ?_); rfl; rfl; rfl) | ((with_reducible refine EB2.store (u := v) (s := r) (.tmp 4) (.tmp 41) ?_ ?_ ?_ ?_ HR.out ?_ ?_); rfl; rfl; rfl; rfl; exact hv1))
    refine retEB2 rfl rfl HR.out.set ⟨v, rfl, ?_, below_setRowO HB.out (Nat.le_refl _) _⟩
    refine (HT.out.nbox HR.out.nb).keep (fun b hb => ?_) (fun b hb => setRow_other wo _ b _ hb.2)
    rcases hb.1 with h | ⟨h, h'⟩
    · exact .inl h
    · exact .inr ⟨h, by rw [size_setRow]; exact h'⟩
end Go.Proofs.YtinjhnnpbejccaaGreatDoor
