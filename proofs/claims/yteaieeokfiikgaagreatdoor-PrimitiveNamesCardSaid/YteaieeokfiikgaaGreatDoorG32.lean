/- The results as cells; small arguments. -/
import Derived.Test.YteaieeokfiikgaaGreatDoorG30
import Derived.Test.YteaieeokfiikgaaGreatDoorG19
import Derived.Test.YteaieeokfiikgaaGreatDoorG29
import Derived.Test.YteaieeokfiikgaaGreatDoorG20
import Derived.Test.YteaieeokfiikgaaGreatDoorG31
namespace Go.Proofs.YteaieeokfiikgaaGreatDoor
open Go Go.RowKit
set_option linter.unusedVariables false
def Us (w : World) (r : Option Ob × Int) (cs : Array Value) : Prop := cs.size = 7 ∧ cs.all (·.oneCell') = true ∧ match r.1 with
 | some o => ∃ p, cs = (cellsO o p).toArray ∧ Hd w o p
 | none => cs = zeroC
theorem Us.below {w w' : World} {r : Option Ob × Int} {cs : Array Value} (h : Us w r cs) (hb : Below w.heap.size w w') : Us w' r cs := by
 obtain ⟨h1, h2, h3⟩ := h
 obtain ⟨o, n⟩ := r
 cases o with
 | none => exact ⟨h1, h2, h3⟩
 | some o =>
  obtain ⟨p, h4, h5⟩ : ∃ p, cs = (cellsO o p).toArray ∧ Hd w o p := h3
  exact ⟨h1, h2, p, h4, h5.below hb⟩
def RetU (w : World) (r : Option Ob × Int) (e : Ending) (w' : World) : Prop := ∃ cs, e = .returned (.tuple #[.agg cs, .int .i64 r.2]) ∧ Us w' r cs ∧ Below w.heap.size w w'
theorem RetE.u {w w' : World} {r : Option Ob × Int} {e : Ending} (h : RetE w r e w') : RetU w r e w' := by
 obtain ⟨o, n⟩ := r
 cases o with
 | none =>
  obtain ⟨h1, h2⟩ : e = .returned (.tuple #[.agg zeroC, .int .i64 n]) ∧ Below w.heap.size w w' := h
  exact ⟨zeroC, h1, ⟨rfl, by simp [zeroC, Value.oneCell'], rfl⟩, h2⟩
 | some o =>
  obtain ⟨p, h1, h2, h3⟩ : ∃ p, e = .returned (.tuple #[vO o p, .int .i64 n]) ∧ Hd w' o p ∧ Below w.heap.size w w' := h
  exact ⟨(cellsO o p).toArray, h1, ⟨by rw [List.size_toArray, cellsO_length], Pair.one h2, p, rfl, h2⟩, h3⟩
theorem eqSelfU (k : Int) (s1 s2 s3 s4 s5 : ByteArray) : eqS s1 s2 s3 s4 s5 s1 s2 s3 s4 s5 = true := by unfold eqS; simp
theorem eqU {w : World} {r : Option Ob × Int} {cs ds : Array Value} (h : Us w r cs) (h' : Us w r ds) : Calls Tryz.prog 22 #[.agg cs, .agg ds] w (RetB w true) := by
 obtain ⟨o, n⟩ := r
 obtain ⟨_, _, h3⟩ := h
 obtain ⟨_, _, h4⟩ := h'
 cases o with
 | none =>
  obtain rfl : cs = zeroC := h3
  obtain rfl : ds = zeroC := h4
  have h := eqFlat 0 ⟨#[]⟩ ⟨#[]⟩ ⟨#[]⟩ ⟨#[]⟩ ⟨#[]⟩ ⟨#[]⟩ ⟨#[]⟩ ⟨#[]⟩ ⟨#[]⟩ ⟨#[]⟩ w
  rw [eqSelfU 0] at h
  exact h
 | some o =>
  obtain ⟨p, rfl, hp⟩ : ∃ p, cs = (cellsO o p).toArray ∧ Hd w o p := h3
  obtain ⟨q, rfl, hq⟩ : ∃ p, ds = (cellsO o p).toArray ∧ Hd w o p := h4
  have h := equalO o o p q w (Has w) (In.has w) hp hq
  rw [decide_eq_true rfl] at h
  exact h
theorem storeU {ops : Array Oper} {rest : List Oper} {o : Oper} {a : Act} {w : World} {Q : Exit → Act → World → Prop} {g : Nat} {cs : Array Value} {x0 x1 x2 x3 x4 x5 x6 : Value} {w1 : World} {r : Option Ob × Int} (x y : Operand) (ho : o.op = .store 36 x y) (hgd : o.guard = none)
 (hx : a.eval x = .pointer (some ⟨g, 0, none⟩)) (hy : a.eval y = .agg cs) (hp : Us w1 r cs) (hg : Bx w g #[x0, x1, x2, x3, x4, x5, x6])
 (h : wpList Tryz.prog ops Q rest (a.put o.dst undef) (w.setRow g cs)) : wpList Tryz.prog ops Q (o :: rest) a w :=
 storeO hgd x y ho g cs hx hy _ _ hg rfl hp.1 hp.2.1 h
theorem loadU {ops : Array Oper} {rest : List Oper} {o : Oper} {a : Act} {w w1 : World} {Q : Exit → Act → World → Prop} {g : Nat} {cs : Array Value} {r : Option Ob × Int} (x : Operand) (ho : o.op = .load 36 x) (hgd : o.guard = none)
 (hx : a.eval x = .pointer (some ⟨g, 0, none⟩)) (hb : Bx w g cs) (hp : Us w1 r cs)
 (h : wpList Tryz.prog ops Q rest (a.put o.dst (.agg cs)) w) : wpList Tryz.prog ops Q (o :: rest) a w :=
 wpList_load_row hgd 36 x ho g hx _ _ _ _ hb Tryz.underlying36 rfl (by rw [hp.1]; kernel_rfl) h
theorem loadUG {ops : Array Oper} {rest : List Oper} {o : Oper} {a : Act} {w w1 : World} {Q : Exit → Act → World → Prop} {g : Nat} {cs : Array Value} {r : Option Ob × Int} (x : Operand) (ho : o.op = .load 36 x) (hw : Region.wanted o (yielded ops a.tmps) = true)
 (hx : a.eval x = .pointer (some ⟨g, 0, none⟩)) (hb : Bx w g cs) (hp : Us w1 r cs)
 (h : wpList Tryz.prog ops Q rest (a.put o.dst (.agg cs)) w) : wpList Tryz.prog ops Q (o :: rest) a w := by
 unfold wpList
 rw [if_pos hw]
 exact .inl (wp_load_row 36 x ho g hx _ _ _ _ hb Tryz.underlying36 rfl (by rw [hp.1]; kernel_rfl) h)
theorem boxU (w : World) (z cs : Array Value) : Below w.heap.size w (World.setRow (w.alloc (.cells z 36)) w.heap.size cs) ∧ Bx (World.setRow (w.alloc (.cells z 36)) w.heap.size cs) w.heap.size cs := by
 have T := Bx1.new w z
 exact ⟨below_setRowO T.bel (Nat.le_refl _) _, T.b0.set⟩
theorem MkL.ar {B : Nat} {W wr : World} {l : List Rw} {i : Nat} {v : Value} {xs : List (Ob × Value)} (h : MkL B W wr l i v xs) : Ar wr (fsts xs) v := by
 have hl : (fsts xs).length = i := by simp [fsts, h.len]
 have ho := own_lt h.own
 rcases h.own.2 with ⟨rfl, rfl⟩ | ⟨g, cap, cur, rfl, hb, hh, hn, _, hcs, hcur⟩
 · exact ⟨none, 0, by rw [hl], by omega, fun h0 => by omega⟩
 · have hOb : ObsAt wr (Has wr) g 0 (fsts xs) := obsAt_row xs 0 (fun x hx => (h.pairs x hx).more fun b hb => hb.2.1) (fun j u hj => by
    rw [Nat.zero_add, cell_of_row _ _ _ _ _ _ hh]
    rw [← hcur] at hj
    rw [List.getElem?_take] at hj
    split at hj
    · simpa using hj
    · cases hj)
   refine ⟨_, cap, by rw [hl], by omega, fun _ => ⟨g, 0, rfl, fun k hk => ?_⟩⟩
   obtain ⟨p, h1, h2⟩ := hOb.get hk
   exact ⟨p, ⟨(ho g rfl).2, _, _, hh⟩, h2, h1⟩
theorem list_bd {k : Nat} : ∀ {l : List Ob}, (Ob.list l).bd k → ∀ o ∈ l, o.bd k
 | [], _, o, ho => by cases ho
 | a :: l, h, o, ho => by
  rcases List.mem_cons.1 ho with rfl | ho
  · exact h.1
  · exact list_bd (l := l) h.2 o ho
theorem list_nd {m : Nat} : ∀ {l : List Ob}, (Ob.list l).nodes ≤ m → ∀ o ∈ l, o.nodes ≤ m
 | [], _, o, ho => by cases ho
 | a :: l, h, o, ho => by
  have h' : 1 + a.nodes + (Ob.list l).nodes ≤ m := h
  rcases List.mem_cons.1 ho with rfl | ho
  · omega
  · exact list_nd (l := l) (by omega) o ho
def RetAr (w : World) (n : Nat) (e : Ending) (w' : World) : Prop := ∃ os v, e = .returned v ∧ Ar w' os v ∧ os.length = n ∧ (∀ o ∈ os, Sml o) ∧ Below w.heap.size w w'
theorem RetXs.ar {w w' : World} {l : List Rw} {e : Ending} (h : RetXs w l e w') (hc : 1 + 4 * Rw.cnts l ≤ 1000) : RetAr w l.length e w' := by
 obtain ⟨v, xs, rfl, hM⟩ := h
 have hn := hM.nodes
 rw [List.take_length] at hn
 exact ⟨fsts xs, v, rfl, hM.ar, by have := hM.len; simp [fsts, this], fun o ho => ⟨list_bd hM.bd o ho, list_nd (Nat.le_trans hn hc) o ho⟩, hM.bel⟩
theorem cnts_le : ∀ (k : List Rw) (m : Nat), (∀ i (hi : i < k.length), few k[i] m = true) → Rw.cnts k ≤ m * k.length := by
 intro k m
 induction k with
 | nil => intro _; simp [Rw.cnts]
 | cons a k ih =>
  intro h
  have h1 := (few_ok (h 0 (by simp))).2
  have h2 := ih (fun i hi => h (i + 1) (by simpa using hi))
  simp only [List.getElem_cons_zero] at h1
  simp only [Rw.cnts, List.length_cons, Nat.mul_add]
  omega
theorem applyPS (i : Nat) (hi : i < 25) (l : List Ob) (v : Value) (w : World) (hv : Ar w l v) (hs : ∀ o ∈ l, Sml o) (ht : Tab w) : Calls Tryz.prog 20 #[.agg #[.string (BA lispB), .string (nmS i)], v] w (RetU w (appV true (some i) l)) := by
 have h := applyPall (BA lispB) (nmS i) l v w hv true ht (fun o ho => (hs o ho).fine) (fun j _ _ o ho => (hs o ho).ints) (fun j hj hl W q hq _ => by
  rw [fnd_at i hi] at hj; injection hj with hj; subst hj
  exact validGP _ q W (primV_good i l hi hl hs) hq)
 rw [fnd_at i hi] at h
 exact h.mono fun _ _ h => h.u
theorem applyRS (i : Nat) (hi : i < 25) (l : List Ob) (v : Value) (w : World) (hv : Ar w l v) (hs : ∀ o ∈ l, Sml o) (ht : Tab w) : Calls Tryz.prog 21 #[.agg #[.string (BA lispB), .string (nmS i)], v] w (RetU w (appV true (some i) l)) := by
 have h := applyRall (BA lispB) (nmS i) l v w hv true ht (fun o ho => (hs o ho).fine) (fun j _ _ o ho => (hs o ho).ints) (fun j hj hl W q hq _ => by
  rw [fnd_at i hi] at hj; injection hj with hj; subst hj
  exact validGR _ q W (primV_good i l hi hl hs) hq)
 rw [fnd_at i hi] at h
 exact h.mono fun _ _ h => h.u
theorem guardPS (i : Nat) (hi : i < 25) (l : List Ob) (v : Value) (w : World) (hv : Ar w l v) (hs : ∀ o ∈ l, Sml o) (ht : Tab w) : Calls Tryz.prog 24 #[.agg #[.string (BA lispB), .string (nmS i)], v] w (RetB w (grdV (some i) l)) := by
 have h := guardPall (BA lispB) (nmS i) l v w hv ht (fun o ho => (hs o ho).fine) (fun j _ _ o ho => (hs o ho).ints)
 rw [fnd_at i hi] at h
 exact h
theorem guardRS (i : Nat) (hi : i < 25) (l : List Ob) (v : Value) (w : World) (hv : Ar w l v) (hs : ∀ o ∈ l, Sml o) (ht : Tab w) : Calls Tryz.prog 25 #[.agg #[.string (BA lispB), .string (nmS i)], v] w (RetB w (grdV (some i) l)) := by
 have h := guardRall (BA lispB) (nmS i) l v w hv ht (fun o ho => (hs o ho).fine) (fun j _ o ho => (hs o ho).ints)
 rw [fnd_at i hi] at h
 exact h
end Go.Proofs.YteaieeokfiikgaaGreatDoor
