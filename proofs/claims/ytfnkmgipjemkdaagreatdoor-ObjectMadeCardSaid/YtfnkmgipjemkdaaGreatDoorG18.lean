/- Raw trees as arguments: what memory reads as a tree's datum is a tree. -/
import Derived.Test.YtfnkmgipjemkdaaGreatDoorG14
import Derived.Deep.Fields
import Derived.Deep.Slices
import Derived.ChangeSame
import Derived.ChangeShapes
import Derived.Carry
import Derived.OpenShut
import Derived.Test.YtfnkmgipjemkdaaGreatDoorG17
import Derived.Test.YtfnkmgipjemkdaaGreatDoorG16
namespace Go.Proofs.YtfnkmgipjemkdaaGreatDoor
open Go Go.RowKit Go.ChangeShapes Go.WideShapes Go.Deep
set_option linter.unusedVariables false

/-- The blocks that the world has. -/
def Has (w : World) (b : Nat) : Prop := b < w.heap.size
theorem In.has (w : World) : In (Has w) w := fun _ h => h
theorem cell_has {w : World} {a : Addr} {v : Value} (h : w.cell? a = some v) : Has w a.block ∧ a.spot = none := by
  unfold World.cell? at h
  have hlt : a.block < w.heap.size := by
    rcases Nat.lt_or_ge a.block w.heap.size with h1 | h1
    · exact h1
    · rw [Array.getElem?_eq_none h1] at h; cases h
  refine ⟨hlt, ?_⟩
  split at h
  · split at h
    · cases h
    · rename_i hs
      cases hsp : a.spot with
      | none => rfl
      | some x => rw [hsp] at hs; simp at hs
  · cases h
theorem RawsAt.of {w : World} {S : Nat → Prop} {b : Nat} : ∀ (l : List Rw) (o : Nat), (∀ i (hi : i < l.length), ∃ cs, RawAt w S l[i] cs ∧ ∀ j u, cs[j]? = some u → w.cell? ⟨b, o + i * 4 + j, none⟩ = some u) → RawsAt w S b o l
  | [], o, _ => by unfold RawsAt; trivial
  | r :: rs, o, h => by
    unfold RawsAt
    refine ⟨?_, RawsAt.of rs (o + 4) fun i hi => ?_⟩
    · obtain ⟨cs, h1, h2⟩ := h 0 (by simp)
      exact ⟨cs, h1, fun j u hj => by have := h2 j u hj; rwa [Nat.zero_mul, Nat.add_zero] at this⟩
    · obtain ⟨cs, h1, h2⟩ := h (i + 1) (by simpa using hi)
      exact ⟨cs, h1, fun j u hj => by rw [show o + 4 + i * 4 + j = o + (i + 1) * 4 + j from by omega]; exact h2 j u hj⟩

section
variable {H : Type} {enc : TypeId × Value → H} {w : World} {spare : Nat → Bool} {held : Bool}
/-- The elements of a slice of trees, where each element is a tree. -/
theorem raws_of {a : Addr} {len : Nat} (h : ∀ i, i < len → ∃ cs r, w.cells? 0 (a.add (i * 4)) 4 = some cs ∧ RawAt w (Has w) r cs) :
    ∃ l : List Rw, l.length = len ∧ (0 < len → ∃ b o, a = ⟨b, o, none⟩ ∧ Has w b ∧ RawsAt w (Has w) b o l) := by
  classical
  let f : Nat → Rw := fun i => if hi : i < len then Classical.choose (Classical.choose_spec (h i hi)) else .mk 0 0 ⟨#[]⟩ []
  have hf : ∀ i, i < len → ∃ cs, w.cells? 0 (a.add (i * 4)) 4 = some cs ∧ RawAt w (Has w) (f i) cs := fun i hi => by
    have := Classical.choose_spec (Classical.choose_spec (h i hi))
    refine ⟨Classical.choose (h i hi), this.1, ?_⟩
    show RawAt w (Has w) (if hi : i < len then Classical.choose (Classical.choose_spec (h i hi)) else .mk 0 0 ⟨#[]⟩ []) _
    rw [dif_pos hi]
    exact this.2
  refine ⟨(List.range len).map f, by simp, fun h0 => ?_⟩
  obtain ⟨cs0, hc0, _⟩ := hf 0 h0
  obtain ⟨_, hl0, hat0⟩ := World.cells?_some hc0
  have hg := hat0 0 (by omega)
  rw [List.getElem?_eq_getElem (by omega)] at hg
  have ha : (a.add (0 * 4)).add 0 = a := by simp [Addr.add]
  rw [ha] at hg
  obtain ⟨hb, hs⟩ := cell_has hg
  obtain ⟨b, o, sp⟩ := a
  simp only at hs hb
  subst hs
  refine ⟨b, o, rfl, hb, RawsAt.of _ _ fun i hi => ?_⟩
  have hi' : i < len := by simpa using hi
  obtain ⟨cs, hc, hr⟩ := hf i hi'
  obtain ⟨_, hl, hat⟩ := World.cells?_some hc
  refine ⟨cs, by simpa using hr, fun j u hj => ?_⟩
  have hjl : j < 4 := by
    rcases Nat.lt_or_ge j 4 with h1 | h1
    · exact h1
    · rw [List.getElem?_eq_none (by omega)] at hj; cases hj
  have e := hat j hjl
  rw [hj, Go.Deep.add_add] at e
  have e2 : (Addr.add ⟨b, o, none⟩ (i * 4 + j)) = ⟨b, o + i * 4 + j, none⟩ := by
    unfold Addr.add
    split
    · rename_i hz; rw [show o + i * 4 + j = o by omega]
    · simp [Nat.add_assoc]
  rw [e2] at e
  exact e

theorem i64_wf {n : Int} (h : (Lit.int .i64 n).wf = true) : I64 n := bounds_i64 h

set_option maxRecDepth 100000 in
theorem open_raw : ∀ (fuel : Nat) (cs : List Value) (x : DataW H × List MemPlace), DataW.trod enc Tryz.prog w 0 spare held fuel 26 cs = some x → ∃ r, RawAt w (Has w) r cs := by
  intro fuel
  induction fuel using Nat.strongRecOn with
  | _ fuel ih =>
    intro cs x h
    obtain ⟨xs, n, rfl, hx, hlen, hxl, hf⟩ := DataW.trod_struct Tryz.underlying26 h
    have hlen' : cs.length = 4 := hlen.trans (by kernel_rfl)
    match cs, hlen' with
    | [c0, c1, c2, c3], _ =>
      have hxl' : xs.length = 4 := hxl
      match xs, hxl' with
      | [y0, y1, y2, y3], _ =>
        have k0 : Tryz.prog.cellsOf 3 = 1 := by kernel_rfl
        have k2 : Tryz.prog.cellsOf 9 = 1 := by kernel_rfl
        have k3 : Tryz.prog.cellsOf 24 = 1 := by kernel_rfl
        have f0 : DataW.trod enc Tryz.prog w 0 spare held n 3 (([c0, c1, c2, c3].drop 0).take (Tryz.prog.cellsOf 3)) = some y0 := hf 0 _ rfl
        have f1 : DataW.trod enc Tryz.prog w 0 spare held n 3 (([c0, c1, c2, c3].drop 1).take (Tryz.prog.cellsOf 3)) = some y1 := hf 1 _ rfl
        have f2 : DataW.trod enc Tryz.prog w 0 spare held n 9 (([c0, c1, c2, c3].drop 2).take (Tryz.prog.cellsOf 9)) = some y2 := hf 2 _ rfl
        have f3 : DataW.trod enc Tryz.prog w 0 spare held n 24 (([c0, c1, c2, c3].drop 3).take (Tryz.prog.cellsOf 24)) = some y3 := hf 3 _ rfl
        rw [k0] at f0 f1
        rw [k2] at f2
        rw [k3] at f3
        obtain ⟨k, e0, _, w0⟩ := DataW.trod_int Tryz.underlying3 (show DataW.trod enc Tryz.prog w 0 spare held n 3 [c0] = some y0 from f0)
        obtain ⟨m, e1, _, w1⟩ := DataW.trod_int Tryz.underlying3 (show DataW.trod enc Tryz.prog w 0 spare held n 3 [c1] = some y1 from f1)
        obtain ⟨s, e2, _, w2⟩ := DataW.trod_string Tryz.underlying9 (show DataW.trod enc Tryz.prog w 0 spare held n 9 [c2] = some y2 from f2)
        injection e0 with e0
        injection e1 with e1
        injection e2 with e2
        subst e0 e1 e2
        have f3' : DataW.trod enc Tryz.prog w 0 spare held n 24 [c3] = some y3 := f3
        rcases DataW.trod_slice Tryz.underlying24 f3' with ⟨e3, _⟩ | ⟨a, len, cap, elems, rest, n', hn, e3, _, _, hlc, hcm, hel, hat, _, _⟩
        · injection e3 with e3
          subst e3
          refine ⟨.mk k m s [], ?_⟩
          unfold RawAt
          exact ⟨none, 0, rfl, i64_wf w0, i64_wf w1, Nat.le_refl _, Nat.zero_le _, fun h => by simp at h⟩
        · injection e3 with e3
          subst e3
          have hC : Tryz.prog.cellsOf 26 = 4 := by kernel_rfl
          rw [hC] at hat
          have hall : ∀ i, i < len → ∃ cs r, w.cells? 0 (a.add (i * 4)) 4 = some cs ∧ RawAt w (Has w) r cs := fun i hi => by
            have e := hat i hi
            rw [List.getElem?_eq_getElem (by omega)] at e
            obtain ⟨cs', h1, h2⟩ := Option.bind_eq_some_iff.1 e
            obtain ⟨r, hr⟩ := ih n' (by omega) cs' _ h2
            exact ⟨cs', r, h1, hr⟩
          obtain ⟨l, hl, hA⟩ := raws_of hall
          refine ⟨.mk k m s l, ?_⟩
          unfold RawAt
          refine ⟨some a, cap, by rw [hl], i64_wf w0, i64_wf w1, by omega, hcm, fun h0 => ?_⟩
          obtain ⟨b, o, e, hb, hr⟩ := hA (by omega)
          exact ⟨b, o, by rw [e], hb, hr⟩
set_option maxRecDepth 100000 in
/-- A tree that came in as an argument. -/
theorem open_rawv {r : Reach} {b0 : Nat} {v : Value} {d : DataW H} {p : List MemPlace} (hv : Value.okWide Tryz.prog w r b0 26 v) (h : DataW.Trod enc Tryz.prog w 0 spare held 26 v d p) :
    ∃ (t : Rw) (cs : List Value), v = .agg cs.toArray ∧ RawAt w (Has w) t cs := by
  obtain ⟨cs, rfl, _⟩ := okWide_struct Tryz.underlying26 hv
  obtain ⟨fuel, hf⟩ := h
  obtain ⟨t, ht⟩ := open_raw fuel _ _ hf
  exact ⟨t, cs.toList, by simp, ht⟩
set_option maxRecDepth 100000 in
/-- A slice of trees that came in as an argument. -/
theorem open_raws {r : Reach} {b0 : Nat} {v : Value} {d : DataW H} {p : List MemPlace} (hv : Value.okWide Tryz.prog w r b0 24 v) (h : DataW.Trod enc Tryz.prog w 0 spare held 24 v d p) :
    ∃ (l : List Rw) (A : Option Addr) (c : Nat), v = .slice A l.length c ∧ l.length ≤ c ∧ c ≤ maxLen ∧ (0 < l.length → ∃ b o, A = some ⟨b, o, none⟩ ∧ Has w b ∧ RawsAt w (Has w) b o l) := by
  have hone : v.cells.toList = [v] ∨ ∃ cs, v = .agg cs := by
    cases v <;> first | exact .inl rfl | exact .inr ⟨_, rfl⟩
  obtain ⟨fuel, hf⟩ := h
  rcases hone with hone | ⟨cs, rfl⟩
  · rw [hone] at hf
    rcases DataW.trod_slice Tryz.underlying24 hf with ⟨e3, _⟩ | ⟨a, len, cap, elems, rest, n', hn, e3, _, _, hlc, hcm, hel, hat, _, _⟩
    · injection e3 with e3
      subst e3
      exact ⟨[], none, 0, rfl, Nat.le_refl _, Nat.zero_le _, fun h => by simp at h⟩
    · injection e3 with e3
      subst e3
      have hC : Tryz.prog.cellsOf 26 = 4 := by kernel_rfl
      rw [hC] at hat
      have hall : ∀ i, i < len → ∃ cs r, w.cells? 0 (a.add (i * 4)) 4 = some cs ∧ RawAt w (Has w) r cs := fun i hi => by
        have e := hat i hi
        rw [List.getElem?_eq_getElem (by omega)] at e
        obtain ⟨cs', h1, h2⟩ := Option.bind_eq_some_iff.1 e
        obtain ⟨r, hr⟩ := open_raw n' cs' _ h2
        exact ⟨cs', r, h1, hr⟩
      obtain ⟨l, hl, hA⟩ := raws_of hall
      refine ⟨l, some a, cap, by rw [hl], by omega, hcm, fun h0 => ?_⟩
      obtain ⟨b, o, e, hb, hr⟩ := hA (by omega)
      exact ⟨b, o, by rw [e], hb, hr⟩
  · exfalso
    unfold Value.okWide at hv
    rw [Tryz.underlying24] at hv
    simp [Cell.okWide, Cell.ok] at hv
set_option maxRecDepth 100000 in
/-- .. its four cells written out. -/
theorem open_raw4 {rc : Reach} {b0 : Nat} {v : Value} {d : DataW H} {p : List MemPlace} (hv : Value.okWide Tryz.prog w rc b0 26 v) (h : DataW.Trod enc Tryz.prog w 0 spare held 26 v d p) :
    ∃ (t : Rw) (z0 z1 z2 z3 : Value), v = .agg #[z0, z1, z2, z3] ∧ RawAt w (Has w) t [z0, z1, z2, z3] := by
  obtain ⟨t, cs, rfl, ht⟩ := open_rawv hv h
  cases t with
  | mk k n s l =>
    have ht' := ht
    unfold RawAt at ht'
    obtain ⟨A, c, rfl, _⟩ := ht'
    exact ⟨_, _, _, _, _, rfl, ht⟩
end
end Go.Proofs.YtfnkmgipjemkdaaGreatDoor

/- What the laws over made objects share. -/
namespace Go.Proofs.YtfnkmgipjemkdaaGreatDoor
open Go Go.RowKit
set_option linter.unusedVariables false

def mkR (kd : Nat → Nat) (raw : Nat → Value) (M : Nat) (i : Nat) (v : Value) (lo hi : Nat) (w : World) : Prop :=
  match kd i with
  | 0 => v = raw i
  | 1 => ∃ o p, v = vO o p ∧ Pair w (fun b => lo ≤ b ∧ b < hi) o p ∧ OkO M o
  | _ => v = .pointer (some ⟨lo, 0, none⟩) ∧ w.heap[lo]? = some (.cells #[.int .i64 0, .string ⟨#[]⟩, .string ⟨#[]⟩, .string ⟨#[]⟩, .string ⟨#[]⟩, .string ⟨#[]⟩, .slice none 0 0] 31 (0, 0)) ∧ lo < hi
theorem mkR_mono {kd : Nat → Nat} {raw : Nat → Value} {M : Nat} : ∀ i x l m w w', mkR kd raw M i x l m w → m ≤ w.heap.size → Below w.heap.size w w' → mkR kd raw M i x l m w' := by
  intro i x l m w w' h hm hb
  unfold mkR at h ⊢
  generalize kd i = k at h ⊢
  match k, h with
  | 0, h => exact h
  | 1, ⟨o, p, h1, h2, h3⟩ => exact ⟨o, p, h1, h2.below (fun b hb => by omega) hb, h3⟩
  | k + 2, ⟨h1, h2, h3⟩ => exact ⟨h1, (hb.block _ (by omega)).trans h2, h3⟩
/-- Checks over the slots of a region. -/
def injL (l : List Nat) : Bool := (List.range l.length).all fun i => (List.range l.length).all fun j => decide (l.getD i 0 = l.getD j 0 → i = j)
theorem inj_getD (l : List Nat) (h : injL l = true) (i j : Nat) (hi : i < l.length) (hj : j < l.length) (e : l.getD i 0 = l.getD j 0) : i = j := by
  have h1 := List.all_eq_true.1 h i (List.mem_range.2 hi)
  have h2 := List.all_eq_true.1 h1 j (List.mem_range.2 hj)
  exact of_decide_eq_true h2 e
theorem lt_getD (m : Nat) (l : List Nat) (h : (l.all fun x => decide (x < m)) = true) (i : Nat) (hi : i < l.length) : l.getD i 0 < m := by
  have h1 := List.all_eq_true.1 h l[i] (List.getElem_mem hi)
  rw [List.getD_eq_getElem?_getD, List.getElem?_eq_getElem hi]
  exact of_decide_eq_true h1
theorem ne_getD (m : Nat) (l : List Nat) (h : (l.all fun x => decide (x ≠ m)) = true) (i : Nat) (hi : i < l.length) : l.getD i 0 ≠ m := by
  have h1 := List.all_eq_true.1 h l[i] (List.getElem_mem hi)
  rw [List.getD_eq_getElem?_getD, List.getElem?_eq_getElem hi]
  exact of_decide_eq_true h1
theorem lt_of_heap {w : World} {b : Nat} {o : Obj} (h : w.heap[b]? = some o) : b < w.heap.size := by
  rcases Nat.lt_or_ge b w.heap.size with hlt | hge
  · exact hlt
  · rw [Array.getElem?_eq_none hge] at h; cases h

structure Box2 (w W : World) (x0 x1 : Array Value) : Prop where
  bel : Below w.heap.size w W
  b0 : W.heap[w.heap.size]? = some (.cells x0 26 (0, 0))
  b1 : W.heap[w.heap.size + 1]? = some (.cells x1 26 (0, 0))
  sz : w.heap.size + 2 ≤ W.heap.size
theorem Box2.new (w : World) (x0 x1 : Array Value) : Box2 w ((w.alloc (.cells x0 26)).alloc (.cells x1 26)) x0 x1 := by
  refine ⟨Below.alloc (Below.alloc (Below.refl _ _) (by simp <;> omega) _) (by simp <;> omega) _, ?_, ?_, by simp⟩
  · rw [Below.heap_alloc _ _ _ (by simp <;> omega)]; exact heap_new_at (by simp)
  · exact heap_new_at (by simp)
theorem Box2.below {w W W' : World} {x0 x1 : Array Value} (h : Box2 w W x0 x1) (hb : Below W.heap.size W W') : Box2 w W' x0 x1 := by
  have := h.sz
  exact ⟨h.bel.trans (hb.mono (by omega)), (hb.block _ (by omega)).trans h.b0, (hb.block _ (by omega)).trans h.b1, Nat.le_trans h.sz hb.size⟩
theorem Box2.cells {w W : World} {a0 a1 a2 a3 b0 b1 b2 b3 : Value} (h : Box2 w W #[a0, a1, a2, a3] #[b0, b1, b2, b3]) :
    (W.cell? ⟨w.heap.size, 0, none⟩ = some a0 ∧ W.cell? ⟨w.heap.size, 1, none⟩ = some a1 ∧ W.cell? ⟨w.heap.size, 2, none⟩ = some a2 ∧ W.cell? ⟨w.heap.size, 3, none⟩ = some a3) ∧ (W.cell? ⟨w.heap.size + 1, 0, none⟩ = some b0 ∧ W.cell? ⟨w.heap.size + 1, 1, none⟩ = some b1 ∧ W.cell? ⟨w.heap.size + 1, 2, none⟩ = some b2 ∧ W.cell? ⟨w.heap.size + 1, 3, none⟩ = some b3) := by
  refine ⟨⟨?_, ?_, ?_, ?_⟩, ⟨?_, ?_, ?_, ?_⟩⟩ <;> (rw [cell_of_row _ _ _ _ _ _ (by first | exact h.b0 | exact h.b1)]; rfl)

structure Stored2 (B : Nat) (w X : World) (g0 g1 : Nat) (o0 o1 : Ob) (p0 p1 : Value) : Prop where
  bel : Below w.heap.size w X
  h0 : X.heap[g0]? = some (.cells (cellsO o0 p0).toArray 31 (0, 0))
  h1 : X.heap[g1]? = some (.cells (cellsO o1 p1).toArray 31 (0, 0))
  q0 : Pair X (Has X) o0 p0
  q1 : Pair X (Has X) o1 p1
theorem Stored2.new {B : Nat} {w w9 : World} {g0 g1 : Nat} {o0 o1 : Ob} {p0 p1 : Value} {old0 : Array Value} {S0 : Nat → Prop} {old1 : Array Value} {S1 : Nat → Prop} (hg0 : w9.heap[g0]? = some (.cells old0 31 (0, 0))) (hp0 : Pair w9 S0 o0 p0) (hg1 : w9.heap[g1]? = some (.cells old1 31 (0, 0))) (hp1 : Pair w9 S1 o1 p1) (hB0 : w.heap.size ≤ g0) (hB1 : w.heap.size ≤ g1) (hS0 : ∀ b, S0 b → b < w9.heap.size) (hS1 : ∀ b, S1 b → b < w9.heap.size) (n01 : g0 ≠ g1) (m00 : ¬ S0 g0) (m01 : ¬ S0 g1) (m10 : ¬ S1 g0) (m11 : ¬ S1 g1) (hb : Below w.heap.size w w9) :
    Stored2 B w (World.setRow (World.setRow w9 g0 (cellsO o0 p0).toArray) g1 (cellsO o1 p1).toArray) g0 g1 o0 o1 p0 p1 := by
  exact ⟨below_setRowO (below_setRowO (hb) hB0 _) hB1 _, ((setRow_other _ _ _ _ (by omega)).trans (setRow_heap _ _ _ _ _ _ hg0)), (setRow_heap _ _ _ _ _ _ ((setRow_other _ _ _ _ (by omega)).trans hg1)), ((hp0.setRow g0 m00 _).setRow g1 m01 _).more (fun b hb => by have := hS0 b hb; unfold Has; rw [size_setRow, size_setRow]; exact this), ((hp1.setRow g0 m10 _).setRow g1 m11 _).more (fun b hb => by have := hS1 b hb; unfold Has; rw [size_setRow, size_setRow]; exact this)⟩
theorem Stored2.below {B : Nat} {w X X' : World} {g0 g1 : Nat} {o0 o1 : Ob} {p0 p1 : Value} (h : Stored2 B w X g0 g1 o0 o1 p0 p1) (hb : Below X.heap.size X X') : Stored2 B w X' g0 g1 o0 o1 p0 p1 :=
  ⟨h.bel.trans (hb.mono h.bel.size), (hb.block _ (lt_of_heap h.h0)).trans h.h0, (hb.block _ (lt_of_heap h.h1)).trans h.h1, (h.q0.below (fun _ h => h) hb).more (fun b h => Nat.lt_of_lt_of_le h hb.size), (h.q1.below (fun _ h => h) hb).more (fun b h => Nat.lt_of_lt_of_le h hb.size)⟩

structure Box3 (w W : World) (x0 x1 x2 : Array Value) : Prop where
  bel : Below w.heap.size w W
  b0 : W.heap[w.heap.size]? = some (.cells x0 26 (0, 0))
  b1 : W.heap[w.heap.size + 1]? = some (.cells x1 26 (0, 0))
  b2 : W.heap[w.heap.size + 1 + 1]? = some (.cells x2 26 (0, 0))
  sz : w.heap.size + 3 ≤ W.heap.size
theorem Box3.new (w : World) (x0 x1 x2 : Array Value) : Box3 w (((w.alloc (.cells x0 26)).alloc (.cells x1 26)).alloc (.cells x2 26)) x0 x1 x2 := by
  refine ⟨Below.alloc (Below.alloc (Below.alloc (Below.refl _ _) (by simp <;> omega) _) (by simp <;> omega) _) (by simp <;> omega) _, ?_, ?_, ?_, by simp⟩
  · rw [Below.heap_alloc _ _ _ (by simp <;> omega)]; rw [Below.heap_alloc _ _ _ (by simp <;> omega)]; exact heap_new_at (by simp)
  · rw [Below.heap_alloc _ _ _ (by simp <;> omega)]; exact heap_new_at (by simp)
  · exact heap_new_at (by simp)
theorem Box3.below {w W W' : World} {x0 x1 x2 : Array Value} (h : Box3 w W x0 x1 x2) (hb : Below W.heap.size W W') : Box3 w W' x0 x1 x2 := by
  have := h.sz
  exact ⟨h.bel.trans (hb.mono (by omega)), (hb.block _ (by omega)).trans h.b0, (hb.block _ (by omega)).trans h.b1, (hb.block _ (by omega)).trans h.b2, Nat.le_trans h.sz hb.size⟩
theorem Box3.cells {w W : World} {a0 a1 a2 a3 b0 b1 b2 b3 c0 c1 c2 c3 : Value} (h : Box3 w W #[a0, a1, a2, a3] #[b0, b1, b2, b3] #[c0, c1, c2, c3]) :
    (W.cell? ⟨w.heap.size, 0, none⟩ = some a0 ∧ W.cell? ⟨w.heap.size, 1, none⟩ = some a1 ∧ W.cell? ⟨w.heap.size, 2, none⟩ = some a2 ∧ W.cell? ⟨w.heap.size, 3, none⟩ = some a3) ∧ (W.cell? ⟨w.heap.size + 1, 0, none⟩ = some b0 ∧ W.cell? ⟨w.heap.size + 1, 1, none⟩ = some b1 ∧ W.cell? ⟨w.heap.size + 1, 2, none⟩ = some b2 ∧ W.cell? ⟨w.heap.size + 1, 3, none⟩ = some b3) ∧ (W.cell? ⟨w.heap.size + 1 + 1, 0, none⟩ = some c0 ∧ W.cell? ⟨w.heap.size + 1 + 1, 1, none⟩ = some c1 ∧ W.cell? ⟨w.heap.size + 1 + 1, 2, none⟩ = some c2 ∧ W.cell? ⟨w.heap.size + 1 + 1, 3, none⟩ = some c3) := by
  refine ⟨⟨?_, ?_, ?_, ?_⟩, ⟨?_, ?_, ?_, ?_⟩, ⟨?_, ?_, ?_, ?_⟩⟩ <;> (rw [cell_of_row _ _ _ _ _ _ (by first | exact h.b0 | exact h.b1 | exact h.b2)]; rfl)

structure Stored3 (B : Nat) (w X : World) (g0 g1 g2 : Nat) (o0 o1 o2 : Ob) (p0 p1 p2 : Value) : Prop where
  bel : Below w.heap.size w X
  h0 : X.heap[g0]? = some (.cells (cellsO o0 p0).toArray 31 (0, 0))
  h1 : X.heap[g1]? = some (.cells (cellsO o1 p1).toArray 31 (0, 0))
  h2 : X.heap[g2]? = some (.cells (cellsO o2 p2).toArray 31 (0, 0))
  q0 : Pair X (Has X) o0 p0
  q1 : Pair X (Has X) o1 p1
  q2 : Pair X (Has X) o2 p2
theorem Stored3.new {B : Nat} {w w9 : World} {g0 g1 g2 : Nat} {o0 o1 o2 : Ob} {p0 p1 p2 : Value} {old0 : Array Value} {S0 : Nat → Prop} {old1 : Array Value} {S1 : Nat → Prop} {old2 : Array Value} {S2 : Nat → Prop} (hg0 : w9.heap[g0]? = some (.cells old0 31 (0, 0))) (hp0 : Pair w9 S0 o0 p0) (hg1 : w9.heap[g1]? = some (.cells old1 31 (0, 0))) (hp1 : Pair w9 S1 o1 p1) (hg2 : w9.heap[g2]? = some (.cells old2 31 (0, 0))) (hp2 : Pair w9 S2 o2 p2) (hB0 : w.heap.size ≤ g0) (hB1 : w.heap.size ≤ g1) (hB2 : w.heap.size ≤ g2) (hS0 : ∀ b, S0 b → b < w9.heap.size) (hS1 : ∀ b, S1 b → b < w9.heap.size) (hS2 : ∀ b, S2 b → b < w9.heap.size) (n01 : g0 ≠ g1) (n02 : g0 ≠ g2) (n12 : g1 ≠ g2) (m00 : ¬ S0 g0) (m01 : ¬ S0 g1) (m02 : ¬ S0 g2) (m10 : ¬ S1 g0) (m11 : ¬ S1 g1) (m12 : ¬ S1 g2) (m20 : ¬ S2 g0) (m21 : ¬ S2 g1) (m22 : ¬ S2 g2) (hb : Below w.heap.size w w9) :
    Stored3 B w (World.setRow (World.setRow (World.setRow w9 g0 (cellsO o0 p0).toArray) g1 (cellsO o1 p1).toArray) g2 (cellsO o2 p2).toArray) g0 g1 g2 o0 o1 o2 p0 p1 p2 := by
  exact ⟨below_setRowO (below_setRowO (below_setRowO (hb) hB0 _) hB1 _) hB2 _, ((setRow_other _ _ _ _ (by omega)).trans ((setRow_other _ _ _ _ (by omega)).trans (setRow_heap _ _ _ _ _ _ hg0))), ((setRow_other _ _ _ _ (by omega)).trans (setRow_heap _ _ _ _ _ _ ((setRow_other _ _ _ _ (by omega)).trans hg1))), (setRow_heap _ _ _ _ _ _ ((setRow_other _ _ _ _ (by omega)).trans ((setRow_other _ _ _ _ (by omega)).trans hg2))), (((hp0.setRow g0 m00 _).setRow g1 m01 _).setRow g2 m02 _).more (fun b hb => by have := hS0 b hb; unfold Has; rw [size_setRow, size_setRow, size_setRow]; exact this), (((hp1.setRow g0 m10 _).setRow g1 m11 _).setRow g2 m12 _).more (fun b hb => by have := hS1 b hb; unfold Has; rw [size_setRow, size_setRow, size_setRow]; exact this), (((hp2.setRow g0 m20 _).setRow g1 m21 _).setRow g2 m22 _).more (fun b hb => by have := hS2 b hb; unfold Has; rw [size_setRow, size_setRow, size_setRow]; exact this)⟩
theorem Stored3.below {B : Nat} {w X X' : World} {g0 g1 g2 : Nat} {o0 o1 o2 : Ob} {p0 p1 p2 : Value} (h : Stored3 B w X g0 g1 g2 o0 o1 o2 p0 p1 p2) (hb : Below X.heap.size X X') : Stored3 B w X' g0 g1 g2 o0 o1 o2 p0 p1 p2 :=
  ⟨h.bel.trans (hb.mono h.bel.size), (hb.block _ (lt_of_heap h.h0)).trans h.h0, (hb.block _ (lt_of_heap h.h1)).trans h.h1, (hb.block _ (lt_of_heap h.h2)).trans h.h2, (h.q0.below (fun _ h => h) hb).more (fun b h => Nat.lt_of_lt_of_le h hb.size), (h.q1.below (fun _ h => h) hb).more (fun b h => Nat.lt_of_lt_of_le h hb.size), (h.q2.below (fun _ h => h) hb).more (fun b h => Nat.lt_of_lt_of_le h hb.size)⟩
end Go.Proofs.YtfnkmgipjemkdaaGreatDoor

/- The walk of ObjectOrder. -/
namespace Go.Proofs.YtfnkmgipjemkdaaGreatDoor
open Go Go.RowKit
set_option linter.unusedVariables false
set_option maxHeartbeats 16000000 in
set_option maxRecDepth 100000 in
theorem order_walk (r : Rw) (r0 r1 r2 r3 : Value) (s : Rw) (s0 s1 s2 s3 : Value) (t : Rw) (t0 t1 t2 t3 : Value) (w : World) (hrr : RawAt w (Has w) r [r0, r1, r2, r3]) (hrs : RawAt w (Has w) s [s0, s1, s2, s3]) (hrt : RawAt w (Has w) t [t0, t1, t2, t3]) (ht : Tab w) :
    Calls Tryz.prog 6 #[.agg #[r0, r1, r2, r3], .agg #[s0, s1, s2, s3], .agg #[t0, t1, t2, t3]] w (RetB w true) := by
  have HT := Lib.hid ht
  clear ht
  have Rr := Lib.hid hrr
  clear hrr
  have CFr : Hid (∀ W', Below w.heap.size w W' → Calls Tryz.prog 9 #[.agg #[r0, r1, r2, r3], .int .i64 30] W' (fun e w' => e = .returned (.bool (few r 30)) ∧ Below W'.heap.size W' w')) := fun W' h => fewO r [r0, r1, r2, r3] 30 W' (Has w) (In.has w |>.later h.size) (Rr.out.below (In.has w) h) (by decide) (by decide)
  have KOr : Hid (few r 30 = true → ∀ W', Below w.heap.size w W' → Calls Tryz.prog 10 #[.agg #[r0, r1, r2, r3]] W' (RetX W' 200)) := fun hf W' h => by
    obtain ⟨hok, hcn⟩ := few_ok hf
    exact (objectO r [r0, r1, r2, r3] W' (Has w) (In.has w |>.later h.size) (Rr.out.below (In.has w) h) hok (HT.out.below h)).mono fun _ _ hr => hr.le (by omega)
  generalize few r 30 = fr at CFr KOr
  have Rs := Lib.hid hrs
  clear hrs
  have CFs : Hid (∀ W', Below w.heap.size w W' → Calls Tryz.prog 9 #[.agg #[s0, s1, s2, s3], .int .i64 30] W' (fun e w' => e = .returned (.bool (few s 30)) ∧ Below W'.heap.size W' w')) := fun W' h => fewO s [s0, s1, s2, s3] 30 W' (Has w) (In.has w |>.later h.size) (Rs.out.below (In.has w) h) (by decide) (by decide)
  have KOs : Hid (few s 30 = true → ∀ W', Below w.heap.size w W' → Calls Tryz.prog 10 #[.agg #[s0, s1, s2, s3]] W' (RetX W' 200)) := fun hf W' h => by
    obtain ⟨hok, hcn⟩ := few_ok hf
    exact (objectO s [s0, s1, s2, s3] W' (Has w) (In.has w |>.later h.size) (Rs.out.below (In.has w) h) hok (HT.out.below h)).mono fun _ _ hr => hr.le (by omega)
  generalize few s 30 = fs at CFs KOs
  have Rt := Lib.hid hrt
  clear hrt
  have CFt : Hid (∀ W', Below w.heap.size w W' → Calls Tryz.prog 9 #[.agg #[t0, t1, t2, t3], .int .i64 30] W' (fun e w' => e = .returned (.bool (few t 30)) ∧ Below W'.heap.size W' w')) := fun W' h => fewO t [t0, t1, t2, t3] 30 W' (Has w) (In.has w |>.later h.size) (Rt.out.below (In.has w) h) (by decide) (by decide)
  have KOt : Hid (few t 30 = true → ∀ W', Below w.heap.size w W' → Calls Tryz.prog 10 #[.agg #[t0, t1, t2, t3]] W' (RetX W' 200)) := fun hf W' h => by
    obtain ⟨hok, hcn⟩ := few_ok hf
    exact (objectO t [t0, t1, t2, t3] W' (Has w) (In.has w |>.later h.size) (Rt.out.below (In.has w) h) hok (HT.out.below h)).mono fun _ _ hr => hr.le (by omega)
  generalize few t 30 = ft at CFt KOt
  go_enter Tryz.func6, Tryz.ntmps6
  go_wp2_with fail
  have hBX := Box3.new w #[r0, r1, r2, r3] #[s0, s1, s2, s3] #[t0, t1, t2, t3]
  generalize (((w.alloc (.cells #[r0, r1, r2, r3] 26)).alloc (.cells #[s0, s1, s2, s3] 26)).alloc (.cells #[t0, t1, t2, t3] 26)) = W at hBX ⊢
  have BX := Lib.hid hBX
  clear hBX
  have FB : Hid (∀ W', Below W.heap.size W W' → Box3 w W' #[r0, r1, r2, r3] #[s0, s1, s2, s3] #[t0, t1, t2, t3]) := fun W' h => BX.out.below h
  refine (first2_any _ (HT.out.below BX.out.bel)).mono ?_
  rintro e w1 ⟨rfl, hb1⟩
  have H1 := Lib.hid hb1
  clear hb1
  obtain ⟨⟨a0w1, a1w1, a2w1, a3w1⟩, ⟨b0w1, b1w1, b2w1, b3w1⟩, ⟨c0w1, c1w1, c2w1, c3w1⟩⟩ := (FB.out w1 H1.out).cells
  go_wp2_with fail
  clear a0w1 a1w1 a2w1 a3w1 b0w1 b1w1 b2w1 b3w1 c0w1 c1w1 c2w1 c3w1
  refine (CFr.out w1 (FB.out w1 H1.out).bel).mono ?_
  rintro e w2 ⟨rfl, hb⟩
  have H2 := Lib.hid (chain2 H1.out hb (Nat.le_refl _))
  clear hb H1
  cases fr with
  | false =>
    have HE := Lib.hid (FB.out w2 H2.out).bel
    go_wp2
    all_goals go_ret
    all_goals exact ⟨rfl, HE.out⟩
  | true =>
    obtain ⟨⟨a0w2, a1w2, a2w2, a3w2⟩, ⟨b0w2, b1w2, b2w2, b3w2⟩, ⟨c0w2, c1w2, c2w2, c3w2⟩⟩ := (FB.out w2 H2.out).cells
    go_wp2_with fail
    clear a0w2 a1w2 a2w2 a3w2 b0w2 b1w2 b2w2 b3w2 c0w2 c1w2 c2w2 c3w2
    refine (CFs.out w2 (FB.out w2 H2.out).bel).mono ?_
    rintro e w3 ⟨rfl, hb⟩
    have H3 := Lib.hid (chain2 H2.out hb (Nat.le_refl _))
    clear hb H2
    cases fs with
    | false =>
      have HE := Lib.hid (FB.out w3 H3.out).bel
      go_wp2
      all_goals go_ret
      all_goals exact ⟨rfl, HE.out⟩
    | true =>
      obtain ⟨⟨a0w3, a1w3, a2w3, a3w3⟩, ⟨b0w3, b1w3, b2w3, b3w3⟩, ⟨c0w3, c1w3, c2w3, c3w3⟩⟩ := (FB.out w3 H3.out).cells
      go_wp2_with fail
      clear a0w3 a1w3 a2w3 a3w3 b0w3 b1w3 b2w3 b3w3 c0w3 c1w3 c2w3 c3w3
      refine (CFt.out w3 (FB.out w3 H3.out).bel).mono ?_
      rintro e w4 ⟨rfl, hb⟩
      have H4 := Lib.hid (chain2 H3.out hb (Nat.le_refl _))
      clear hb H3
      cases ft with
      | false =>
        have HE := Lib.hid (FB.out w4 H4.out).bel
        go_wp2
        all_goals go_ret
        all_goals exact ⟨rfl, HE.out⟩
      | true =>
        go_wp2_with fail
        have HC := Lib.hid (FB.out w4 H4.out)
        refine wp_region_grow (l := _) 9 (by kernel_rfl) (by kernel_rfl) (fun i => [26, 27, 28, 29, 30, 31, 7, 8, 9].getD i 0) (mkR (fun i => [0, 1, 0, 1, 0, 1, 2, 2, 2].getD i 3) (fun i => [.agg #[r0, r1, r2, r3], undef, .agg #[s0, s1, s2, s3], undef, .agg #[t0, t1, t2, t3], undef].getD i undef) 200) mkR_mono (by
          intro i j hi hj h
          have := inj_getD [26, 27, 28, 29, 30, 31, 7, 8, 9] (by decide) i j hi hj h
          exact this) (by
          intro i hi
          have := lt_getD 65 [26, 27, 28, 29, 30, 31, 7, 8, 9] (by decide) i hi
          exact this) ?step ?done
        case step =>
          intro i hi a w9 v lo hi' hoth hb hw
          have hB := FB.out w9 (chain2 H4.out hb (Nat.le_refl _))
          have sl3 : a.tmps[3]? = some (.pointer (some ⟨w.heap.size, 0, none⟩)) := (hoth 3 (fun j hj => by
            have := ne_getD 3 [26, 27, 28, 29, 30, 31, 7, 8, 9] (by decide) j hj
            exact this)).trans rfl
          have sl4 : a.tmps[4]? = some (.pointer (some ⟨w.heap.size + 1, 0, none⟩)) := (hoth 4 (fun j hj => by
            have := ne_getD 4 [26, 27, 28, 29, 30, 31, 7, 8, 9] (by decide) j hj
            exact this)).trans rfl
          have sl5 : a.tmps[5]? = some (.pointer (some ⟨w.heap.size + 1 + 1, 0, none⟩)) := (hoth 5 (fun j hj => by
            have := ne_getD 5 [26, 27, 28, 29, 30, 31, 7, 8, 9] (by decide) j hj
            exact this)).trans rfl
          match i, hi with
          | 0, _ =>
            exact grow_load rfl rfl 26 (.tmp 3) rfl (w.heap.size) 0 (eval_of sl3) [r0, r1, r2, r3] _ (World.rangeAt_of_block hB.b0 0 4) Tryz.underlying26 rfl (by kernel_rfl) ⟨_, rfl, Below.refl _ _, rfl⟩
          | 1, _ =>
            obtain ⟨sx, ex, _⟩ := hw 0 (by omega) (by kernel_rfl)
            have e : v 0 = .agg #[r0, r1, r2, r3] := ex
            rw [e] at sx
            refine grow_call1 rfl rfl 10 26 _ rfl _ (fun v w => by go_simp) sx ?_
            refine (KOr.out (by simp) w9 hB.bel).mono ?_
            rintro e w3 ⟨o, p, rfl, hp, hb3, ok⟩
            exact ⟨_, rfl, _, rfl, hb3, o, p, rfl, hp.more (fun b h => by rcases h with h | h; exact h.elim; exact h), ok⟩
          | 2, _ =>
            exact grow_load rfl rfl 26 (.tmp 4) rfl (w.heap.size + 1) 0 (eval_of sl4) [s0, s1, s2, s3] _ (World.rangeAt_of_block hB.b1 0 4) Tryz.underlying26 rfl (by kernel_rfl) ⟨_, rfl, Below.refl _ _, rfl⟩
          | 3, _ =>
            obtain ⟨sx, ex, _⟩ := hw 2 (by omega) (by kernel_rfl)
            have e : v 2 = .agg #[s0, s1, s2, s3] := ex
            rw [e] at sx
            refine grow_call1 rfl rfl 10 28 _ rfl _ (fun v w => by go_simp) sx ?_
            refine (KOs.out (by simp) w9 hB.bel).mono ?_
            rintro e w3 ⟨o, p, rfl, hp, hb3, ok⟩
            exact ⟨_, rfl, _, rfl, hb3, o, p, rfl, hp.more (fun b h => by rcases h with h | h; exact h.elim; exact h), ok⟩
          | 4, _ =>
            exact grow_load rfl rfl 26 (.tmp 5) rfl (w.heap.size + 1 + 1) 0 (eval_of sl5) [t0, t1, t2, t3] _ (World.rangeAt_of_block hB.b2 0 4) Tryz.underlying26 rfl (by kernel_rfl) ⟨_, rfl, Below.refl _ _, rfl⟩
          | 5, _ =>
            obtain ⟨sx, ex, _⟩ := hw 4 (by omega) (by kernel_rfl)
            have e : v 4 = .agg #[t0, t1, t2, t3] := ex
            rw [e] at sx
            refine grow_call1 rfl rfl 10 30 _ rfl _ (fun v w => by go_simp) sx ?_
            refine (KOt.out (by simp) w9 hB.bel).mono ?_
            rintro e w3 ⟨o, p, rfl, hp, hb3, ok⟩
            exact ⟨_, rfl, _, rfl, hb3, o, p, rfl, hp.more (fun b h => by rcases h with h | h; exact h.elim; exact h), ok⟩
          | 6, _ =>
            exact grow_allocO rfl rfl rfl ⟨_, rfl, Below.alloc (Below.refl _ _) (Nat.le_refl _) _, rfl, heap_alloc_new _ _, by simp⟩
          | 7, _ =>
            exact grow_allocO rfl rfl rfl ⟨_, rfl, Below.alloc (Below.refl _ _) (Nat.le_refl _) _, rfl, heap_alloc_new _ _, by simp⟩
          | 8, _ =>
            exact grow_allocO rfl rfl rfl ⟨_, rfl, Below.alloc (Below.refl _ _) (Nat.le_refl _) _, rfl, heap_alloc_new _ _, by simp⟩
        case done =>
          intro a w9 v lo hi' hdef hsz hoth hb hj hap
          obtain ⟨_, ⟨o0, p0, hv0, hp0, ok0⟩, hlo0, hhi0⟩ := hj 1 (by omega)
          obtain ⟨_, ⟨hw0, hg0, hlt0⟩, hl0, hh0⟩ := hj 6 (by omega)
          obtain ⟨_, ⟨o1, p1, hv1, hp1, ok1⟩, hlo1, hhi1⟩ := hj 3 (by omega)
          obtain ⟨_, ⟨hw1, hg1, hlt1⟩, hl1, hh1⟩ := hj 7 (by omega)
          obtain ⟨_, ⟨o2, p2, hv2, hp2, ok2⟩, hlo2, hhi2⟩ := hj 5 (by omega)
          obtain ⟨_, ⟨hw2, hg2, hlt2⟩, hl2, hh2⟩ := hj 8 (by omega)
          have k00 := hap 1 6 (by omega) (by omega) (by decide)
          have q01 := hap 6 7 (by omega) (by omega) (by decide)
          have k01 := hap 1 7 (by omega) (by omega) (by decide)
          have q02 := hap 6 8 (by omega) (by omega) (by decide)
          have k02 := hap 1 8 (by omega) (by omega) (by decide)
          have k10 := hap 3 6 (by omega) (by omega) (by decide)
          have k11 := hap 3 7 (by omega) (by omega) (by decide)
          have q12 := hap 7 8 (by omega) (by omega) (by decide)
          have k12 := hap 3 8 (by omega) (by omega) (by decide)
          have k20 := hap 5 6 (by omega) (by omega) (by decide)
          have k21 := hap 5 7 (by omega) (by omega) (by decide)
          have k22 := hap 5 8 (by omega) (by omega) (by decide)
          have ha := eq_puts hdef hsz hoth (fun i hi => (hj i hi).1)
          have hbel := Lib.hid ((FB.out w9 (chain2 H4.out hb (Nat.le_refl _))).bel)
          have hwz := hbel.out.size
          have hsb := hb.size
          have hsw := (FB.out w4 H4.out).bel.size
          subst ha
          clear hj hap hoth hdef hsz hb
          simp only [puts, List.getD_cons_zero, List.getD_cons_succ, hv0, hv1, hv2, hw0, hw1, hw2]
          generalize v 0 = v0
          generalize v 2 = v2
          generalize v 4 = v4
          clear hv0 hv1 hv2 hw0 hw1 hw2
          generalize lo 6 = g0 at *
          generalize hi' 6 = e0 at *
          generalize lo 1 = l0 at *
          generalize hi' 1 = h0 at *
          generalize lo 7 = g1 at *
          generalize hi' 7 = e1 at *
          generalize lo 3 = l1 at *
          generalize hi' 3 = h1 at *
          generalize lo 8 = g2 at *
          generalize hi' 8 = e2 at *
          generalize lo 5 = l2 at *
          generalize hi' 5 = h2 at *
          simp only [Act.put, List.setIfInBounds_toArray, List.set_cons_zero, List.set_cons_succ]
          show wpList _ _ _ [_, _, _] _ _
          refine storeV (w1 := w9) rfl (.tmp 7) (.tmp 27) rfl g0 o0 p0 rfl rfl hp0 _ _ hg0 rfl ?_
          refine storeV (w1 := w9) rfl (.tmp 8) (.tmp 29) rfl g1 o1 p1 rfl rfl hp1 _ _ ((setRow_other _ _ _ _ (by omega)).trans hg1) rfl ?_
          refine storeV (w1 := w9) rfl (.tmp 9) (.tmp 31) rfl g2 o2 p2 rfl rfl hp2 _ _ ((setRow_other _ _ _ _ (by omega)).trans ((setRow_other _ _ _ _ (by omega)).trans hg2)) rfl ?_
          have hX := Stored3.new (B := w.heap.size) hg0 hp0 hg1 hp1 hg2 hp2 (by omega) (by omega) (by omega) (fun b h => by omega) (fun b h => by omega) (fun b h => by omega) (by omega) (by omega) (by omega) (fun h => by omega) (fun h => by omega) (fun h => by omega) (fun h => by omega) (fun h => by omega) (fun h => by omega) (fun h => by omega) (fun h => by omega) (fun h => by omega) hbel.out
          generalize (World.setRow (World.setRow (World.setRow w9 g0 (cellsO o0 p0).toArray) g1 (cellsO o1 p1).toArray) g2 (cellsO o2 p2).toArray) = X at hX ⊢
          have HX := Lib.hid hX
          clear hX hg0 hp0 hg1 hp1 hg2 hp2
          have FS : Hid (∀ X', Below X.heap.size X X' → Stored3 w.heap.size w X' g0 g1 g2 o0 o1 o2 p0 p1 p2) := fun X' h => HX.out.below h
          obtain ⟨x0, x1, x2, x3, x4, x5, ex0⟩ := cells7 o0 p0
          have ev0 : vO o0 p0 = .agg #[x0, x1, x2, x3, x4, x5, p0] := by unfold vO; rw [ex0]
          obtain ⟨y0, y1, y2, y3, y4, y5, ex1⟩ := cells7 o1 p1
          have ev1 : vO o1 p1 = .agg #[y0, y1, y2, y3, y4, y5, p1] := by unfold vO; rw [ex1]
          obtain ⟨z0, z1, z2, z3, z4, z5, ex2⟩ := cells7 o2 p2
          have ev2 : vO o2 p2 = .agg #[z0, z1, z2, z3, z4, z5, p2] := by unfold vO; rw [ex2]
          have FC : Hid (∀ X', Below X.heap.size X X' → (X'.cell? ⟨g0, 0, none⟩ = some x0 ∧ X'.cell? ⟨g0, 1, none⟩ = some x1 ∧ X'.cell? ⟨g0, 2, none⟩ = some x2 ∧ X'.cell? ⟨g0, 3, none⟩ = some x3 ∧ X'.cell? ⟨g0, 4, none⟩ = some x4 ∧ X'.cell? ⟨g0, 5, none⟩ = some x5 ∧ X'.cell? ⟨g0, 6, none⟩ = some p0) ∧ (X'.cell? ⟨g1, 0, none⟩ = some y0 ∧ X'.cell? ⟨g1, 1, none⟩ = some y1 ∧ X'.cell? ⟨g1, 2, none⟩ = some y2 ∧ X'.cell? ⟨g1, 3, none⟩ = some y3 ∧ X'.cell? ⟨g1, 4, none⟩ = some y4 ∧ X'.cell? ⟨g1, 5, none⟩ = some y5 ∧ X'.cell? ⟨g1, 6, none⟩ = some p1) ∧ (X'.cell? ⟨g2, 0, none⟩ = some z0 ∧ X'.cell? ⟨g2, 1, none⟩ = some z1 ∧ X'.cell? ⟨g2, 2, none⟩ = some z2 ∧ X'.cell? ⟨g2, 3, none⟩ = some z3 ∧ X'.cell? ⟨g2, 4, none⟩ = some z4 ∧ X'.cell? ⟨g2, 5, none⟩ = some z5 ∧ X'.cell? ⟨g2, 6, none⟩ = some p2)) := fun X' h => by
            have F := FS.out X' h
            have f0 := F.h0
            rw [ex0] at f0
            have f1 := F.h1
            rw [ex1] at f1
            have f2 := F.h2
            rw [ex2] at f2
            exact ⟨(row7 f0).1, (row7 f1).1, (row7 f2).1⟩
          have CAB : Hid (∀ X', Below X.heap.size X X' → Calls Tryz.prog 36 #[.agg #[x0, x1, x2, x3, x4, x5, p0], .agg #[y0, y1, y2, y3, y4, y5, p1]] X' (RetI X' (ordO o0 o1))) := fun X' h => by
            have F := FS.out X' h
            rw [← ev0, ← ev1]
            exact compareP 20 (by decide) o0 o1 p0 p1 X' (Has X') (In.has X') F.q0 F.q1 ok0.1 ok1.1 (by have := ok0.2; omega)
          have CBA : Hid (∀ X', Below X.heap.size X X' → Calls Tryz.prog 36 #[.agg #[y0, y1, y2, y3, y4, y5, p1], .agg #[x0, x1, x2, x3, x4, x5, p0]] X' (RetI X' (ordO o1 o0))) := fun X' h => by
            have F := FS.out X' h
            rw [← ev1, ← ev0]
            exact compareP 20 (by decide) o1 o0 p1 p0 X' (Has X') (In.has X') F.q1 F.q0 ok1.1 ok0.1 (by have := ok1.2; omega)
          have CBC : Hid (∀ X', Below X.heap.size X X' → Calls Tryz.prog 36 #[.agg #[y0, y1, y2, y3, y4, y5, p1], .agg #[z0, z1, z2, z3, z4, z5, p2]] X' (RetI X' (ordO o1 o2))) := fun X' h => by
            have F := FS.out X' h
            rw [← ev1, ← ev2]
            exact compareP 20 (by decide) o1 o2 p1 p2 X' (Has X') (In.has X') F.q1 F.q2 ok1.1 ok2.1 (by have := ok1.2; omega)
          have CAC : Hid (∀ X', Below X.heap.size X X' → Calls Tryz.prog 36 #[.agg #[x0, x1, x2, x3, x4, x5, p0], .agg #[z0, z1, z2, z3, z4, z5, p2]] X' (RetI X' (ordO o0 o2))) := fun X' h => by
            have F := FS.out X' h
            rw [← ev0, ← ev2]
            exact compareP 20 (by decide) o0 o2 p0 p2 X' (Has X') (In.has X') F.q0 F.q2 ok0.1 ok2.1 (by have := ok0.2; omega)
          have EAB : Hid (∀ X', Below X.heap.size X X' → Calls Tryz.prog 40 #[.agg #[x0, x1, x2, x3, x4, x5, p0], .agg #[y0, y1, y2, y3, y4, y5, p1]] X' (RetB X' (ordO o0 o1 == 0))) := fun X' h => by
            have F := FS.out X' h
            have e : (ordO o0 o1 == 0) = decide (o0 = o1) := by
              rw [Bool.eq_iff_iff, beq_iff_eq, decide_eq_true_iff]; exact ordO_zero o0 o1
            rw [← ev0, ← ev1, e]
            exact equalP 20 (by decide) o0 o1 p0 p1 X' (Has X') (In.has X') F.q0 F.q1 ok0.1 ok1.1 (by have := ok0.2; omega)
          have r01 := ordO_range o0 o1
          have rt := ordO_trans o0 o1 o2
          rw [ordO_anti o0 o1] at CBA
          have HF : Hid (∀ X', Below X.heap.size X X' → Below w.heap.size w X') := fun X' h => (FS.out X' h).bel
          clear FS HX ev0 ev1 ev2 ex0 ex1 ex2 ok0 ok1 ok2
          generalize ordO o0 o1 = kk at r01 rt CAB CBA EAB
          generalize ordO o1 o2 = uu at rt CBC
          generalize ordO o0 o2 = vv at rt CAC
          have RT := Lib.hid rt
          clear rt
          obtain ⟨⟨m00, m01, m02, m03, m04, m05, m06⟩, ⟨m10, m11, m12, m13, m14, m15, m16⟩, ⟨m20, m21, m22, m23, m24, m25, m26⟩⟩ := FC.out X (Below.refl _ _)
          rcases r01 with rfl | rfl | rfl
          all_goals
            go_wp2_with fail
            refine (CAB.out X (Below.refl _ _)).mono ?_
            rintro e u1 ⟨rfl, hb⟩
            have U1 := Lib.hid (chain2 (Below.refl _ _) hb (Nat.le_refl _))
            clear hb m00 m01 m02 m03 m04 m05 m06 m10 m11 m12 m13 m14 m15 m16 m20 m21 m22 m23 m24 m25 m26
            obtain ⟨⟨m00, m01, m02, m03, m04, m05, m06⟩, ⟨m10, m11, m12, m13, m14, m15, m16⟩, ⟨m20, m21, m22, m23, m24, m25, m26⟩⟩ := FC.out u1 U1.out
            go_wp2_with fail
            refine (CBA.out u1 U1.out).mono ?_
            rintro e u2 ⟨rfl, hb⟩
            have U2 := Lib.hid (chain2 U1.out hb (Nat.le_refl _))
            clear hb m00 m01 m02 m03 m04 m05 m06 m10 m11 m12 m13 m14 m15 m16 m20 m21 m22 m23 m24 m25 m26
            obtain ⟨⟨m00, m01, m02, m03, m04, m05, m06⟩, ⟨m10, m11, m12, m13, m14, m15, m16⟩, ⟨m20, m21, m22, m23, m24, m25, m26⟩⟩ := FC.out u2 U2.out
            go_wp2_with fail
            refine (EAB.out u2 U2.out).mono ?_
            rintro e u3 ⟨rfl, hb⟩
            have U3 := Lib.hid (chain2 U2.out hb (Nat.le_refl _))
            clear hb m00 m01 m02 m03 m04 m05 m06 m10 m11 m12 m13 m14 m15 m16 m20 m21 m22 m23 m24 m25 m26
            obtain ⟨⟨m00, m01, m02, m03, m04, m05, m06⟩, ⟨m10, m11, m12, m13, m14, m15, m16⟩, ⟨m20, m21, m22, m23, m24, m25, m26⟩⟩ := FC.out u3 U3.out
          · go_wp2_with fail
            refine (CBC.out u3 U3.out).mono ?_
            rintro e u4 ⟨rfl, hb⟩
            have U4 := Lib.hid (chain2 U3.out hb (Nat.le_refl _))
            clear hb m00 m01 m02 m03 m04 m05 m06 m10 m11 m12 m13 m14 m15 m16 m20 m21 m22 m23 m24 m25 m26
            obtain ⟨⟨m00, m01, m02, m03, m04, m05, m06⟩, ⟨m10, m11, m12, m13, m14, m15, m16⟩, ⟨m20, m21, m22, m23, m24, m25, m26⟩⟩ := FC.out u4 U4.out
            by_cases hu : uu ≤ 0
            · have hv : vv ≤ 0 := RT.out (by decide) hu
              go_wp2_with fail
              refine (CAC.out u4 U4.out).mono ?_
              rintro e u5 ⟨rfl, hb⟩
              have HE := Lib.hid (HF.out u5 (chain2 U4.out hb (Nat.le_refl _)))
              clear hb m00 m01 m02 m03 m04 m05 m06 m10 m11 m12 m13 m14 m15 m16 m20 m21 m22 m23 m24 m25 m26
              go_wp2
              all_goals go_ret
              all_goals exact ⟨rfl, HE.out⟩
            · have hu : 0 < uu := by omega
              have HE := Lib.hid (HF.out u4 U4.out)
              go_wp2
              all_goals go_ret
              all_goals exact ⟨rfl, HE.out⟩
          · go_wp2_with fail
            refine (CBC.out u3 U3.out).mono ?_
            rintro e u4 ⟨rfl, hb⟩
            have U4 := Lib.hid (chain2 U3.out hb (Nat.le_refl _))
            clear hb m00 m01 m02 m03 m04 m05 m06 m10 m11 m12 m13 m14 m15 m16 m20 m21 m22 m23 m24 m25 m26
            obtain ⟨⟨m00, m01, m02, m03, m04, m05, m06⟩, ⟨m10, m11, m12, m13, m14, m15, m16⟩, ⟨m20, m21, m22, m23, m24, m25, m26⟩⟩ := FC.out u4 U4.out
            by_cases hu : uu ≤ 0
            · have hv : vv ≤ 0 := RT.out (by decide) hu
              go_wp2_with fail
              refine (CAC.out u4 U4.out).mono ?_
              rintro e u5 ⟨rfl, hb⟩
              have HE := Lib.hid (HF.out u5 (chain2 U4.out hb (Nat.le_refl _)))
              clear hb m00 m01 m02 m03 m04 m05 m06 m10 m11 m12 m13 m14 m15 m16 m20 m21 m22 m23 m24 m25 m26
              go_wp2
              all_goals go_ret
              all_goals exact ⟨rfl, HE.out⟩
            · have hu : 0 < uu := by omega
              have HE := Lib.hid (HF.out u4 U4.out)
              go_wp2
              all_goals go_ret
              all_goals exact ⟨rfl, HE.out⟩
          · have HE := Lib.hid (HF.out u3 U3.out)
            go_wp2
            all_goals go_ret
            all_goals exact ⟨rfl, HE.out⟩
end Go.Proofs.YtfnkmgipjemkdaaGreatDoor

/- The walk of ObjectCompares. -/
namespace Go.Proofs.YtfnkmgipjemkdaaGreatDoor
open Go Go.RowKit
set_option linter.unusedVariables false
theorem bd_fix {k : Nat} {o : Ob} (h : o.bd k) (hk : 0 < k := by decide) : Bd k o.fix := by
  cases o with
  | num q => exact h
  | _ => exact bd_int (n := 0) (Nat.pow_pos (by decide)) hk
set_option maxHeartbeats 16000000 in
set_option maxRecDepth 100000 in
theorem compares_walk (r : Rw) (r0 r1 r2 r3 : Value) (s : Rw) (s0 s1 s2 s3 : Value) (w : World) (hrr : RawAt w (Has w) r [r0, r1, r2, r3]) (hrs : RawAt w (Has w) s [s0, s1, s2, s3]) (ht : Tab w) :
    Calls Tryz.prog 5 #[.agg #[r0, r1, r2, r3], .agg #[s0, s1, s2, s3]] w (RetB w true) := by
  have HT := Lib.hid ht
  clear ht
  have Rr := Lib.hid hrr
  clear hrr
  have CFr : Hid (∀ W', Below w.heap.size w W' → Calls Tryz.prog 9 #[.agg #[r0, r1, r2, r3], .int .i64 40] W' (fun e w' => e = .returned (.bool (few r 40)) ∧ Below W'.heap.size W' w')) := fun W' h => fewO r [r0, r1, r2, r3] 40 W' (Has w) (In.has w |>.later h.size) (Rr.out.below (In.has w) h) (by decide) (by decide)
  have KOr : Hid (few r 40 = true → ∀ W', Below w.heap.size w W' → Calls Tryz.prog 10 #[.agg #[r0, r1, r2, r3]] W' (RetX W' 200)) := fun hf W' h => by
    obtain ⟨hok, hcn⟩ := few_ok hf
    exact (objectO r [r0, r1, r2, r3] W' (Has w) (In.has w |>.later h.size) (Rr.out.below (In.has w) h) hok (HT.out.below h)).mono fun _ _ hr => hr.le (by omega)
  generalize few r 40 = fr at CFr KOr
  have Rs := Lib.hid hrs
  clear hrs
  have CFs : Hid (∀ W', Below w.heap.size w W' → Calls Tryz.prog 9 #[.agg #[s0, s1, s2, s3], .int .i64 40] W' (fun e w' => e = .returned (.bool (few s 40)) ∧ Below W'.heap.size W' w')) := fun W' h => fewO s [s0, s1, s2, s3] 40 W' (Has w) (In.has w |>.later h.size) (Rs.out.below (In.has w) h) (by decide) (by decide)
  have KOs : Hid (few s 40 = true → ∀ W', Below w.heap.size w W' → Calls Tryz.prog 10 #[.agg #[s0, s1, s2, s3]] W' (RetX W' 200)) := fun hf W' h => by
    obtain ⟨hok, hcn⟩ := few_ok hf
    exact (objectO s [s0, s1, s2, s3] W' (Has w) (In.has w |>.later h.size) (Rs.out.below (In.has w) h) hok (HT.out.below h)).mono fun _ _ hr => hr.le (by omega)
  generalize few s 40 = fs at CFs KOs
  go_enter Tryz.func5, Tryz.ntmps5
  go_wp2_with fail
  have hBX := Box2.new w #[r0, r1, r2, r3] #[s0, s1, s2, s3]
  generalize ((w.alloc (.cells #[r0, r1, r2, r3] 26)).alloc (.cells #[s0, s1, s2, s3] 26)) = W at hBX ⊢
  have BX := Lib.hid hBX
  clear hBX
  have FB : Hid (∀ W', Below W.heap.size W W' → Box2 w W' #[r0, r1, r2, r3] #[s0, s1, s2, s3]) := fun W' h => BX.out.below h
  refine (first2_any _ (HT.out.below BX.out.bel)).mono ?_
  rintro e w1 ⟨rfl, hb1⟩
  have H1 := Lib.hid hb1
  clear hb1
  obtain ⟨⟨a0w1, a1w1, a2w1, a3w1⟩, ⟨b0w1, b1w1, b2w1, b3w1⟩⟩ := (FB.out w1 H1.out).cells
  go_wp2_with fail
  clear a0w1 a1w1 a2w1 a3w1 b0w1 b1w1 b2w1 b3w1
  refine (CFr.out w1 (FB.out w1 H1.out).bel).mono ?_
  rintro e w2 ⟨rfl, hb⟩
  have H2 := Lib.hid (chain2 H1.out hb (Nat.le_refl _))
  clear hb H1
  cases fr with
  | false =>
    have HE := Lib.hid (FB.out w2 H2.out).bel
    go_wp2
    all_goals go_ret
    all_goals exact ⟨rfl, HE.out⟩
  | true =>
    obtain ⟨⟨a0w2, a1w2, a2w2, a3w2⟩, ⟨b0w2, b1w2, b2w2, b3w2⟩⟩ := (FB.out w2 H2.out).cells
    go_wp2_with fail
    clear a0w2 a1w2 a2w2 a3w2 b0w2 b1w2 b2w2 b3w2
    refine (CFs.out w2 (FB.out w2 H2.out).bel).mono ?_
    rintro e w3 ⟨rfl, hb⟩
    have H3 := Lib.hid (chain2 H2.out hb (Nat.le_refl _))
    clear hb H2
    cases fs with
    | false =>
      have HE := Lib.hid (FB.out w3 H3.out).bel
      go_wp2
      all_goals go_ret
      all_goals exact ⟨rfl, HE.out⟩
    | true =>
      go_wp2_with fail
      have HC := Lib.hid (FB.out w3 H3.out)
      refine wp_region_grow (l := _) 6 (by kernel_rfl) (by kernel_rfl) (fun i => [17, 18, 19, 20, 5, 6].getD i 0) (mkR (fun i => [0, 1, 0, 1, 2, 2].getD i 3) (fun i => [.agg #[r0, r1, r2, r3], undef, .agg #[s0, s1, s2, s3], undef].getD i undef) 200) mkR_mono (by
        intro i j hi hj h
        have := inj_getD [17, 18, 19, 20, 5, 6] (by decide) i j hi hj h
        exact this) (by
        intro i hi
        have := lt_getD 37 [17, 18, 19, 20, 5, 6] (by decide) i hi
        exact this) ?step ?done
      case step =>
        intro i hi a w9 v lo hi' hoth hb hw
        have hB := FB.out w9 (chain2 H3.out hb (Nat.le_refl _))
        have sl2 : a.tmps[2]? = some (.pointer (some ⟨w.heap.size, 0, none⟩)) := (hoth 2 (fun j hj => by
          have := ne_getD 2 [17, 18, 19, 20, 5, 6] (by decide) j hj
          exact this)).trans rfl
        have sl3 : a.tmps[3]? = some (.pointer (some ⟨w.heap.size + 1, 0, none⟩)) := (hoth 3 (fun j hj => by
          have := ne_getD 3 [17, 18, 19, 20, 5, 6] (by decide) j hj
          exact this)).trans rfl
        match i, hi with
        | 0, _ =>
          exact grow_load rfl rfl 26 (.tmp 2) rfl (w.heap.size) 0 (eval_of sl2) [r0, r1, r2, r3] _ (World.rangeAt_of_block hB.b0 0 4) Tryz.underlying26 rfl (by kernel_rfl) ⟨_, rfl, Below.refl _ _, rfl⟩
        | 1, _ =>
          obtain ⟨sx, ex, _⟩ := hw 0 (by omega) (by kernel_rfl)
          have e : v 0 = .agg #[r0, r1, r2, r3] := ex
          rw [e] at sx
          refine grow_call1 rfl rfl 10 17 _ rfl _ (fun v w => by go_simp) sx ?_
          refine (KOr.out (by simp) w9 hB.bel).mono ?_
          rintro e w3 ⟨o, p, rfl, hp, hb3, ok⟩
          exact ⟨_, rfl, _, rfl, hb3, o, p, rfl, hp.more (fun b h => by rcases h with h | h; exact h.elim; exact h), ok⟩
        | 2, _ =>
          exact grow_load rfl rfl 26 (.tmp 3) rfl (w.heap.size + 1) 0 (eval_of sl3) [s0, s1, s2, s3] _ (World.rangeAt_of_block hB.b1 0 4) Tryz.underlying26 rfl (by kernel_rfl) ⟨_, rfl, Below.refl _ _, rfl⟩
        | 3, _ =>
          obtain ⟨sx, ex, _⟩ := hw 2 (by omega) (by kernel_rfl)
          have e : v 2 = .agg #[s0, s1, s2, s3] := ex
          rw [e] at sx
          refine grow_call1 rfl rfl 10 19 _ rfl _ (fun v w => by go_simp) sx ?_
          refine (KOs.out (by simp) w9 hB.bel).mono ?_
          rintro e w3 ⟨o, p, rfl, hp, hb3, ok⟩
          exact ⟨_, rfl, _, rfl, hb3, o, p, rfl, hp.more (fun b h => by rcases h with h | h; exact h.elim; exact h), ok⟩
        | 4, _ =>
          exact grow_allocO rfl rfl rfl ⟨_, rfl, Below.alloc (Below.refl _ _) (Nat.le_refl _) _, rfl, heap_alloc_new _ _, by simp⟩
        | 5, _ =>
          exact grow_allocO rfl rfl rfl ⟨_, rfl, Below.alloc (Below.refl _ _) (Nat.le_refl _) _, rfl, heap_alloc_new _ _, by simp⟩
      case done =>
        intro a w9 v lo hi' hdef hsz hoth hb hj hap
        obtain ⟨_, ⟨o0, p0, hv0, hp0, ok0⟩, hlo0, hhi0⟩ := hj 1 (by omega)
        obtain ⟨_, ⟨hw0, hg0, hlt0⟩, hl0, hh0⟩ := hj 4 (by omega)
        obtain ⟨_, ⟨o1, p1, hv1, hp1, ok1⟩, hlo1, hhi1⟩ := hj 3 (by omega)
        obtain ⟨_, ⟨hw1, hg1, hlt1⟩, hl1, hh1⟩ := hj 5 (by omega)
        have k00 := hap 1 4 (by omega) (by omega) (by decide)
        have q01 := hap 4 5 (by omega) (by omega) (by decide)
        have k01 := hap 1 5 (by omega) (by omega) (by decide)
        have k10 := hap 3 4 (by omega) (by omega) (by decide)
        have k11 := hap 3 5 (by omega) (by omega) (by decide)
        have ha := eq_puts hdef hsz hoth (fun i hi => (hj i hi).1)
        have hbel := Lib.hid ((FB.out w9 (chain2 H3.out hb (Nat.le_refl _))).bel)
        have hwz := hbel.out.size
        have hsb := hb.size
        have hsw := (FB.out w3 H3.out).bel.size
        subst ha
        clear hj hap hoth hdef hsz hb
        simp only [puts, List.getD_cons_zero, List.getD_cons_succ, hv0, hv1, hw0, hw1]
        generalize v 0 = v0
        generalize v 2 = v2
        clear hv0 hv1 hw0 hw1
        generalize lo 4 = g0 at *
        generalize hi' 4 = e0 at *
        generalize lo 1 = l0 at *
        generalize hi' 1 = h0 at *
        generalize lo 5 = g1 at *
        generalize hi' 5 = e1 at *
        generalize lo 3 = l1 at *
        generalize hi' 3 = h1 at *
        simp only [Act.put, List.setIfInBounds_toArray, List.set_cons_zero, List.set_cons_succ]
        show wpList _ _ _ [_, _] _ _
        refine storeV (w1 := w9) rfl (.tmp 5) (.tmp 18) rfl g0 o0 p0 rfl rfl hp0 _ _ hg0 rfl ?_
        refine storeV (w1 := w9) rfl (.tmp 6) (.tmp 20) rfl g1 o1 p1 rfl rfl hp1 _ _ ((setRow_other _ _ _ _ (by omega)).trans hg1) rfl ?_
        have hX := Stored2.new (B := w.heap.size) hg0 hp0 hg1 hp1 (by omega) (by omega) (fun b h => by omega) (fun b h => by omega) (by omega) (fun h => by omega) (fun h => by omega) (fun h => by omega) (fun h => by omega) hbel.out
        generalize (World.setRow (World.setRow w9 g0 (cellsO o0 p0).toArray) g1 (cellsO o1 p1).toArray) = X at hX ⊢
        have HX := Lib.hid hX
        clear hX hg0 hp0 hg1 hp1
        have FS : Hid (∀ X', Below X.heap.size X X' → Stored2 w.heap.size w X' g0 g1 o0 o1 p0 p1) := fun X' h => HX.out.below h
        obtain ⟨x0, x1, x2, x3, x4, x5, ex0⟩ := cells7 o0 p0
        have ev0 : vO o0 p0 = .agg #[x0, x1, x2, x3, x4, x5, p0] := by unfold vO; rw [ex0]
        obtain ⟨y0, y1, y2, y3, y4, y5, ex1⟩ := cells7 o1 p1
        have ev1 : vO o1 p1 = .agg #[y0, y1, y2, y3, y4, y5, p1] := by unfold vO; rw [ex1]
        have FC : Hid (∀ X', Below X.heap.size X X' → (X'.cell? ⟨g0, 0, none⟩ = some x0 ∧ X'.cell? ⟨g0, 1, none⟩ = some x1 ∧ X'.cell? ⟨g0, 2, none⟩ = some x2 ∧ X'.cell? ⟨g0, 3, none⟩ = some x3 ∧ X'.cell? ⟨g0, 4, none⟩ = some x4 ∧ X'.cell? ⟨g0, 5, none⟩ = some x5 ∧ X'.cell? ⟨g0, 6, none⟩ = some p0) ∧ (X'.cell? ⟨g1, 0, none⟩ = some y0 ∧ X'.cell? ⟨g1, 1, none⟩ = some y1 ∧ X'.cell? ⟨g1, 2, none⟩ = some y2 ∧ X'.cell? ⟨g1, 3, none⟩ = some y3 ∧ X'.cell? ⟨g1, 4, none⟩ = some y4 ∧ X'.cell? ⟨g1, 5, none⟩ = some y5 ∧ X'.cell? ⟨g1, 6, none⟩ = some p1)) := fun X' h => by
          have F := FS.out X' h
          have f0 := F.h0
          rw [ex0] at f0
          have f1 := F.h1
          rw [ex1] at f1
          exact ⟨(row7 f0).1, (row7 f1).1⟩
        have bf0 : Bd 20 o0.fix := bd_fix ok0.1
        have bf1 : Bd 20 o1.fix := bd_fix ok1.1
        have CP : Hid (∀ X', Below X.heap.size X X' → Calls Tryz.prog 36 #[.agg #[x0, x1, x2, x3, x4, x5, p0], .agg #[y0, y1, y2, y3, y4, y5, p1]] X' (RetI X' (ordO o0 o1))) := fun X' h => by
          have F := FS.out X' h
          rw [← ev0, ← ev1]
          exact compareP 20 (by decide) o0 o1 p0 p1 X' (Has X') (In.has X') F.q0 F.q1 ok0.1 ok1.1 (by have := ok0.2; omega)
        have CR : Hid (∀ X', Below X.heap.size X X' → Calls Tryz.prog 37 #[.agg #[x0, x1, x2, x3, x4, x5, p0], .agg #[y0, y1, y2, y3, y4, y5, p1]] X' (RetI X' (ordO o0 o1))) := fun X' h => by
          have F := FS.out X' h
          rw [← ev0, ← ev1]
          exact compareO 20 (by decide) o0 o1 p0 p1 X' (Has X') (In.has X') F.q0 F.q1 ok0.1 ok1.1
        have LP : Hid (∀ X', Below X.heap.size X X' → Calls Tryz.prog 38 #[.agg #[x0, x1, x2, x3, x4, x5, p0], .agg #[y0, y1, y2, y3, y4, y5, p1]] X' (RetB X' (decide (ordQ o0.fix o1.fix < 0)))) := fun X' h => by
          have F := FS.out X' h
          rw [← ev0, ← ev1]
          exact lessP 20 (by decide) o0 o1 p0 p1 X' (Has X') F.q0 F.q1 bf0 bf1 (HT.out.below F.bel)
        have LR : Hid (∀ X', Below X.heap.size X X' → Calls Tryz.prog 39 #[.agg #[x0, x1, x2, x3, x4, x5, p0], .agg #[y0, y1, y2, y3, y4, y5, p1]] X' (RetB X' (decide (ordQ o0.fix o1.fix < 0)))) := fun X' h => by
          have F := FS.out X' h
          rw [← ev0, ← ev1]
          exact lessR 20 (by decide) o0 o1 p0 p1 X' (Has X') F.q0 F.q1 bf0 bf1 (HT.out.below F.bel)
        have HF : Hid (∀ X', Below X.heap.size X X' → Below w.heap.size w X') := fun X' h => (FS.out X' h).bel
        generalize ordO o0 o1 = kk at CP CR
        generalize decide (ordQ o0.fix o1.fix < 0) = bb at LP LR
        clear FS HX ev0 ev1 ex0 ex1 ok0 ok1 bf0 bf1
        obtain ⟨⟨m00, m01, m02, m03, m04, m05, m06⟩, ⟨m10, m11, m12, m13, m14, m15, m16⟩⟩ := FC.out X (Below.refl _ _)
        have hB0 : Below X.heap.size X X.drew := (Below.refl _ _).drew
        go_wp2_with fail
        go_region_held3 (fun W' => (W'.cell? ⟨g0, 0, none⟩ = some x0 ∧ W'.cell? ⟨g0, 1, none⟩ = some x1 ∧ W'.cell? ⟨g0, 2, none⟩ = some x2 ∧ W'.cell? ⟨g0, 3, none⟩ = some x3 ∧ W'.cell? ⟨g0, 4, none⟩ = some x4 ∧ W'.cell? ⟨g0, 5, none⟩ = some x5 ∧ W'.cell? ⟨g0, 6, none⟩ = some p0) ∧ (W'.cell? ⟨g1, 0, none⟩ = some y0 ∧ W'.cell? ⟨g1, 1, none⟩ = some y1 ∧ W'.cell? ⟨g1, 2, none⟩ = some y2 ∧ W'.cell? ⟨g1, 3, none⟩ = some y3 ∧ W'.cell? ⟨g1, 4, none⟩ = some y4 ∧ W'.cell? ⟨g1, 5, none⟩ = some y5 ∧ W'.cell? ⟨g1, 6, none⟩ = some p1)) (first | exact FC.out _ ‹Below X.heap.size X _› | go_keep)
          (first
            | (go_at_call 36; refine (CP.out _ ‹Below X.heap.size X _›).mono ?_; rintro e u1 ⟨rfl, hb1⟩; have hB1 := chain2 ‹Below X.heap.size X _› hb1 (Nat.le_refl _); clear hb1)
            | (go_at_call 37; refine (CR.out _ ‹Below X.heap.size X _›).mono ?_; rintro e u2 ⟨rfl, hb2⟩; have hB2 := chain2 ‹Below X.heap.size X _› hb2 (Nat.le_refl _); clear hb2)
            | (go_at_call 38; refine (LP.out _ ‹Below X.heap.size X _›).mono ?_; rintro e u3 ⟨rfl, hb3⟩; have hB3 := chain2 ‹Below X.heap.size X _› hb3 (Nat.le_refl _); clear hb3)
            | (go_at_call 39; refine (LR.out _ ‹Below X.heap.size X _›).mono ?_; rintro e u4 ⟨rfl, hb4⟩; have hB4 := chain2 ‹Below X.heap.size X _› hb4 (Nat.le_refl _); clear hb4))
        all_goals go_wp2
        all_goals go_ret
        all_goals exact ⟨rfl, HF.out _ ‹Below X.heap.size X _›⟩
end Go.Proofs.YtfnkmgipjemkdaaGreatDoor

/- The reference's Sum, Product, Opposite, Reciprocal. -/
namespace Go.Proofs.YtfnkmgipjemkdaaGreatDoor
open Go Go.RowKit
set_option linter.unusedVariables false

/-- Two numbers in their boxes, a box for the result. -/
structure FixB (w X : World) (g0 g1 r : Nat) (x y : Array Value) : Prop where
  bel : Below w.heap.size w X
  h0 : X.heap[g0]? = some (.cells x 31 (0, 0))
  h1 : X.heap[g1]? = some (.cells y 31 (0, 0))
  hr : ∃ z : Array Value, z.size = 7 ∧ X.heap[r]? = some (.cells z 31 (0, 0))
  n0 : r < g0
  n1 : r < g1
  low : w.heap.size ≤ r
theorem FixB.below {w X X' : World} {g0 g1 r : Nat} {x y : Array Value} (h : FixB w X g0 g1 r x y) (hb : Below X.heap.size X X') : FixB w X' g0 g1 r x y := by
  obtain ⟨z, hz, h2⟩ := h.hr
  exact ⟨h.bel.trans (hb.mono h.bel.size), (hb.block _ (lt_of_heap h.h0)).trans h.h0, (hb.block _ (lt_of_heap h.h1)).trans h.h1, ⟨z, hz, (hb.block _ (lt_of_heap h2)).trans h2⟩, h.n0, h.n1, h.low⟩
theorem FixB.ret {w X : World} {g0 g1 r : Nat} {x y : Array Value} (T : FixB w X g0 g1 r x y) (q : Rat) {fn : Func} {t : Tmp} {tmps : Array Value} (h : fn.results = #[.cell t 31]) (hr : tmps.getD t undef = .pointer (some ⟨r, 0, none⟩)) :
    bodyPost Tryz.prog fn (RetN w q) Exit.ret ⟨tmps, []⟩ (((((((X.setCell ⟨r, 0, none⟩ (.int .i64 1)).setCell ⟨r, 1, none⟩ (.string (nt q))).setCell ⟨r, 2, none⟩ (.string (dt q))).setCell ⟨r, 3, none⟩ (.string ⟨#[]⟩)).setCell ⟨r, 4, none⟩ (.string ⟨#[]⟩)).setCell ⟨r, 5, none⟩ (.string ⟨#[]⟩)).setCell ⟨r, 6, none⟩ (.slice none 0 0)) := by
  obtain ⟨z, hz, h2⟩ := T.hr
  rw [setRow7 h2 hz]
  exact retN h hr (setRow_heap _ _ _ _ _ _ h2) rfl (below_setRowO T.bel T.low _)

set_option maxHeartbeats 8000000 in
set_option maxRecDepth 100000 in
theorem productR (d : Nat) (hd : d ≤ 1000) (a a' : Ob) (p p' : Value) (w : World) (S : Nat → Prop) (hp : Pair w S a p) (hp' : Pair w S a' p') (hb : Bd d a.fix) (hb' : Bd d a'.fix) (ht : Tab w) :
    Calls Tryz.prog 44 #[vO a p, vO a' p'] w (RetN w (a.fix * a'.fix)) := by
  have HT := Lib.hid ht
  have A1 : Hid (∀ wd, Tab wd → Calls Tryz.prog 70 #[vO a p] wd (RetN wd a.fix)) := fun wd h => fixR a p wd (fun q e => by subst e; exact hp) h
  have A2 : Hid (∀ wd, Tab wd → Calls Tryz.prog 70 #[vO a' p'] wd (RetN wd a'.fix)) := fun wd h => fixR a' p' wd (fun q e => by subst e; exact hp') h
  clear ht hp hp'
  generalize a.fix = x at A1 hb ⊢
  generalize a'.fix = y at A2 hb' ⊢
  obtain ⟨x0, x1, x2, x3, x4, x5, e⟩ := cells7 a p
  obtain ⟨y0, y1, y2, y3, y4, y5, e'⟩ := cells7 a' p'
  unfold vO at A1 A2
  rw [e] at A1
  rw [e'] at A2
  unfold vO
  rw [e, e']
  clear e e'
  go_enter Tryz.func44, Tryz.ntmps44
  go_wp2_with fail
  have T0 := Three.new w #[x0, x1, x2, x3, x4, x5, p] #[y0, y1, y2, y3, y4, y5, p'] #[.int .i64 0, .string ⟨#[]⟩, .string ⟨#[]⟩, .string ⟨#[]⟩, .string ⟨#[]⟩, .string ⟨#[]⟩, .slice none 0 0] rfl
  generalize ((w.alloc (.cells #[x0, x1, x2, x3, x4, x5, p] 31)).alloc (.cells #[y0, y1, y2, y3, y4, y5, p'] 31)).alloc (.cells #[.int .i64 0, .string ⟨#[]⟩, .string ⟨#[]⟩, .string ⟨#[]⟩, .string ⟨#[]⟩, .string ⟨#[]⟩, .slice none 0 0] 31) = W at T0 ⊢
  have HX := Lib.hid T0
  clear T0
  try go_wp2_with fail
  refine wp_region_grow (l := _) 6 (by kernel_rfl) (by kernel_rfl) (fun i => [7, 8, 9, 10, 5, 6].getD i 0) (mkR (fun i => [0, 0, 0, 0, 2, 2].getD i 3) (fun i => [.agg #[x0, x1, x2, x3, x4, x5, p], vQ x, .agg #[y0, y1, y2, y3, y4, y5, p'], vQ y].getD i undef) 0) mkR_mono (by
    intro i j hi hj h
    have := inj_getD [7, 8, 9, 10, 5, 6] (by decide) i j hi hj h
    exact this) (by
    intro i hi
    have := lt_getD 22 [7, 8, 9, 10, 5, 6] (by decide) i hi
    exact this) ?step ?done
  case step =>
    intro i hi a w9 v lo hi' hoth hbl hw
    have hB := HX.out.below hbl
    have sl0 : a.tmps[2]? = some (.pointer (some ⟨w.heap.size, 0, none⟩)) := (hoth 2 (fun j hj => by
      have := ne_getD 2 [7, 8, 9, 10, 5, 6] (by decide) j hj
      exact this)).trans rfl
    have sl1 : a.tmps[3]? = some (.pointer (some ⟨w.heap.size + 1, 0, none⟩)) := (hoth 3 (fun j hj => by
      have := ne_getD 3 [7, 8, 9, 10, 5, 6] (by decide) j hj
      exact this)).trans rfl
    match i, hi with
    | 0, _ => exact grow_load rfl rfl 31 (.tmp 2) rfl w.heap.size 0 (eval_of sl0) [x0, x1, x2, x3, x4, x5, p] _ (World.rangeAt_of_block hB.b0 0 7) Tryz.underlying31 rfl (by kernel_rfl) ⟨_, rfl, Below.refl _ _, rfl⟩
    | 1, _ =>
      obtain ⟨sx, ex, _⟩ := hw 0 (by omega) (by kernel_rfl)
      have e : v 0 = .agg #[x0, x1, x2, x3, x4, x5, p] := ex
      rw [e] at sx
      refine grow_call1 rfl rfl 70 7 _ rfl _ (fun v w => by go_simp) sx ?_
      refine (A1.out w9 (HT.out.below hB.bel)).mono ?_
      rintro e w3 ⟨rfl, hb3⟩
      exact ⟨_, rfl, _, rfl, hb3, rfl⟩
    | 2, _ => exact grow_load rfl rfl 31 (.tmp 3) rfl (w.heap.size + 1) 0 (eval_of sl1) [y0, y1, y2, y3, y4, y5, p'] _ (World.rangeAt_of_block hB.b1 0 7) Tryz.underlying31 rfl (by kernel_rfl) ⟨_, rfl, Below.refl _ _, rfl⟩
    | 3, _ =>
      obtain ⟨sx, ex, _⟩ := hw 2 (by omega) (by kernel_rfl)
      have e : v 2 = .agg #[y0, y1, y2, y3, y4, y5, p'] := ex
      rw [e] at sx
      refine grow_call1 rfl rfl 70 9 _ rfl _ (fun v w => by go_simp) sx ?_
      refine (A2.out w9 (HT.out.below hB.bel)).mono ?_
      rintro e w3 ⟨rfl, hb3⟩
      exact ⟨_, rfl, _, rfl, hb3, rfl⟩
    | 4, _ => exact grow_allocO rfl rfl rfl ⟨_, rfl, Below.alloc (Below.refl _ _) (Nat.le_refl _) _, rfl, heap_alloc_new _ _, by simp⟩
    | 5, _ => exact grow_allocO rfl rfl rfl ⟨_, rfl, Below.alloc (Below.refl _ _) (Nat.le_refl _) _, rfl, heap_alloc_new _ _, by simp⟩
  case done =>
    intro a w9 v lo hi' hdef hsz hoth hbl hj hap
    have e0 : v 0 = .agg #[x0, x1, x2, x3, x4, x5, p] := (hj 0 (by omega)).2.1
    have e1 : v 1 = vQ x := (hj 1 (by omega)).2.1
    have e2 : v 2 = .agg #[y0, y1, y2, y3, y4, y5, p'] := (hj 2 (by omega)).2.1
    have e3 : v 3 = vQ y := (hj 3 (by omega)).2.1
    obtain ⟨_, ⟨hw0, hg0, hlt0⟩, hl0, hh0⟩ := hj 4 (by omega)
    obtain ⟨_, ⟨hw1, hg1, hlt1⟩, hl1, hh1⟩ := hj 5 (by omega)
    have q01 := hap 4 5 (by omega) (by omega) (by decide)
    have ha := eq_puts hdef hsz hoth (fun i hi => (hj i hi).1)
    have hB := HX.out.below hbl
    have hsW := HX.out.size
    subst ha
    clear hj hap hoth hdef hsz
    simp only [puts, List.getD_cons_zero, List.getD_cons_succ, e0, e1, e2, e3, hw0, hw1]
    clear e0 e1 e2 e3 hw0 hw1
    generalize lo 4 = g0 at *
    generalize hi' 4 = c0 at *
    generalize lo 5 = g1 at *
    generalize hi' 5 = c1 at *
    simp only [Act.put, List.setIfInBounds_toArray, List.set_cons_zero, List.set_cons_succ]
    show wpList _ _ _ [_, _] _ _
    refine storeN rfl (.tmp 5) (.tmp 8) rfl g0 x rfl rfl _ _ hg0 rfl ?_
    refine storeN rfl (.tmp 6) (.tmp 10) rfl g1 y rfl rfl _ _ ((setRow_other _ _ _ _ (by omega)).trans hg1) rfl ?_
    have hX : FixB w ((w9.setRow g0 #[.int .i64 1, .string (nt x), .string (dt x), .string ⟨#[]⟩, .string ⟨#[]⟩, .string ⟨#[]⟩, .slice none 0 0]).setRow g1 #[.int .i64 1, .string (nt y), .string (dt y), .string ⟨#[]⟩, .string ⟨#[]⟩, .string ⟨#[]⟩, .slice none 0 0]) g0 g1 (w.heap.size + 1 + 1) #[.int .i64 1, .string (nt x), .string (dt x), .string ⟨#[]⟩, .string ⟨#[]⟩, .string ⟨#[]⟩, .slice none 0 0] #[.int .i64 1, .string (nt y), .string (dt y), .string ⟨#[]⟩, .string ⟨#[]⟩, .string ⟨#[]⟩, .slice none 0 0] := by
      obtain ⟨z, hz, h2⟩ := hB.b2
      exact ⟨below_setRowO (below_setRowO hB.bel (by omega) _) (by omega) _, (setRow_other _ _ _ _ (by omega)).trans (setRow_heap _ _ _ _ _ _ hg0), setRow_heap _ _ _ _ _ _ ((setRow_other _ _ _ _ (by omega)).trans hg1),
        ⟨z, hz, (setRow_other _ _ _ _ (by omega)).trans ((setRow_other _ _ _ _ (by omega)).trans h2)⟩, by omega, by omega, by omega⟩
    generalize (w9.setRow g0 #[.int .i64 1, .string (nt x), .string (dt x), .string ⟨#[]⟩, .string ⟨#[]⟩, .string ⟨#[]⟩, .slice none 0 0]).setRow g1 #[.int .i64 1, .string (nt y), .string (dt y), .string ⟨#[]⟩, .string ⟨#[]⟩, .string ⟨#[]⟩, .slice none 0 0] = wc at hX ⊢
    have T := Lib.hid hX
    clear hX hB hg0 hg1 hlt0 hlt1 hl0 hl1 hh0 hh1 q01 hbl HX A1 A2 hsW
    unfold vQ
    have b1 := bd_nt hb
    have b2 := bd_dt hb
    have b3 := bd_nt hb'
    have b4 := bd_dt hb'
    have hB0 : Below wc.heap.size wc wc.drew := (Below.refl _ _).drew
    obtain ⟨⟨_, c1, c2, _, _, _, _⟩, _⟩ := row7 T.out.h0
    obtain ⟨⟨_, d1, d2, _, _, _, _⟩, _⟩ := row7 T.out.h1
    have n1 : ¬ w.heap.size + 1 + 1 = g0 := by have := T.out.n0; omega
    have n2 : ¬ w.heap.size + 1 + 1 = g1 := by have := T.out.n1; omega
    have n3 : ¬ g0 = w.heap.size + 1 + 1 := by have := T.out.n0; omega
    have n4 : ¬ g1 = w.heap.size + 1 + 1 := by have := T.out.n1; omega
    generalize w.heap.size + 1 + 1 = r at T n1 n2 n3 n4 ⊢
    have hv : Hid (quo (LA (BA (text (val (LA (nt x)) * val (LA (nt y)))))) (LA (BA (text (val (LA (dt x)) * val (LA (dt y)))))) = x * y) := by
      show _ = _
      rw [val_nt, val_dt, val_nt, val_dt, quo_text, q_mul]
    have s1 : (BA (text (val (LA (nt x)) * val (LA (nt y))))).size ≤ 3000 := by
      rw [val_nt, val_nt, BA_size]
      refine Nat.le_trans (text_length (k := d + d) ?_) (by omega)
      rw [Int.natAbs_mul]
      exact lt_pow_mul hb.1 hb'.1
    have s2 : (BA (text (val (LA (dt x)) * val (LA (dt y))))).size ≤ 3000 := by
      rw [val_dt, val_dt, BA_size]
      refine Nat.le_trans (text_length (k := d + d) ?_) (by omega)
      rw [Int.natAbs_mul]
      exact lt_pow_mul hb.2 hb'.2
    have RN : Hid (∀ W, Calls Tryz.prog 15 #[.string (BA (text (val (LA (nt x)) * val (LA (nt y))))), .string (BA (text (val (LA (dt x)) * val (LA (dt y)))))] W (RetN W (x * y))) := fun W => by
      rw [← hv.out]; exact ratRN _ _ _ (by omega) (by omega)
    clear hb hb' hv s1 s2
    generalize nt x = nx at *
    generalize dt x = dx at *
    generalize nt y = ny at *
    generalize dt y = dy at *
    go_wp2_with fail
    go_region_held3 (fun W' => W'.cell? ⟨g0, 1, none⟩ = some (.string nx) ∧ W'.cell? ⟨g0, 2, none⟩ = some (.string dx) ∧ W'.cell? ⟨g1, 1, none⟩ = some (.string ny) ∧ W'.cell? ⟨g1, 2, none⟩ = some (.string dy)) (go_keep)
      (first
        | (go_at_call 65; refine (multiplyR _ _ _ (by omega) (by omega)).mono ?_; rintro e w3 ⟨rfl, hb3⟩; have hB3 := chain2 ‹Below wc.heap.size wc _› hb3 (Nat.le_refl _); obtain ⟨⟨_, c1, c2, _, _, _, _⟩, _⟩ := row7 (T.out.below hB3).h0; obtain ⟨⟨_, d1, d2, _, _, _, _⟩, _⟩ := row7 (T.out.below hB3).h1)
        | (go_at_call 15; refine (RN.out _).mono ?_; rintro e w4 ⟨rfl, hb4⟩; have hB4 := chain2 ‹Below wc.heap.size wc _› hb4 (Nat.le_refl _); obtain ⟨⟨_, c1, c2, _, _, _, _⟩, _⟩ := row7 (T.out.below hB4).h0; obtain ⟨⟨_, d1, d2, _, _, _, _⟩, _⟩ := row7 (T.out.below hB4).h1; obtain ⟨z, hz, hz2⟩ := (T.out.below hB4).hr; obtain ⟨z0, z1, z2, z3, z4, z5, z6, ⟨q0, q1, q2, q3, q4, q5, q6⟩, f2⟩ := row7z hz hz2; clear hz hz2; unfold vQ))
    all_goals go_wp2
    all_goals exact FixB.ret (T.out.below ‹Below wc.heap.size wc _›) _ rfl rfl

set_option maxHeartbeats 8000000 in
set_option maxRecDepth 100000 in
theorem sumR (d : Nat) (hd : d ≤ 1000) (a a' : Ob) (p p' : Value) (w : World) (S : Nat → Prop) (hp : Pair w S a p) (hp' : Pair w S a' p') (hb : Bd d a.fix) (hb' : Bd d a'.fix) (ht : Tab w) :
    Calls Tryz.prog 42 #[vO a p, vO a' p'] w (RetN w (a.fix + a'.fix)) := by
  have HT := Lib.hid ht
  have A1 : Hid (∀ wd, Tab wd → Calls Tryz.prog 70 #[vO a p] wd (RetN wd a.fix)) := fun wd h => fixR a p wd (fun q e => by subst e; exact hp) h
  have A2 : Hid (∀ wd, Tab wd → Calls Tryz.prog 70 #[vO a' p'] wd (RetN wd a'.fix)) := fun wd h => fixR a' p' wd (fun q e => by subst e; exact hp') h
  clear ht hp hp'
  generalize a.fix = x at A1 hb ⊢
  generalize a'.fix = y at A2 hb' ⊢
  obtain ⟨x0, x1, x2, x3, x4, x5, e⟩ := cells7 a p
  obtain ⟨y0, y1, y2, y3, y4, y5, e'⟩ := cells7 a' p'
  unfold vO at A1 A2
  rw [e] at A1
  rw [e'] at A2
  unfold vO
  rw [e, e']
  clear e e'
  go_enter Tryz.func42, Tryz.ntmps42
  go_wp2_with fail
  have T0 := Three.new w #[x0, x1, x2, x3, x4, x5, p] #[y0, y1, y2, y3, y4, y5, p'] #[.int .i64 0, .string ⟨#[]⟩, .string ⟨#[]⟩, .string ⟨#[]⟩, .string ⟨#[]⟩, .string ⟨#[]⟩, .slice none 0 0] rfl
  generalize ((w.alloc (.cells #[x0, x1, x2, x3, x4, x5, p] 31)).alloc (.cells #[y0, y1, y2, y3, y4, y5, p'] 31)).alloc (.cells #[.int .i64 0, .string ⟨#[]⟩, .string ⟨#[]⟩, .string ⟨#[]⟩, .string ⟨#[]⟩, .string ⟨#[]⟩, .slice none 0 0] 31) = W at T0 ⊢
  have HX := Lib.hid T0
  clear T0
  try go_wp2_with fail
  refine wp_region_grow (l := _) 6 (by kernel_rfl) (by kernel_rfl) (fun i => [7, 8, 9, 10, 5, 6].getD i 0) (mkR (fun i => [0, 0, 0, 0, 2, 2].getD i 3) (fun i => [.agg #[x0, x1, x2, x3, x4, x5, p], vQ x, .agg #[y0, y1, y2, y3, y4, y5, p'], vQ y].getD i undef) 0) mkR_mono (by
    intro i j hi hj h
    have := inj_getD [7, 8, 9, 10, 5, 6] (by decide) i j hi hj h
    exact this) (by
    intro i hi
    have := lt_getD 28 [7, 8, 9, 10, 5, 6] (by decide) i hi
    exact this) ?step ?done
  case step =>
    intro i hi a w9 v lo hi' hoth hbl hw
    have hB := HX.out.below hbl
    have sl0 : a.tmps[2]? = some (.pointer (some ⟨w.heap.size, 0, none⟩)) := (hoth 2 (fun j hj => by
      have := ne_getD 2 [7, 8, 9, 10, 5, 6] (by decide) j hj
      exact this)).trans rfl
    have sl1 : a.tmps[3]? = some (.pointer (some ⟨w.heap.size + 1, 0, none⟩)) := (hoth 3 (fun j hj => by
      have := ne_getD 3 [7, 8, 9, 10, 5, 6] (by decide) j hj
      exact this)).trans rfl
    match i, hi with
    | 0, _ => exact grow_load rfl rfl 31 (.tmp 2) rfl w.heap.size 0 (eval_of sl0) [x0, x1, x2, x3, x4, x5, p] _ (World.rangeAt_of_block hB.b0 0 7) Tryz.underlying31 rfl (by kernel_rfl) ⟨_, rfl, Below.refl _ _, rfl⟩
    | 1, _ =>
      obtain ⟨sx, ex, _⟩ := hw 0 (by omega) (by kernel_rfl)
      have e : v 0 = .agg #[x0, x1, x2, x3, x4, x5, p] := ex
      rw [e] at sx
      refine grow_call1 rfl rfl 70 7 _ rfl _ (fun v w => by go_simp) sx ?_
      refine (A1.out w9 (HT.out.below hB.bel)).mono ?_
      rintro e w3 ⟨rfl, hb3⟩
      exact ⟨_, rfl, _, rfl, hb3, rfl⟩
    | 2, _ => exact grow_load rfl rfl 31 (.tmp 3) rfl (w.heap.size + 1) 0 (eval_of sl1) [y0, y1, y2, y3, y4, y5, p'] _ (World.rangeAt_of_block hB.b1 0 7) Tryz.underlying31 rfl (by kernel_rfl) ⟨_, rfl, Below.refl _ _, rfl⟩
    | 3, _ =>
      obtain ⟨sx, ex, _⟩ := hw 2 (by omega) (by kernel_rfl)
      have e : v 2 = .agg #[y0, y1, y2, y3, y4, y5, p'] := ex
      rw [e] at sx
      refine grow_call1 rfl rfl 70 9 _ rfl _ (fun v w => by go_simp) sx ?_
      refine (A2.out w9 (HT.out.below hB.bel)).mono ?_
      rintro e w3 ⟨rfl, hb3⟩
      exact ⟨_, rfl, _, rfl, hb3, rfl⟩
    | 4, _ => exact grow_allocO rfl rfl rfl ⟨_, rfl, Below.alloc (Below.refl _ _) (Nat.le_refl _) _, rfl, heap_alloc_new _ _, by simp⟩
    | 5, _ => exact grow_allocO rfl rfl rfl ⟨_, rfl, Below.alloc (Below.refl _ _) (Nat.le_refl _) _, rfl, heap_alloc_new _ _, by simp⟩
  case done =>
    intro a w9 v lo hi' hdef hsz hoth hbl hj hap
    have e0 : v 0 = .agg #[x0, x1, x2, x3, x4, x5, p] := (hj 0 (by omega)).2.1
    have e1 : v 1 = vQ x := (hj 1 (by omega)).2.1
    have e2 : v 2 = .agg #[y0, y1, y2, y3, y4, y5, p'] := (hj 2 (by omega)).2.1
    have e3 : v 3 = vQ y := (hj 3 (by omega)).2.1
    obtain ⟨_, ⟨hw0, hg0, hlt0⟩, hl0, hh0⟩ := hj 4 (by omega)
    obtain ⟨_, ⟨hw1, hg1, hlt1⟩, hl1, hh1⟩ := hj 5 (by omega)
    have q01 := hap 4 5 (by omega) (by omega) (by decide)
    have ha := eq_puts hdef hsz hoth (fun i hi => (hj i hi).1)
    have hB := HX.out.below hbl
    have hsW := HX.out.size
    subst ha
    clear hj hap hoth hdef hsz
    simp only [puts, List.getD_cons_zero, List.getD_cons_succ, e0, e1, e2, e3, hw0, hw1]
    clear e0 e1 e2 e3 hw0 hw1
    generalize lo 4 = g0 at *
    generalize hi' 4 = c0 at *
    generalize lo 5 = g1 at *
    generalize hi' 5 = c1 at *
    simp only [Act.put, List.setIfInBounds_toArray, List.set_cons_zero, List.set_cons_succ]
    show wpList _ _ _ [_, _] _ _
    refine storeN rfl (.tmp 5) (.tmp 8) rfl g0 x rfl rfl _ _ hg0 rfl ?_
    refine storeN rfl (.tmp 6) (.tmp 10) rfl g1 y rfl rfl _ _ ((setRow_other _ _ _ _ (by omega)).trans hg1) rfl ?_
    have hX : FixB w ((w9.setRow g0 #[.int .i64 1, .string (nt x), .string (dt x), .string ⟨#[]⟩, .string ⟨#[]⟩, .string ⟨#[]⟩, .slice none 0 0]).setRow g1 #[.int .i64 1, .string (nt y), .string (dt y), .string ⟨#[]⟩, .string ⟨#[]⟩, .string ⟨#[]⟩, .slice none 0 0]) g0 g1 (w.heap.size + 1 + 1) #[.int .i64 1, .string (nt x), .string (dt x), .string ⟨#[]⟩, .string ⟨#[]⟩, .string ⟨#[]⟩, .slice none 0 0] #[.int .i64 1, .string (nt y), .string (dt y), .string ⟨#[]⟩, .string ⟨#[]⟩, .string ⟨#[]⟩, .slice none 0 0] := by
      obtain ⟨z, hz, h2⟩ := hB.b2
      exact ⟨below_setRowO (below_setRowO hB.bel (by omega) _) (by omega) _, (setRow_other _ _ _ _ (by omega)).trans (setRow_heap _ _ _ _ _ _ hg0), setRow_heap _ _ _ _ _ _ ((setRow_other _ _ _ _ (by omega)).trans hg1),
        ⟨z, hz, (setRow_other _ _ _ _ (by omega)).trans ((setRow_other _ _ _ _ (by omega)).trans h2)⟩, by omega, by omega, by omega⟩
    generalize (w9.setRow g0 #[.int .i64 1, .string (nt x), .string (dt x), .string ⟨#[]⟩, .string ⟨#[]⟩, .string ⟨#[]⟩, .slice none 0 0]).setRow g1 #[.int .i64 1, .string (nt y), .string (dt y), .string ⟨#[]⟩, .string ⟨#[]⟩, .string ⟨#[]⟩, .slice none 0 0] = wc at hX ⊢
    have T := Lib.hid hX
    clear hX hB hg0 hg1 hlt0 hlt1 hl0 hl1 hh0 hh1 q01 hbl HX A1 A2 hsW
    unfold vQ
    have b1 := bd_nt hb
    have b2 := bd_dt hb
    have b3 := bd_nt hb'
    have b4 := bd_dt hb'
    have hB0 : Below wc.heap.size wc wc.drew := (Below.refl _ _).drew
    obtain ⟨⟨_, c1, c2, _, _, _, _⟩, _⟩ := row7 T.out.h0
    obtain ⟨⟨_, d1, d2, _, _, _, _⟩, _⟩ := row7 T.out.h1
    have n1 : ¬ w.heap.size + 1 + 1 = g0 := by have := T.out.n0; omega
    have n2 : ¬ w.heap.size + 1 + 1 = g1 := by have := T.out.n1; omega
    have n3 : ¬ g0 = w.heap.size + 1 + 1 := by have := T.out.n0; omega
    have n4 : ¬ g1 = w.heap.size + 1 + 1 := by have := T.out.n1; omega
    generalize w.heap.size + 1 + 1 = r at T n1 n2 n3 n4 ⊢
    have m1 := lt_pow_mul hb.1 hb'.2
    have m2 := lt_pow_mul hb'.1 hb.2
    have m3 := lt_pow_mul hb.2 hb'.2
    have hp2 : 10 ^ (d + d + 1) = 10 ^ (d + d) * 10 := Nat.pow_succ ..
    have s1 : (BA (text (val (LA (nt x)) * val (LA (dt y))))).size ≤ 3000 := by
      rw [val_nt, val_dt, BA_size]
      refine Nat.le_trans (text_length (k := d + d) ?_) (by omega)
      rw [Int.natAbs_mul]
      exact m1
    have s2 : (BA (text (val (LA (nt y)) * val (LA (dt x))))).size ≤ 3000 := by
      rw [val_nt, val_dt, BA_size]
      refine Nat.le_trans (text_length (k := d + d) ?_) (by omega)
      rw [Int.natAbs_mul]
      exact m2
    have s3 : (BA (text (val (LA (dt x)) * val (LA (dt y))))).size ≤ 3000 := by
      rw [val_dt, val_dt, BA_size]
      refine Nat.le_trans (text_length (k := d + d) ?_) (by omega)
      rw [Int.natAbs_mul]
      exact m3
    have hA : Hid (∀ W, Calls Tryz.prog 73 #[.string (BA (text (val (LA (nt x)) * val (LA (dt y))))), .string (BA (text (val (LA (nt y)) * val (LA (dt x)))))] W (RetS W (x.num * (y.den : Int) + y.num * (x.den : Int)))) := fun W => by
      have h := addR (BA (text (val (LA (nt x)) * val (LA (dt y))))) (BA (text (val (LA (nt y)) * val (LA (dt x))))) W (by omega) (by omega)
      rw [LA_BA, LA_BA, val_text, val_text, val_nt, val_dt, val_nt, val_dt] at h
      rw [val_nt, val_dt, val_nt, val_dt]
      exact h
    have s4 : (BA (text (x.num * (y.den : Int) + y.num * (x.den : Int)))).size ≤ 3000 := by
      rw [BA_size]
      refine Nat.le_trans (text_length (k := d + d + 1) ?_) (by omega)
      have h3 := Int.natAbs_add_le (x.num * (y.den : Int)) (y.num * (x.den : Int))
      rw [Int.natAbs_mul, Int.natAbs_mul, Int.natAbs_natCast, Int.natAbs_natCast] at h3
      omega
    have RN : Hid (∀ W, Calls Tryz.prog 15 #[.string (BA (text (x.num * (y.den : Int) + y.num * (x.den : Int)))), .string (BA (text (val (LA (dt x)) * val (LA (dt y)))))] W (RetN W (x + y))) := fun W => by
      have h := ratRN (BA (text (x.num * (y.den : Int) + y.num * (x.den : Int)))) (BA (text (val (LA (dt x)) * val (LA (dt y))))) W (by omega) (by omega)
      rw [val_dt, val_dt, quo_text, q_add] at h
      rw [val_dt, val_dt]
      exact h
    clear hb hb' m1 m2 m3 hp2 s1 s2 s3 s4
    generalize x.num * (y.den : Int) + y.num * (x.den : Int) = nn at hA RN
    generalize nt x = nx at *
    generalize dt x = dx at *
    generalize nt y = ny at *
    generalize dt y = dy at *
    go_wp2_with fail
    go_region_held3 (fun W' => W'.cell? ⟨g0, 1, none⟩ = some (.string nx) ∧ W'.cell? ⟨g0, 2, none⟩ = some (.string dx) ∧ W'.cell? ⟨g1, 1, none⟩ = some (.string ny) ∧ W'.cell? ⟨g1, 2, none⟩ = some (.string dy)) (go_keep)
      (first
        | (go_at_call 65; refine (multiplyR _ _ _ (by omega) (by omega)).mono ?_; rintro e w3 ⟨rfl, hb3⟩; have hB3 := chain2 ‹Below wc.heap.size wc _› hb3 (Nat.le_refl _); obtain ⟨⟨_, c1, c2, _, _, _, _⟩, _⟩ := row7 (T.out.below hB3).h0; obtain ⟨⟨_, d1, d2, _, _, _, _⟩, _⟩ := row7 (T.out.below hB3).h1)
        | (go_at_call 73; refine (hA.out _).mono ?_; rintro e w5 ⟨rfl, hb5⟩; have hB5 := chain2 ‹Below wc.heap.size wc _› hb5 (Nat.le_refl _); obtain ⟨⟨_, c1, c2, _, _, _, _⟩, _⟩ := row7 (T.out.below hB5).h0; obtain ⟨⟨_, d1, d2, _, _, _, _⟩, _⟩ := row7 (T.out.below hB5).h1)
        | (go_at_call 15; refine (RN.out _).mono ?_; rintro e w4 ⟨rfl, hb4⟩; have hB4 := chain2 ‹Below wc.heap.size wc _› hb4 (Nat.le_refl _); obtain ⟨⟨_, c1, c2, _, _, _, _⟩, _⟩ := row7 (T.out.below hB4).h0; obtain ⟨⟨_, d1, d2, _, _, _, _⟩, _⟩ := row7 (T.out.below hB4).h1; obtain ⟨z, hz, hz2⟩ := (T.out.below hB4).hr; obtain ⟨z0, z1, z2, z3, z4, z5, z6, ⟨q0, q1, q2, q3, q4, q5, q6⟩, f2⟩ := row7z hz hz2; clear hz hz2; unfold vQ))
    all_goals go_wp2
    all_goals exact FixB.ret (T.out.below ‹Below wc.heap.size wc _›) _ rfl rfl

set_option maxHeartbeats 8000000 in
set_option maxRecDepth 100000 in
theorem reciprocalR (d : Nat) (hd : d ≤ 1000) (a : Ob) (p : Value) (w : World) (S : Nat → Prop) (hp : Pair w S a p) (hb : Bd d a.fix) (ht : Tab w) :
    Calls Tryz.prog 48 #[vO a p] w (RetN w (a.fix⁻¹)) := by
  have HT := Lib.hid ht
  have A1 : Hid (∀ wd, Tab wd → Calls Tryz.prog 70 #[vO a p] wd (RetN wd a.fix)) := fun wd h => fixR a p wd (fun q e => by subst e; exact hp) h
  clear ht hp
  generalize a.fix = x at A1 hb ⊢
  obtain ⟨x0, x1, x2, x3, x4, x5, e⟩ := cells7 a p
  unfold vO at A1
  rw [e] at A1
  unfold vO
  rw [e]
  clear e
  go_enter Tryz.func48, Tryz.ntmps48
  go_wp2_with fail
  have T0 := TwoB.new w #[x0, x1, x2, x3, x4, x5, p] #[.int .i64 0, .string ⟨#[]⟩, .string ⟨#[]⟩, .string ⟨#[]⟩, .string ⟨#[]⟩, .string ⟨#[]⟩, .slice none 0 0] rfl
  generalize (w.alloc (.cells #[x0, x1, x2, x3, x4, x5, p] 31)).alloc (.cells #[.int .i64 0, .string ⟨#[]⟩, .string ⟨#[]⟩, .string ⟨#[]⟩, .string ⟨#[]⟩, .string ⟨#[]⟩, .slice none 0 0] 31) = W at T0 ⊢
  refine (A1.out _ (HT.out.below T0.bel)).mono ?_
  rintro e w1 ⟨rfl, hb1⟩
  have T1 := T0.below hb1
  have hs1 := T1.size
  have hg := Lib.hid (heap_alloc_new w1 (.cells #[.int .i64 0, .string ⟨#[]⟩, .string ⟨#[]⟩, .string ⟨#[]⟩, .string ⟨#[]⟩, .string ⟨#[]⟩, .slice none 0 0] 31))
  have hX : FixB w ((w1.alloc (.cells #[.int .i64 0, .string ⟨#[]⟩, .string ⟨#[]⟩, .string ⟨#[]⟩, .string ⟨#[]⟩, .string ⟨#[]⟩, .slice none 0 0] 31)).setRow w1.heap.size #[.int .i64 1, .string (nt x), .string (dt x), .string ⟨#[]⟩, .string ⟨#[]⟩, .string ⟨#[]⟩, .slice none 0 0]) w1.heap.size w1.heap.size (w.heap.size + 1) #[.int .i64 1, .string (nt x), .string (dt x), .string ⟨#[]⟩, .string ⟨#[]⟩, .string ⟨#[]⟩, .slice none 0 0] #[.int .i64 1, .string (nt x), .string (dt x), .string ⟨#[]⟩, .string ⟨#[]⟩, .string ⟨#[]⟩, .slice none 0 0] := by
    obtain ⟨z, hz, h2⟩ := T1.b1
    exact ⟨below_setRowO (Below.alloc T1.bel (by omega) _) (by omega) _, setRow_heap _ _ _ _ _ _ hg.out, setRow_heap _ _ _ _ _ _ hg.out, ⟨z, hz, (setRow_other _ _ _ _ (by omega)).trans ((Below.heap_alloc _ _ _ (by omega)).trans h2)⟩, by omega, by omega, by omega⟩
  have T := Lib.hid hX
  obtain ⟨⟨_, c1, c2, _, _, _, _⟩, _⟩ := row7 hX.h0
  clear T0 T1 hb1 A1 HT hX
  have b1 := bd_nt hb
  have b2 := bd_dt hb
  have RN : Hid (∀ W, Calls Tryz.prog 15 #[.string (dt x), .string (nt x)] W (RetN W x⁻¹)) := fun W => by
    have h := ratRN (dt x) (nt x) W (by omega) (by omega)
    have e : quo (LA (dt x)) (LA (nt x)) = x⁻¹ := by unfold quo; rw [val_nt, val_dt, q_inv]
    rw [e] at h
    exact h
  clear hb b1 b2
  go_wp2_with (refine storeN rfl (.tmp 3) (.tmp 5) rfl w1.heap.size x rfl rfl _ _ hg.out rfl ?_)
  clear hg
  generalize (w1.alloc (.cells #[.int .i64 0, .string ⟨#[]⟩, .string ⟨#[]⟩, .string ⟨#[]⟩, .string ⟨#[]⟩, .string ⟨#[]⟩, .slice none 0 0] 31)).setRow w1.heap.size #[.int .i64 1, .string (nt x), .string (dt x), .string ⟨#[]⟩, .string ⟨#[]⟩, .string ⟨#[]⟩, .slice none 0 0] = wc at T c1 c2 ⊢
  refine (RN.out _).mono ?_
  rintro e w6 ⟨rfl, hb6⟩
  have T6 := Lib.hid (T.out.below hb6)
  obtain ⟨z, hz, hz2⟩ := T6.out.hr
  have HZ := Lib.hid hz2
  have HZ1 := Lib.hid hz
  clear hz hz2 hb6
  go_wp2_with (refine storeN rfl (.tmp 2) (.tmp 10) rfl (w.heap.size + 1) x⁻¹ rfl rfl _ _ HZ.out HZ1.out ?_)
  exact retN (q := 2) (g := w.heap.size + 1) rfl rfl (setRow_heap _ _ _ _ _ _ HZ.out) rfl (below_setRowO T6.out.bel (by omega) _)

set_option maxHeartbeats 8000000 in
set_option maxRecDepth 100000 in
theorem oppositeR (d : Nat) (hd : d ≤ 1000) (a : Ob) (p : Value) (w : World) (S : Nat → Prop) (hp : Pair w S a p) (hb : Bd d a.fix) (ht : Tab w) :
    Calls Tryz.prog 46 #[vO a p] w (RetN w (-a.fix)) := by
  have HT := Lib.hid ht
  have A1 : Hid (∀ wd, Tab wd → Calls Tryz.prog 70 #[vO a p] wd (RetN wd a.fix)) := fun wd h => fixR a p wd (fun q e => by subst e; exact hp) h
  clear ht hp
  generalize a.fix = x at A1 hb ⊢
  obtain ⟨x0, x1, x2, x3, x4, x5, e⟩ := cells7 a p
  unfold vO at A1
  rw [e] at A1
  unfold vO
  rw [e]
  clear e
  go_enter Tryz.func46, Tryz.ntmps46
  go_wp2_with fail
  have T0 := TwoB.new w #[x0, x1, x2, x3, x4, x5, p] #[.int .i64 0, .string ⟨#[]⟩, .string ⟨#[]⟩, .string ⟨#[]⟩, .string ⟨#[]⟩, .string ⟨#[]⟩, .slice none 0 0] rfl
  generalize (w.alloc (.cells #[x0, x1, x2, x3, x4, x5, p] 31)).alloc (.cells #[.int .i64 0, .string ⟨#[]⟩, .string ⟨#[]⟩, .string ⟨#[]⟩, .string ⟨#[]⟩, .string ⟨#[]⟩, .slice none 0 0] 31) = W at T0 ⊢
  refine (A1.out _ (HT.out.below T0.bel)).mono ?_
  rintro e w1 ⟨rfl, hb1⟩
  have T1 := T0.below hb1
  have hs1 := T1.size
  have hg := Lib.hid (heap_alloc_new w1 (.cells #[.int .i64 0, .string ⟨#[]⟩, .string ⟨#[]⟩, .string ⟨#[]⟩, .string ⟨#[]⟩, .string ⟨#[]⟩, .slice none 0 0] 31))
  have hX : FixB w ((w1.alloc (.cells #[.int .i64 0, .string ⟨#[]⟩, .string ⟨#[]⟩, .string ⟨#[]⟩, .string ⟨#[]⟩, .string ⟨#[]⟩, .slice none 0 0] 31)).setRow w1.heap.size #[.int .i64 1, .string (nt x), .string (dt x), .string ⟨#[]⟩, .string ⟨#[]⟩, .string ⟨#[]⟩, .slice none 0 0]) w1.heap.size w1.heap.size (w.heap.size + 1) #[.int .i64 1, .string (nt x), .string (dt x), .string ⟨#[]⟩, .string ⟨#[]⟩, .string ⟨#[]⟩, .slice none 0 0] #[.int .i64 1, .string (nt x), .string (dt x), .string ⟨#[]⟩, .string ⟨#[]⟩, .string ⟨#[]⟩, .slice none 0 0] := by
    obtain ⟨z, hz, h2⟩ := T1.b1
    exact ⟨below_setRowO (Below.alloc T1.bel (by omega) _) (by omega) _, setRow_heap _ _ _ _ _ _ hg.out, setRow_heap _ _ _ _ _ _ hg.out, ⟨z, hz, (setRow_other _ _ _ _ (by omega)).trans ((Below.heap_alloc _ _ _ (by omega)).trans h2)⟩, by omega, by omega, by omega⟩
  have T := Lib.hid hX
  obtain ⟨⟨_, c1, c2, _, _, _, _⟩, _⟩ := row7 hX.h0
  clear T0 T1 hb1 A1 HT hX
  have b1 := bd_nt hb
  have b2 := bd_dt hb
  have s1 : (BA (text (- val (LA (nt x))))).size ≤ 3000 := by
    rw [val_nt, BA_size]
    refine Nat.le_trans (text_length (k := d) ?_) (by omega)
    rw [Int.natAbs_neg]
    exact hb.1
  have RN : Hid (∀ W, Calls Tryz.prog 15 #[.string (BA (text (- val (LA (nt x))))), .string (dt x)] W (RetN W (-x))) := fun W => by
    have h := ratRN (BA (text (- val (LA (nt x))))) (dt x) W (by omega) (by omega)
    have e : quo (LA (BA (text (- val (LA (nt x)))))) (LA (dt x)) = -x := by
      show quo _ (LA (BA (text (x.den : Int)))) = _
      rw [val_nt, quo_text, q_neg]
    rw [e] at h
    exact h
  clear hb s1
  go_wp2_with (refine storeN rfl (.tmp 3) (.tmp 5) rfl w1.heap.size x rfl rfl _ _ hg.out rfl ?_)
  clear hg
  generalize (w1.alloc (.cells #[.int .i64 0, .string ⟨#[]⟩, .string ⟨#[]⟩, .string ⟨#[]⟩, .string ⟨#[]⟩, .string ⟨#[]⟩, .slice none 0 0] 31)).setRow w1.heap.size #[.int .i64 1, .string (nt x), .string (dt x), .string ⟨#[]⟩, .string ⟨#[]⟩, .string ⟨#[]⟩, .slice none 0 0] = wc at T c1 c2 ⊢
  have hB0 : Below wc.heap.size wc wc.drew := (Below.refl _ _).drew
  generalize w1.heap.size = g0 at T c1 c2 ⊢
  have n1 : ¬ w.heap.size + 1 = g0 := by have := T.out.n0; omega
  have n3 : ¬ g0 = w.heap.size + 1 := by have := T.out.n0; omega
  generalize w.heap.size + 1 = r at T n1 n3 ⊢
  generalize nt x = nx at *
  generalize dt x = dx at *
  go_region_held3 (fun W' => W'.cell? ⟨g0, 1, none⟩ = some (.string nx) ∧ W'.cell? ⟨g0, 2, none⟩ = some (.string dx)) (go_keep)
    (first
      | (go_at_call 75; refine (negateR _ _ (by omega)).mono ?_; rintro e w3 ⟨rfl, hb3⟩; have hB3 := chain2 ‹Below wc.heap.size wc _› hb3 (Nat.le_refl _); obtain ⟨⟨_, c1, c2, _, _, _, _⟩, _⟩ := row7 (T.out.below hB3).h0)
      | (go_at_call 15; refine (RN.out _).mono ?_; rintro e w4 ⟨rfl, hb4⟩; have hB4 := chain2 ‹Below wc.heap.size wc _› hb4 (Nat.le_refl _); obtain ⟨⟨_, c1, c2, _, _, _, _⟩, _⟩ := row7 (T.out.below hB4).h0; obtain ⟨z, hz, hz2⟩ := (T.out.below hB4).hr; obtain ⟨z0, z1, z2, z3, z4, z5, z6, ⟨q0, q1, q2, q3, q4, q5, q6⟩, f2⟩ := row7z hz hz2; clear hz hz2; unfold vQ))
  all_goals go_wp2
  all_goals exact FixB.ret (T.out.below ‹Below wc.heap.size wc _›) _ rfl rfl
end Go.Proofs.YtfnkmgipjemkdaaGreatDoor

/- The walk of ObjectArithmetic. -/
namespace Go.Proofs.YtfnkmgipjemkdaaGreatDoor
open Go Go.RowKit
set_option linter.unusedVariables false
theorem bd_fix2 {k : Nat} {o : Ob} (h : o.bd k) (hk : 0 < k := by decide) : Bd k o.fix := by
  cases o with
  | num q => exact h
  | _ => exact bd_int (n := 0) (Nat.pow_pos (by decide)) hk
set_option maxHeartbeats 16000000 in
set_option maxRecDepth 100000 in
theorem arith_walk (r : Rw) (r0 r1 r2 r3 : Value) (s : Rw) (s0 s1 s2 s3 : Value) (w : World) (hrr : RawAt w (Has w) r [r0, r1, r2, r3]) (hrs : RawAt w (Has w) s [s0, s1, s2, s3]) (ht : Tab w) :
    Calls Tryz.prog 7 #[.agg #[r0, r1, r2, r3], .agg #[s0, s1, s2, s3]] w (RetB w true) := by
  have HT := Lib.hid ht
  clear ht
  have Rr := Lib.hid hrr
  clear hrr
  have CFr : Hid (∀ W', Below w.heap.size w W' → Calls Tryz.prog 9 #[.agg #[r0, r1, r2, r3], .int .i64 20] W' (fun e w' => e = .returned (.bool (few r 20)) ∧ Below W'.heap.size W' w')) := fun W' h => fewO r [r0, r1, r2, r3] 20 W' (Has w) (In.has w |>.later h.size) (Rr.out.below (In.has w) h) (by decide) (by decide)
  have KOr : Hid (few r 20 = true → ∀ W', Below w.heap.size w W' → Calls Tryz.prog 10 #[.agg #[r0, r1, r2, r3]] W' (RetX W' 200)) := fun hf W' h => by
    obtain ⟨hok, hcn⟩ := few_ok hf
    exact (objectO r [r0, r1, r2, r3] W' (Has w) (In.has w |>.later h.size) (Rr.out.below (In.has w) h) hok (HT.out.below h)).mono fun _ _ hr => hr.le (by omega)
  generalize few r 20 = fr at CFr KOr
  have Rs := Lib.hid hrs
  clear hrs
  have CFs : Hid (∀ W', Below w.heap.size w W' → Calls Tryz.prog 9 #[.agg #[s0, s1, s2, s3], .int .i64 20] W' (fun e w' => e = .returned (.bool (few s 20)) ∧ Below W'.heap.size W' w')) := fun W' h => fewO s [s0, s1, s2, s3] 20 W' (Has w) (In.has w |>.later h.size) (Rs.out.below (In.has w) h) (by decide) (by decide)
  have KOs : Hid (few s 20 = true → ∀ W', Below w.heap.size w W' → Calls Tryz.prog 10 #[.agg #[s0, s1, s2, s3]] W' (RetX W' 200)) := fun hf W' h => by
    obtain ⟨hok, hcn⟩ := few_ok hf
    exact (objectO s [s0, s1, s2, s3] W' (Has w) (In.has w |>.later h.size) (Rs.out.below (In.has w) h) hok (HT.out.below h)).mono fun _ _ hr => hr.le (by omega)
  generalize few s 20 = fs at CFs KOs
  go_enter Tryz.func7, Tryz.ntmps7
  go_wp2_with fail
  have hBX := Box2.new w #[r0, r1, r2, r3] #[s0, s1, s2, s3]
  generalize ((w.alloc (.cells #[r0, r1, r2, r3] 26)).alloc (.cells #[s0, s1, s2, s3] 26)) = W at hBX ⊢
  have BX := Lib.hid hBX
  clear hBX
  have FB : Hid (∀ W', Below W.heap.size W W' → Box2 w W' #[r0, r1, r2, r3] #[s0, s1, s2, s3]) := fun W' h => BX.out.below h
  refine (first2_any _ (HT.out.below BX.out.bel)).mono ?_
  rintro e w1 ⟨rfl, hb1⟩
  have H1 := Lib.hid hb1
  clear hb1
  obtain ⟨⟨a0w1, a1w1, a2w1, a3w1⟩, ⟨b0w1, b1w1, b2w1, b3w1⟩⟩ := (FB.out w1 H1.out).cells
  go_wp2_with fail
  clear a0w1 a1w1 a2w1 a3w1 b0w1 b1w1 b2w1 b3w1
  refine (CFr.out w1 (FB.out w1 H1.out).bel).mono ?_
  rintro e w2 ⟨rfl, hb⟩
  have H2 := Lib.hid (chain2 H1.out hb (Nat.le_refl _))
  clear hb H1
  cases fr with
  | false =>
    have HE := Lib.hid (FB.out w2 H2.out).bel
    go_wp2
    all_goals go_ret
    all_goals exact ⟨rfl, HE.out⟩
  | true =>
    obtain ⟨⟨a0w2, a1w2, a2w2, a3w2⟩, ⟨b0w2, b1w2, b2w2, b3w2⟩⟩ := (FB.out w2 H2.out).cells
    go_wp2_with fail
    clear a0w2 a1w2 a2w2 a3w2 b0w2 b1w2 b2w2 b3w2
    refine (CFs.out w2 (FB.out w2 H2.out).bel).mono ?_
    rintro e w3 ⟨rfl, hb⟩
    have H3 := Lib.hid (chain2 H2.out hb (Nat.le_refl _))
    clear hb H2
    cases fs with
    | false =>
      have HE := Lib.hid (FB.out w3 H3.out).bel
      go_wp2
      all_goals go_ret
      all_goals exact ⟨rfl, HE.out⟩
    | true =>
      go_wp2_with fail
      have HC := Lib.hid (FB.out w3 H3.out)
      refine wp_region_grow (l := _) 6 (by kernel_rfl) (by kernel_rfl) (fun i => [17, 18, 19, 20, 5, 6].getD i 0) (mkR (fun i => [0, 1, 0, 1, 2, 2].getD i 3) (fun i => [.agg #[r0, r1, r2, r3], undef, .agg #[s0, s1, s2, s3], undef].getD i undef) 200) mkR_mono (by
        intro i j hi hj h
        have := inj_getD [17, 18, 19, 20, 5, 6] (by decide) i j hi hj h
        exact this) (by
        intro i hi
        have := lt_getD 51 [17, 18, 19, 20, 5, 6] (by decide) i hi
        exact this) ?step ?done
      case step =>
        intro i hi a w9 v lo hi' hoth hb hw
        have hB := FB.out w9 (chain2 H3.out hb (Nat.le_refl _))
        have sl2 : a.tmps[2]? = some (.pointer (some ⟨w.heap.size, 0, none⟩)) := (hoth 2 (fun j hj => by
          have := ne_getD 2 [17, 18, 19, 20, 5, 6] (by decide) j hj
          exact this)).trans rfl
        have sl3 : a.tmps[3]? = some (.pointer (some ⟨w.heap.size + 1, 0, none⟩)) := (hoth 3 (fun j hj => by
          have := ne_getD 3 [17, 18, 19, 20, 5, 6] (by decide) j hj
          exact this)).trans rfl
        match i, hi with
        | 0, _ =>
          exact grow_load rfl rfl 26 (.tmp 2) rfl (w.heap.size) 0 (eval_of sl2) [r0, r1, r2, r3] _ (World.rangeAt_of_block hB.b0 0 4) Tryz.underlying26 rfl (by kernel_rfl) ⟨_, rfl, Below.refl _ _, rfl⟩
        | 1, _ =>
          obtain ⟨sx, ex, _⟩ := hw 0 (by omega) (by kernel_rfl)
          have e : v 0 = .agg #[r0, r1, r2, r3] := ex
          rw [e] at sx
          refine grow_call1 rfl rfl 10 17 _ rfl _ (fun v w => by go_simp) sx ?_
          refine (KOr.out (by simp) w9 hB.bel).mono ?_
          rintro e w3 ⟨o, p, rfl, hp, hb3, ok⟩
          exact ⟨_, rfl, _, rfl, hb3, o, p, rfl, hp.more (fun b h => by rcases h with h | h; exact h.elim; exact h), ok⟩
        | 2, _ =>
          exact grow_load rfl rfl 26 (.tmp 3) rfl (w.heap.size + 1) 0 (eval_of sl3) [s0, s1, s2, s3] _ (World.rangeAt_of_block hB.b1 0 4) Tryz.underlying26 rfl (by kernel_rfl) ⟨_, rfl, Below.refl _ _, rfl⟩
        | 3, _ =>
          obtain ⟨sx, ex, _⟩ := hw 2 (by omega) (by kernel_rfl)
          have e : v 2 = .agg #[s0, s1, s2, s3] := ex
          rw [e] at sx
          refine grow_call1 rfl rfl 10 19 _ rfl _ (fun v w => by go_simp) sx ?_
          refine (KOs.out (by simp) w9 hB.bel).mono ?_
          rintro e w3 ⟨o, p, rfl, hp, hb3, ok⟩
          exact ⟨_, rfl, _, rfl, hb3, o, p, rfl, hp.more (fun b h => by rcases h with h | h; exact h.elim; exact h), ok⟩
        | 4, _ =>
          exact grow_allocO rfl rfl rfl ⟨_, rfl, Below.alloc (Below.refl _ _) (Nat.le_refl _) _, rfl, heap_alloc_new _ _, by simp⟩
        | 5, _ =>
          exact grow_allocO rfl rfl rfl ⟨_, rfl, Below.alloc (Below.refl _ _) (Nat.le_refl _) _, rfl, heap_alloc_new _ _, by simp⟩
      case done =>
        intro a w9 v lo hi' hdef hsz hoth hb hj hap
        obtain ⟨_, ⟨o0, p0, hv0, hp0, ok0⟩, hlo0, hhi0⟩ := hj 1 (by omega)
        obtain ⟨_, ⟨hw0, hg0, hlt0⟩, hl0, hh0⟩ := hj 4 (by omega)
        obtain ⟨_, ⟨o1, p1, hv1, hp1, ok1⟩, hlo1, hhi1⟩ := hj 3 (by omega)
        obtain ⟨_, ⟨hw1, hg1, hlt1⟩, hl1, hh1⟩ := hj 5 (by omega)
        have k00 := hap 1 4 (by omega) (by omega) (by decide)
        have q01 := hap 4 5 (by omega) (by omega) (by decide)
        have k01 := hap 1 5 (by omega) (by omega) (by decide)
        have k10 := hap 3 4 (by omega) (by omega) (by decide)
        have k11 := hap 3 5 (by omega) (by omega) (by decide)
        have ha := eq_puts hdef hsz hoth (fun i hi => (hj i hi).1)
        have hbel := Lib.hid ((FB.out w9 (chain2 H3.out hb (Nat.le_refl _))).bel)
        have hwz := hbel.out.size
        have hsb := hb.size
        have hsw := (FB.out w3 H3.out).bel.size
        subst ha
        clear hj hap hoth hdef hsz hb
        simp only [puts, List.getD_cons_zero, List.getD_cons_succ, hv0, hv1, hw0, hw1]
        generalize v 0 = v0
        generalize v 2 = v2
        clear hv0 hv1 hw0 hw1
        generalize lo 4 = g0 at *
        generalize hi' 4 = e0 at *
        generalize lo 1 = l0 at *
        generalize hi' 1 = h0 at *
        generalize lo 5 = g1 at *
        generalize hi' 5 = e1 at *
        generalize lo 3 = l1 at *
        generalize hi' 3 = h1 at *
        simp only [Act.put, List.setIfInBounds_toArray, List.set_cons_zero, List.set_cons_succ]
        show wpList _ _ _ [_, _] _ _
        refine storeV (w1 := w9) rfl (.tmp 5) (.tmp 18) rfl g0 o0 p0 rfl rfl hp0 _ _ hg0 rfl ?_
        refine storeV (w1 := w9) rfl (.tmp 6) (.tmp 20) rfl g1 o1 p1 rfl rfl hp1 _ _ ((setRow_other _ _ _ _ (by omega)).trans hg1) rfl ?_
        have hX := Stored2.new (B := w.heap.size) hg0 hp0 hg1 hp1 (by omega) (by omega) (fun b h => by omega) (fun b h => by omega) (by omega) (fun h => by omega) (fun h => by omega) (fun h => by omega) (fun h => by omega) hbel.out
        generalize (World.setRow (World.setRow w9 g0 (cellsO o0 p0).toArray) g1 (cellsO o1 p1).toArray) = X at hX ⊢
        have HX := Lib.hid hX
        clear hX hg0 hp0 hg1 hp1
        have FS : Hid (∀ X', Below X.heap.size X X' → Stored2 w.heap.size w X' g0 g1 o0 o1 p0 p1) := fun X' h => HX.out.below h
        obtain ⟨x0, x1, x2, x3, x4, x5, ex0⟩ := cells7 o0 p0
        have ev0 : vO o0 p0 = .agg #[x0, x1, x2, x3, x4, x5, p0] := by unfold vO; rw [ex0]
        obtain ⟨y0, y1, y2, y3, y4, y5, ex1⟩ := cells7 o1 p1
        have ev1 : vO o1 p1 = .agg #[y0, y1, y2, y3, y4, y5, p1] := by unfold vO; rw [ex1]
        have FC : Hid (∀ X', Below X.heap.size X X' → (X'.cell? ⟨g0, 0, none⟩ = some x0 ∧ X'.cell? ⟨g0, 1, none⟩ = some x1 ∧ X'.cell? ⟨g0, 2, none⟩ = some x2 ∧ X'.cell? ⟨g0, 3, none⟩ = some x3 ∧ X'.cell? ⟨g0, 4, none⟩ = some x4 ∧ X'.cell? ⟨g0, 5, none⟩ = some x5 ∧ X'.cell? ⟨g0, 6, none⟩ = some p0) ∧ (X'.cell? ⟨g1, 0, none⟩ = some y0 ∧ X'.cell? ⟨g1, 1, none⟩ = some y1 ∧ X'.cell? ⟨g1, 2, none⟩ = some y2 ∧ X'.cell? ⟨g1, 3, none⟩ = some y3 ∧ X'.cell? ⟨g1, 4, none⟩ = some y4 ∧ X'.cell? ⟨g1, 5, none⟩ = some y5 ∧ X'.cell? ⟨g1, 6, none⟩ = some p1)) := fun X' h => by
          have F := FS.out X' h
          have f0 := F.h0
          rw [ex0] at f0
          have f1 := F.h1
          rw [ex1] at f1
          exact ⟨(row7 f0).1, (row7 f1).1⟩
        have bf0 : Bd 20 o0.fix := bd_fix2 ok0.1
        have bf1 : Bd 20 o1.fix := bd_fix2 ok1.1
        have SP : Hid (∀ X', Below X.heap.size X X' → Calls Tryz.prog 41 #[.agg #[x0, x1, x2, x3, x4, x5, p0], .agg #[y0, y1, y2, y3, y4, y5, p1]] X' (RetN X' (o0.fix + o1.fix))) := fun X' h => by
          have F := FS.out X' h
          rw [← ev0, ← ev1]
          exact sumP 20 (by decide) o0 o1 p0 p1 X' (Has X') F.q0 F.q1 bf0 bf1 (HT.out.below F.bel)
        have SR : Hid (∀ X', Below X.heap.size X X' → Calls Tryz.prog 42 #[.agg #[x0, x1, x2, x3, x4, x5, p0], .agg #[y0, y1, y2, y3, y4, y5, p1]] X' (RetN X' (o0.fix + o1.fix))) := fun X' h => by
          have F := FS.out X' h
          rw [← ev0, ← ev1]
          exact sumR 20 (by decide) o0 o1 p0 p1 X' (Has X') F.q0 F.q1 bf0 bf1 (HT.out.below F.bel)
        have PP : Hid (∀ X', Below X.heap.size X X' → Calls Tryz.prog 43 #[.agg #[x0, x1, x2, x3, x4, x5, p0], .agg #[y0, y1, y2, y3, y4, y5, p1]] X' (RetN X' (o0.fix * o1.fix))) := fun X' h => by
          have F := FS.out X' h
          rw [← ev0, ← ev1]
          exact productP 20 (by decide) o0 o1 p0 p1 X' (Has X') F.q0 F.q1 bf0 bf1 (HT.out.below F.bel)
        have PR : Hid (∀ X', Below X.heap.size X X' → Calls Tryz.prog 44 #[.agg #[x0, x1, x2, x3, x4, x5, p0], .agg #[y0, y1, y2, y3, y4, y5, p1]] X' (RetN X' (o0.fix * o1.fix))) := fun X' h => by
          have F := FS.out X' h
          rw [← ev0, ← ev1]
          exact productR 20 (by decide) o0 o1 p0 p1 X' (Has X') F.q0 F.q1 bf0 bf1 (HT.out.below F.bel)
        have OP : Hid (∀ X', Below X.heap.size X X' → Calls Tryz.prog 45 #[.agg #[x0, x1, x2, x3, x4, x5, p0]] X' (RetN X' (-o0.fix))) := fun X' h => by
          have F := FS.out X' h
          rw [← ev0]
          exact oppositeP 20 (by decide) o0 p0 X' (Has X') F.q0 bf0 (HT.out.below F.bel)
        have OR : Hid (∀ X', Below X.heap.size X X' → Calls Tryz.prog 46 #[.agg #[x0, x1, x2, x3, x4, x5, p0]] X' (RetN X' (-o0.fix))) := fun X' h => by
          have F := FS.out X' h
          rw [← ev0]
          exact oppositeR 20 (by decide) o0 p0 X' (Has X') F.q0 bf0 (HT.out.below F.bel)
        have VP : Hid (∀ X', Below X.heap.size X X' → Calls Tryz.prog 47 #[.agg #[x0, x1, x2, x3, x4, x5, p0]] X' (RetN X' (o0.fix⁻¹))) := fun X' h => by
          have F := FS.out X' h
          rw [← ev0]
          exact reciprocalP 20 (by decide) o0 p0 X' (Has X') F.q0 bf0 (HT.out.below F.bel)
        have VR : Hid (∀ X', Below X.heap.size X X' → Calls Tryz.prog 48 #[.agg #[x0, x1, x2, x3, x4, x5, p0]] X' (RetN X' (o0.fix⁻¹))) := fun X' h => by
          have F := FS.out X' h
          rw [← ev0]
          exact reciprocalR 20 (by decide) o0 p0 X' (Has X') F.q0 bf0 (HT.out.below F.bel)
        generalize o0.fix + o1.fix = q1 at SP SR
        generalize o0.fix * o1.fix = q2 at PP PR
        generalize -o0.fix = q3 at OP OR
        generalize o0.fix⁻¹ = q4 at VP VR
        have CE : Hid (∀ q X', Calls Tryz.prog 12 #[vQ q, vQ q] X' (RetB X' true)) := fun q X' => by
          have h := equalO (.num q) (.num q) (.slice none 0 0) (.slice none 0 0) X' NoB (NoB.in X') rfl rfl
          rw [decide_eq_true rfl] at h
          exact h
        have HF : Hid (∀ X', Below X.heap.size X X' → Below w.heap.size w X') := fun X' h => (FS.out X' h).bel
        clear FS HX ev0 ev1 ex0 ex1 ok0 ok1 bf0 bf1
        obtain ⟨⟨m00, m01, m02, m03, m04, m05, m06⟩, ⟨m10, m11, m12, m13, m14, m15, m16⟩⟩ := FC.out X (Below.refl _ _)
        have hB0 : Below X.heap.size X X.drew := (Below.refl _ _).drew
        go_wp2_with fail
        go_region_held3 (fun W' => (W'.cell? ⟨g0, 0, none⟩ = some x0 ∧ W'.cell? ⟨g0, 1, none⟩ = some x1 ∧ W'.cell? ⟨g0, 2, none⟩ = some x2 ∧ W'.cell? ⟨g0, 3, none⟩ = some x3 ∧ W'.cell? ⟨g0, 4, none⟩ = some x4 ∧ W'.cell? ⟨g0, 5, none⟩ = some x5 ∧ W'.cell? ⟨g0, 6, none⟩ = some p0) ∧ (W'.cell? ⟨g1, 0, none⟩ = some y0 ∧ W'.cell? ⟨g1, 1, none⟩ = some y1 ∧ W'.cell? ⟨g1, 2, none⟩ = some y2 ∧ W'.cell? ⟨g1, 3, none⟩ = some y3 ∧ W'.cell? ⟨g1, 4, none⟩ = some y4 ∧ W'.cell? ⟨g1, 5, none⟩ = some y5 ∧ W'.cell? ⟨g1, 6, none⟩ = some p1)) (first | exact FC.out _ ‹Below X.heap.size X _› | go_keep)
          (first
            | (go_at_call 41; refine (SP.out _ ‹Below X.heap.size X _›).mono ?_; rintro e u1 ⟨rfl, hb1⟩; have hB1 := chain2 ‹Below X.heap.size X _› hb1 (Nat.le_refl _); clear hb1)
            | (go_at_call 42; refine (SR.out _ ‹Below X.heap.size X _›).mono ?_; rintro e u2 ⟨rfl, hb2⟩; have hB2 := chain2 ‹Below X.heap.size X _› hb2 (Nat.le_refl _); clear hb2)
            | (go_at_call 43; refine (PP.out _ ‹Below X.heap.size X _›).mono ?_; rintro e u3 ⟨rfl, hb3⟩; have hB3 := chain2 ‹Below X.heap.size X _› hb3 (Nat.le_refl _); clear hb3)
            | (go_at_call 44; refine (PR.out _ ‹Below X.heap.size X _›).mono ?_; rintro e u4 ⟨rfl, hb4⟩; have hB4 := chain2 ‹Below X.heap.size X _› hb4 (Nat.le_refl _); clear hb4)
            | (go_at_call 45; refine (OP.out _ ‹Below X.heap.size X _›).mono ?_; rintro e u5 ⟨rfl, hb5⟩; have hB5 := chain2 ‹Below X.heap.size X _› hb5 (Nat.le_refl _); clear hb5)
            | (go_at_call 46; refine (OR.out _ ‹Below X.heap.size X _›).mono ?_; rintro e u6 ⟨rfl, hb6⟩; have hB6 := chain2 ‹Below X.heap.size X _› hb6 (Nat.le_refl _); clear hb6)
            | (go_at_call 47; refine (VP.out _ ‹Below X.heap.size X _›).mono ?_; rintro e u7 ⟨rfl, hb7⟩; have hB7 := chain2 ‹Below X.heap.size X _› hb7 (Nat.le_refl _); clear hb7)
            | (go_at_call 48; refine (VR.out _ ‹Below X.heap.size X _›).mono ?_; rintro e u8 ⟨rfl, hb8⟩; have hB8 := chain2 ‹Below X.heap.size X _› hb8 (Nat.le_refl _); clear hb8)
            | (go_at_call 12; refine (CE.out _ _).mono ?_; rintro e u9 ⟨rfl, hb9⟩; have hB9 := chain2 ‹Below X.heap.size X _› hb9 (Nat.le_refl _); clear hb9))
        all_goals go_wp2
        all_goals go_ret
        all_goals exact ⟨rfl, HF.out _ ‹Below X.heap.size X _›⟩
end Go.Proofs.YtfnkmgipjemkdaaGreatDoor
