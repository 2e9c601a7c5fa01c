/- The reference defines a package. -/
import Derived.Test.YtcgchacokcnacaaDoorY9
namespace Go.Proofs.YtcgchacokcnacaaDoor
open Go Go.RowKit
set_option linter.unusedVariables false

/-- The inner loop of the reference's Define. -/
def InnW (X wr : World) (q : List Sy) (n : ByteArray) (k : Nat) (R : Option Sy) : Prop := impM (q.drop k) n = R ∧ Below X.heap.size X wr
theorem madeP (k : Nat) (x : Int) (hx : x = (k : Int)) (hk : k ≤ 100000) : ∃ cur : List Value, cur.length = k * 2 ∧ ∀ w : World,
    (Instr.makeSlice 30 (.int .i64 0) (.int .i64 x)).run Tryd.prog w = .ok (.slice (some ⟨w.heap.size, 0, none⟩) 0 k) (w.alloc (.cells cur.toArray 26)) := by
  subst hx
  obtain ⟨i, h1, h2, h3, h4⟩ := infoP
  refine ⟨(madeCells (Value.agg #[.string ⟨#[]⟩, .slice none 0 0]).cells (k * 2)).toList, by rw [Array.length_toList, size_madeCells], fun w => ?_⟩
  have := run_make (P := Tryd.prog) w 30 26 i _ Tryd.underlying30 h1 h2 .i64 .i64 0 k (Int.le_refl _) (by omega) (by rw [h4]; omega) (by omega)
  rw [h3] at this
  simpa using this
theorem bDrewP {k : Nat} {w W : World} (h : Below k w W) : Below k w W.drew := h.trans ⟨rfl, rfl, rfl, Nat.le_refl _, fun _ _ => rfl⟩
theorem bAlP (w : World) (x : Obj) : Below w.heap.size w (w.alloc x) := Below.alloc (Below.refl _ _) (Nat.le_refl _) _
theorem bAlP2 (w : World) (x y : Obj) : Below w.heap.size w ((w.alloc x).alloc y) := chainY (bAlP w x) (bAlP (w.alloc x) y) (Nat.le_refl _)
theorem rowOld (w : World) (x y : Obj) : ((w.alloc x).alloc y).drew.heap[w.heap.size]? = some x := ((bAlP (w.alloc x) y).block w.heap.size (blk_ltY (heap_alloc_new w x))).trans (heap_alloc_new w x)
theorem rowNew (w : World) (x y : Obj) : ((w.alloc x).alloc y).drew.heap[w.heap.size + 1]? = some y := by
  have := heap_alloc_new (w.alloc x) y
  rwa [show (w.alloc x).heap.size = w.heap.size + 1 from by simp] at this
theorem srcP {W : World} {g : Nat} {x y : Value} (h : W.heap[g]? = some (.cells #[x, y] 26 (0, 0))) (j : Nat) (v : Value) (hj : [x, y][j]? = some v) : W.cell? (Addr.add ⟨g, 0, none⟩ j) = some v := by
  have e : Addr.add ⟨g, 0, none⟩ j = ⟨g, j, none⟩ := by simp [Addr.add_lit]
  rw [e, cell_of_row _ _ _ _ _ _ h]
  simpa using hj
theorem oneP (n : ByteArray) (A : Option Addr) (M c : Nat) : ∀ v ∈ [Value.string n, .slice A M c], v.oneCell' = true := by
  intro v hv
  simp only [List.mem_cons, List.not_mem_nil, or_false] at hv
  rcases hv with rfl | rfl <;> rfl
theorem joinLen {cur cs : List Value} {L : Nat} (h1 : cur.length = (L + 1) * 2) (h2 : cs.length = L * 2) : (cur.take (0 * 2) ++ cs ++ cur.drop (0 * 2 + cs.length)).length = (L + 1) * 2 := by
  simp only [List.length_append, List.length_take, List.length_drop]
  omega
theorem defDone {w w4 : World} {l : List Pg} {q : List Sy} {n : ByteArray} {u : Value} {cs cur : List Value} {g L : Nat} (hL : l.length = L) (hcl : cur.length = (L + 1) * 2) (hc1 : cs.length = L * 2)
    (hc4 : ∀ i (hi : i < l.length), cs[i * 2]? = some (.string l[i].1) ∧ ∃ u, cs[i * 2 + 1]? = some u ∧ SyV w l[i].2 u) (hu : SyV w q u) (hl : L ≤ 1000) (hb : Below w.heap.size w w4)
    (hg : w4.heap[g]? = some (.cells ((cur.take (0 * 2) ++ cs ++ cur.drop (0 * 2 + cs.length)).take (L * 2) ++ [.string n, u] ++ (cur.take (0 * 2) ++ cs ++ cur.drop (0 * 2 + cs.length)).drop (L * 2 + [Value.string n, u].length)).toArray 26 (0, 0))) :
    PgV w4 (l ++ [(n, q)]) (.slice (some ⟨g, 0, none⟩) (L + 1) (L + 1)) := by
  subst hL
  have e1 : cur.take (0 * 2) ++ cs ++ cur.drop (0 * 2 + cs.length) = cs ++ cur.drop cs.length := by simp
  rw [e1, ← hc1, List.take_left, List.drop_eq_nil_of_le (by rw [List.length_append, List.length_drop]; simp only [List.length_cons, List.length_nil]; omega), List.append_nil] at hg
  exact PgV.snoc (l := l) (q := q) (c := l.length + 1) hg hc1 (fun i hi => by
    obtain ⟨h1, u, h2, h3⟩ := hc4 i hi
    exact ⟨h1, u, h2, h3.keep hb⟩) (hu.keep hb) (Nat.le_refl _) (by unfold maxLen; omega)
end Go.Proofs.YtcgchacokcnacaaDoor
