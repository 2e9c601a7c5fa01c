/- The reference's times. -/
import Derived.Test.YtfnkmgipjemkdaaDoorRef3
import Derived.Deep.OwnRows
import Derived.Deep.QuietTactic
import Derived.BigQuiet
namespace Go.Proofs.YtfnkmgipjemkdaaDoor
open Go Go.RowKit
set_option linter.unusedVariables false

theorem make64 (n : Nat) (x : Int) (hx : x = (n : Int)) (hn : n ≤ 10000000000) (w : World) :
    (Instr.makeSlice 94 (.int .i64 x) (.int .i64 x)).run Tryd.prog w = .ok (.slice (some ⟨w.heap.size, 0, none⟩) n n) (w.alloc (.cells (rowOf .i64 (zeros n)) 3)) := by
  subst hx
  rw [run_make_row' (P := Tryd.prog) 94 3 (.int .i64 0) 8 Tryd.underlying94 (by kernel_rfl) rfl .i64 .i64 n (by omega) (by omega) w]
  congr 3
  simp [madeCells, rowOf, zeros, List.map_replicate]
  apply Array.ext
  · simp
  · intro i h1 h2
    simp [Nat.mod_one]

/-- Inside a row of the product: j columns are done, or the row is finished. -/
def TInv (N : Nat) (x y cs : List Nat) (i b j : Nat) (q : Int) : Prop :=
  (j ≤ b ∧ MulInv N x y cs i j q) ∨ (j = b + 1 ∧ q = 0 ∧ MulInv N x y cs (i + 1) 0 0)

theorem MulInv.row0 {N : Nat} {a b cs : List Nat} {i lb : Nat} (h : MulInv N a b cs i lb 0) (hN : a.length + b.length ≤ N) (hlb : b.length = lb) (hi : i < a.length) : MulInv N a b cs (i + 1) 0 0 := by
  have h1 := h.row hN hlb hi (Int.le_refl _) (by decide)
  have hz : cs.getD (i + lb) 0 = 0 := h.2.2.2 _ (by omega)
  have e : cs.set (i + lb) (0 : Int).toNat = cs := by
    apply List.ext_getElem?
    intro j
    rw [List.getElem?_set]
    by_cases hj : i + lb = j
    · subst hj
      rw [if_pos rfl]
      have hl : i + lb < cs.length := by rw [h.2.1]; omega
      rw [if_pos hl, List.getElem?_eq_getElem hl]
      rw [List.getD_eq_getElem?_getD, List.getElem?_eq_getElem hl] at hz
      simpa using hz.symm
    · rw [if_neg hj]
  rwa [e] at h1

end Go.Proofs.YtfnkmgipjemkdaaDoor
