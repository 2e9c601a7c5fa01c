/- Maps keyed by symbols. -/
import Derived.Test.YtinjhnnpbejccaaGreatDoorH24
import Derived.DeepKeys5
import Derived.Maps.OwnIn
namespace Go.Proofs.YtinjhnnpbejccaaGreatDoor
open Go Go.RowKit
set_option linter.unusedVariables false
theorem symKey : Maps.Keyed Tryz.prog 23 := Maps.Keyed.of_law (deep_law_gate (by kernel_rfl) (of_decide_eq_true (by kernel_rfl)) (of_decide_eq_true (by kernel_rfl)) (by kernel_rfl) (by kernel_rfl))
theorem symKeyT : Tryz.prog.keyType 23 = true := by kernel_rfl
theorem symCells : Tryz.prog.cellsOf 23 = 2 := by kernel_rfl
theorem strCells : Tryz.prog.cellsOf 9 = 1 := by kernel_rfl
def symL (p n : ByteArray) : Lit := .string (keyBytes [.string p.data.toList, .string n.data.toList])
theorem keySym (p n : ByteArray) (hp : p.size ≤ maxLen) (hn : n.size ≤ maxLen) : keyOf Tryz.prog 23 (.agg #[.string p, .string n]) = some (symL p n) := by
 unfold keyOf
 rw [Tryz.underlying23]
 simp only [symKeyT, Bool.true_and]
 have hf : Value.formed Tryz.prog 23 (.agg #[.string p, .string n]) = true := by
  simp [Value.formed, Tryz.underlying23, symCells]
 rw [if_pos hf]
 have h2 : Tryz.prog.keyLits (Tryz.prog.types.size + 1) 23 (Value.agg #[.string p, .string n]).cells.toList = some [.string p.data.toList, .string n.data.toList] := by
  have hs : ∃ m, Tryz.prog.types.size = m + 1 := ⟨Tryz.prog.types.size - 1, by kernel_rfl⟩
  obtain ⟨m, hm⟩ := hs
  rw [hm]
  unfold Program.keyLits
  rw [Tryz.underlying23]
  simp [symCells, strCells, Value.cells, Program.keyLits, Tryz.underlying9, hp, hn]
 rw [h2]; rfl
end Go.Proofs.YtinjhnnpbejccaaGreatDoor
