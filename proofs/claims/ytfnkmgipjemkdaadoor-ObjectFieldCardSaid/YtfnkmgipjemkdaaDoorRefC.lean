/- The reference's Reduce, Compare, Digits. -/
import Derived.Test.YtfnkmgipjemkdaaDoorM27
import Derived.Test.YtfnkmgipjemkdaaDoorRed
namespace Go.Proofs.YtfnkmgipjemkdaaDoor
open Go Go.RowKit
set_option linter.unusedVariables false

theorem mag_BA (x : Int) : mag (LA (BA (text x))) = x.natAbs := by rw [LA_BA, ← val_natAbs, val_text]
theorem len_BA {x : Int} {k : Nat} (h : x.natAbs < 10 ^ k) : (BA (text x)).size ≤ k + 2 := by rw [BA_size]; exact text_length h

end Go.Proofs.YtfnkmgipjemkdaaDoor
