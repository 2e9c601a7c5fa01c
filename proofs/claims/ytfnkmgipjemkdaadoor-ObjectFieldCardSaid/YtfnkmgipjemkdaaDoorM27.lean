/- The reference's Negate, Add, Subtract, Multiply. -/
import Derived.Test.YtfnkmgipjemkdaaDoorRefT
import Derived.Test.YtfnkmgipjemkdaaDoorRef6
import Derived.Test.YtfnkmgipjemkdaaDoorCompMath
import Derived.Test.YtfnkmgipjemkdaaDoorM26
namespace Go.Proofs.YtfnkmgipjemkdaaDoor
open Go Go.RowKit
set_option linter.unusedVariables false

end Go.Proofs.YtfnkmgipjemkdaaDoor

/- The reference's Divide and Gcd. -/
namespace Go.Proofs.YtfnkmgipjemkdaaDoor
open Go Go.RowKit
set_option linter.unusedVariables false

theorem len_pos_of {n : Nat} (h : n ≠ 0) : 0 < (digs n).length := List.length_pos_iff.2 (digs_ne_nil h)

/-- Two numbers on the way to the greatest common divisor G. -/
def GcdR (G x k : Nat) (A A' : Option Addr) (B : Nat) (w wr : World) : Prop :=
  Nat.gcd x k = G ∧ Reads wr wr.heap.size .i64 A (digs x) ∧ Reads wr wr.heap.size .i64 A' (digs k) ∧ Below B w wr

end Go.Proofs.YtfnkmgipjemkdaaDoor
