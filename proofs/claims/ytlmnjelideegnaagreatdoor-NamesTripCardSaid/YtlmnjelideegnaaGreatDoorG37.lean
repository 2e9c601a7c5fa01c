/- The program's isFinite, isZero, isOne, isPositive. -/
import Derived.Test.YtlmnjelideegnaaGreatDoorG26
import Derived.BigRegion
import Derived.Test.YtlmnjelideegnaaGreatDoorG30
import Derived.IntWalk
namespace Go.Proofs.YtlmnjelideegnaaGreatDoor
open Go Go.RowKit
set_option linter.unusedVariables false







structure Pt1 (w X : World) (o : Ob) (p : Value) : Prop where
 bel : Below w.heap.size w X
 b0 : Bx X w.heap.size (cellsO o p).toArray


def Ad (w : World) (o : Ob) (b k : Nat) (p : Value) : Prop := At w (Has w) o b k p
end Go.Proofs.YtlmnjelideegnaaGreatDoor
