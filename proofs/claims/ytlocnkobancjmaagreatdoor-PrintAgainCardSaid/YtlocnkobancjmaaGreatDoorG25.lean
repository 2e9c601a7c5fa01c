/- Raw trees as arguments: what memory reads as a tree's datum is a tree. -/
import Derived.Test.YtlocnkobancjmaaGreatDoorG19
import Derived.Deep.Fields
import Derived.Deep.Slices
import Derived.ChangeSame
import Derived.ChangeShapes
import Derived.Carry
import Derived.OpenShut
namespace Go.Proofs.YtlocnkobancjmaaGreatDoor
open Go Go.RowKit Go.ChangeShapes Go.WideShapes Go.Deep
set_option linter.unusedVariables false
def Has (w : World) (b : Nat) : Prop := b < w.heap.size
theorem In.has (w : World) : In (Has w) w := fun _ h => h
section
variable {H : Type} {enc : TypeId × Value → H} {w : World} {spare : Nat → Bool} {held : Bool}
end
end Go.Proofs.YtlocnkobancjmaaGreatDoor
