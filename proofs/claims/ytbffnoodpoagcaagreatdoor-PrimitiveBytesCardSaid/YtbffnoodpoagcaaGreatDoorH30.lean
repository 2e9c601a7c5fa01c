/- A symbol as an argument. -/
import Derived.Test.YtbffnoodpoagcaaGreatDoorH19
import Derived.Lib.SmallJoins
namespace Go.Proofs.YtbffnoodpoagcaaGreatDoor
open Go Go.RowKit Go.ChangeShapes Go.WideShapes Go.Deep
set_option linter.unusedVariables false
section
variable {H : Type} {enc : TypeId × Value → H} {w : World} {spare : Nat → Bool} {held : Bool}
end
end Go.Proofs.YtbffnoodpoagcaaGreatDoor
