/- The steps of a region that makes memory: a load of a whole variable, a call of one argument, an alloc of an object. -/
import Derived.Test.YtflnffgohbbhiaaGreatDoorG11
import Derived.Test.YtflnffgohbbhiaaGreatDoorG20
import Derived.Deep.MidRow
namespace Go.Proofs.YtflnffgohbbhiaaGreatDoor
open Go Go.RowKit
set_option linter.unusedVariables false
section
variable {P : Program} {Q : Exit → Act → World → Prop} {ops : Array Oper} {K : Act → World → Prop} {a : Act} {w : World} {i : Nat} {o : Oper}
end
section
variable {P : Program} {Q : Exit → Act → World → Prop} {ops : Array Oper} {K : Act → World → Prop} {a : Act} {w : World} {i : Nat} {o : Oper}
end
end Go.Proofs.YtflnffgohbbhiaaGreatDoor
