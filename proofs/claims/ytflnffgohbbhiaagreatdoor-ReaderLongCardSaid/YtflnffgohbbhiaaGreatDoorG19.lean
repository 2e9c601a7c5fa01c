/- A region that draws its order, by an invariant: what is listed has been done; each operation of the head keeps it, whichever order is drawn; the tail goes in one order. No program is named here. -/
import Derived.StillTail
import Derived.StillTailTactics
import Derived.RegionTactic
namespace Go.Proofs.YtflnffgohbbhiaaGreatDoor
open Go
set_option linter.unusedVariables false

section
variable {P : Program} {ops : Array Oper} {md : Region.Mode} {Q : Exit → Act → World → Prop}

end
end Go.Proofs.YtflnffgohbbhiaaGreatDoor
