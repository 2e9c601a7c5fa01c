/- A slice of assignments appended to a row of one's own. No walk. -/
import Derived.Test.YtinjhnnpbejccaaGreatDoorG27
import Derived.Test.YtinjhnnpbejccaaGreatDoorG28
import Derived.Deep.Upon
import Derived.Test.YtinjhnnpbejccaaGreatDoorG19
namespace Go.Proofs.YtinjhnnpbejccaaGreatDoor
open Go Go.RowKit
set_option linter.unusedVariables false



end Go.Proofs.YtinjhnnpbejccaaGreatDoor
