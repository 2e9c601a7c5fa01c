/- A fact of the program: what the row's conditions ask of what TermInstances reaches. -/
import Derived.Test.YtinjhnnpbejccaaGreatDoorCards
import Derived.Test.YtinjhnnpbejccaaGreatDoorTie
import Derived.WalkKit
import Derived.ProofKit
import Derived.OpenShut
import Derived.Deep.DeepHandedRow
namespace Go.Proofs.YtinjhnnpbejccaaGreatDoor.termInstances
open Go Go.RowKit
set_option maxRecDepth 100000 in
theorem jf : joinedFacts Tryz.pinned.checked.prog 9 Tryz.f9 (OpenSpec.ofChange Rows.termInstancesSpec).bare Rows.termInstancesRow = true := by kernel_rfl
end Go.Proofs.YtinjhnnpbejccaaGreatDoor.termInstances
