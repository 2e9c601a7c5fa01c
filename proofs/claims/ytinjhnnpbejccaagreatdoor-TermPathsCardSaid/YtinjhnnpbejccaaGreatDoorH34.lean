/- A fact of the program: what the row's conditions ask of what TermPaths reaches. -/
import Derived.Test.YtinjhnnpbejccaaGreatDoorCards
import Derived.Test.YtinjhnnpbejccaaGreatDoorTie
import Derived.WalkKit
import Derived.ProofKit
import Derived.OpenShut
import Derived.Deep.DeepHandedRow
namespace Go.Proofs.YtinjhnnpbejccaaGreatDoor.termPaths
open Go Go.RowKit
set_option maxRecDepth 100000 in
theorem jf : joinedFacts Tryz.pinned.checked.prog 8 Tryz.f8 (OpenSpec.ofChange Rows.termPathsSpec).bare Rows.termPathsRow = true := by kernel_rfl
end Go.Proofs.YtinjhnnpbejccaaGreatDoor.termPaths
