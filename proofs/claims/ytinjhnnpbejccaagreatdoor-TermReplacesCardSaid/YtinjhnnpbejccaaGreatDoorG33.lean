/- A fact of the program: what the row's conditions ask of what TermReplaces reaches. -/
import Derived.Test.YtinjhnnpbejccaaGreatDoorCards
import Derived.Test.YtinjhnnpbejccaaGreatDoorTie
import Derived.WalkKit
import Derived.ProofKit
import Derived.OpenShut
import Derived.Deep.DeepHandedRow
namespace Go.Proofs.YtinjhnnpbejccaaGreatDoor.termReplaces
open Go Go.RowKit
set_option maxRecDepth 100000 in
theorem jf : joinedFacts Tryz.pinned.checked.prog 7 Tryz.f7 (OpenSpec.ofChange Rows.termReplacesSpec).bare Rows.termReplacesRow = true := by kernel_rfl
end Go.Proofs.YtinjhnnpbejccaaGreatDoor.termReplaces
