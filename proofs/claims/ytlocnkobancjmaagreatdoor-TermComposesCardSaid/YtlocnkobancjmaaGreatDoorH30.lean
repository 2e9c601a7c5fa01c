/- A fact of the program: what the row's conditions ask of what TermComposes reaches. -/
import Derived.Test.YtlocnkobancjmaaGreatDoorCards
import Derived.Test.YtlocnkobancjmaaGreatDoorTie
import Derived.WalkKit
import Derived.ProofKit
import Derived.OpenShut
import Derived.Deep.DeepHandedRow
namespace Go.Proofs.YtlocnkobancjmaaGreatDoor.termComposes
open Go Go.RowKit
set_option maxRecDepth 100000 in
theorem jf : joinedFacts Tryz.pinned.checked.prog 7 Tryz.f7 (OpenSpec.ofChange Rows.termComposesSpec).bare Rows.termComposesRow = true := by kernel_rfl
end Go.Proofs.YtlocnkobancjmaaGreatDoor.termComposes
