/- A fact of the program: what the row's conditions ask of what PrintAgain reaches. -/
import Derived.Test.YtlocnkobancjmaaGreatDoorCards
import Derived.Test.YtlocnkobancjmaaGreatDoorTie
import Derived.WalkKit
import Derived.ProofKit
import Derived.OpenShut
import Derived.Deep.DeepHandedRow
namespace Go.Proofs.YtlocnkobancjmaaGreatDoor.printAgain
open Go Go.RowKit
set_option maxRecDepth 100000 in
theorem jf : joinedFacts Tryz.pinned.checked.prog 3 Tryz.f3 (OpenSpec.ofChange Rows.printAgainSpec).bare Rows.printAgainRow = true := by kernel_rfl
end Go.Proofs.YtlocnkobancjmaaGreatDoor.printAgain
