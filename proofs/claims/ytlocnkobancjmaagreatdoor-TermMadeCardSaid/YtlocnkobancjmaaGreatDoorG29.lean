/- A fact of the program: what the row's conditions ask of what TermMade reaches. -/
import Derived.Test.YtlocnkobancjmaaGreatDoorCards
import Derived.Test.YtlocnkobancjmaaGreatDoorTie
import Derived.WalkKit
import Derived.ProofKit
import Derived.OpenShut
import Derived.Deep.DeepHandedRow
namespace Go.Proofs.YtlocnkobancjmaaGreatDoor.termMade
open Go Go.RowKit
set_option maxRecDepth 100000 in
theorem jf : joinedFacts Tryz.pinned.checked.prog 4 Tryz.f4 (OpenSpec.ofChange Rows.termMadeSpec).bare Rows.termMadeRow = true := by kernel_rfl
end Go.Proofs.YtlocnkobancjmaaGreatDoor.termMade
