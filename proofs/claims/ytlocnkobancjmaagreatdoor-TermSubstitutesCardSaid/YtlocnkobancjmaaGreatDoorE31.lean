/- A fact of the program: what the row's conditions ask of what TermSubstitutes reaches. -/
import Derived.Test.YtlocnkobancjmaaGreatDoorCards
import Derived.Test.YtlocnkobancjmaaGreatDoorTie
import Derived.WalkKit
import Derived.ProofKit
import Derived.OpenShut
import Derived.Deep.DeepHandedRow
namespace Go.Proofs.YtlocnkobancjmaaGreatDoor.termSubstitutes
open Go Go.RowKit
set_option maxRecDepth 100000 in
theorem jf : joinedFacts Tryz.pinned.checked.prog 6 Tryz.f6 (OpenSpec.ofChange Rows.termSubstitutesSpec).bare Rows.termSubstitutesRow = true := by kernel_rfl
end Go.Proofs.YtlocnkobancjmaaGreatDoor.termSubstitutes
