/- A fact of the program: what the row's conditions ask of what TermLists reaches. -/
import Derived.Test.YtlocnkobancjmaaGreatDoorCards
import Derived.Test.YtlocnkobancjmaaGreatDoorTie
import Derived.WalkKit
import Derived.ProofKit
import Derived.OpenShut
import Derived.Deep.DeepHandedRow
namespace Go.Proofs.YtlocnkobancjmaaGreatDoor.termLists
open Go Go.RowKit
set_option maxRecDepth 100000 in
theorem jf : joinedFacts Tryz.pinned.checked.prog 5 Tryz.f5 (OpenSpec.ofChange Rows.termListsSpec).bare Rows.termListsRow = true := by kernel_rfl
end Go.Proofs.YtlocnkobancjmaaGreatDoor.termLists
