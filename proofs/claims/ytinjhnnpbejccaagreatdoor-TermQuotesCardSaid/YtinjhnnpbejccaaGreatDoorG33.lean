/- A fact of the program: what the row's conditions ask of what TermQuotes reaches. -/
import Derived.Test.YtinjhnnpbejccaaGreatDoorCards
import Derived.Test.YtinjhnnpbejccaaGreatDoorTie
import Derived.WalkKit
import Derived.ProofKit
import Derived.OpenShut
import Derived.Deep.DeepHandedRow
namespace Go.Proofs.YtinjhnnpbejccaaGreatDoor.termQuotes
open Go Go.RowKit
set_option maxRecDepth 100000 in
theorem jf : joinedFacts Tryz.pinned.checked.prog 10 Tryz.f10 (OpenSpec.ofChange Rows.termQuotesSpec).bare Rows.termQuotesRow = true := by kernel_rfl
end Go.Proofs.YtinjhnnpbejccaaGreatDoor.termQuotes
