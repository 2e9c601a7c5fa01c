/- Which names are package names: the reference. -/
import Derived.Test.YtcgchacokcnacaaDoorY1
namespace Go.Proofs.YtcgchacokcnacaaDoor
open Go Go.RowKit
set_option linter.unusedVariables false

end Go.Proofs.YtcgchacokcnacaaDoor
