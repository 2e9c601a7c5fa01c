/- samePackages of two slices of one list. -/
import Derived.Test.YtcgchacokcnacaaDoorY11
namespace Go.Proofs.YtcgchacokcnacaaDoor
open Go Go.RowKit
set_option linter.unusedVariables false

end Go.Proofs.YtcgchacokcnacaaDoor
