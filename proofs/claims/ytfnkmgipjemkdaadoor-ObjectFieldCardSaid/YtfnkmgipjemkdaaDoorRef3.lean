/- The reference's minus. -/
import Derived.Test.YtfnkmgipjemkdaaDoorM9
namespace Go.Proofs.YtfnkmgipjemkdaaDoor
open Go Go.RowKit
set_option linter.unusedVariables false

end Go.Proofs.YtfnkmgipjemkdaaDoor
