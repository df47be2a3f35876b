/- Package turn: the papers' Up. -/
import Derived.Test.YtpdpcdifnlellaaTurn2
import Derived.Deep.DeepCutAuto
namespace Go.Proofs.Ytpdpcdifnlellaa
open Go.ChangeShapes Go.WideShapes Go.ChangeAt Go.RowKit
set_option linter.unusedVariables false

end Go.Proofs.Ytpdpcdifnlellaa
