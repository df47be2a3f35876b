/- Package unit, its reference: Make. -/
import Derived.Test.YtpdpcdifnlellaaUnit3
namespace Go.Proofs.Ytpdpcdifnlellaa
open Go.ChangeShapes Go.WideShapes Go.ChangeAt Go.RowKit
set_option maxRecDepth 100000
set_option linter.unusedVariables false

end Go.Proofs.Ytpdpcdifnlellaa
