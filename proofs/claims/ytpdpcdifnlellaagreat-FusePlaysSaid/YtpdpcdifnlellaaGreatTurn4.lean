/- Package turn: cross and what it hands back. -/
import Derived.Test.YtpdpcdifnlellaaGreatTurn
import Derived.Deep.DeepCutAuto
namespace Go.Proofs.YtpdpcdifnlellaaGreat
open Go.ChangeShapes Go.WideShapes Go.ChangeAt Go.RowKit
set_option linter.unusedVariables false

end Go.Proofs.YtpdpcdifnlellaaGreat
