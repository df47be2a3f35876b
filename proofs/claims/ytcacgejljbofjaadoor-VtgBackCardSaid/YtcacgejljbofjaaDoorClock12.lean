/- The papers' TakeDate. -/
import Derived.Test.YtcacgejljbofjaaDoorClock11
import Derived.Deep.DeepCutAuto
namespace Go.Proofs.YtcacgejljbofjaaDoor
open Go.ChangeShapes Go.WideShapes Go.ChangeAt Go.RowKit
set_option linter.unusedVariables false

end Go.Proofs.YtcacgejljbofjaaDoor
