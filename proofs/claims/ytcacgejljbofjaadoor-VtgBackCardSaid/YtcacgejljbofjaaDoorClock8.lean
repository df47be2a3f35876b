/- Package clock: TakeDate. -/
import Derived.Test.YtcacgejljbofjaaDoorClock7
import Derived.Deep.DeepCutAuto
namespace Go.Proofs.YtcacgejljbofjaaDoor
open Go.ChangeShapes Go.WideShapes Go.ChangeAt Go.RowKit
set_option linter.unusedVariables false

end Go.Proofs.YtcacgejljbofjaaDoor
