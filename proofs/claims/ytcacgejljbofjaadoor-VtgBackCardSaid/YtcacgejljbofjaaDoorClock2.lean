/- Package clock: may a time be, a date? -/
import Derived.Test.YtcacgejljbofjaaDoorClock
import Derived.Deep.DeepCutAuto
namespace Go.Proofs.YtcacgejljbofjaaDoor
open Go.ChangeShapes Go.WideShapes Go.ChangeAt Go.RowKit
set_option linter.unusedVariables false

end Go.Proofs.YtcacgejljbofjaaDoor
