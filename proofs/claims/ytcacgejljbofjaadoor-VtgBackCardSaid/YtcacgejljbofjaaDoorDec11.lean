/- Package decim: TakeAngle. -/
import Derived.Test.YtcacgejljbofjaaDoorDec10
import Derived.Deep.DeepCutAuto
namespace Go.Proofs.YtcacgejljbofjaaDoor
open Go.ChangeShapes Go.WideShapes Go.ChangeAt Go.RowKit
set_option linter.unusedVariables false
set_option linter.unusedSimpArgs false

end Go.Proofs.YtcacgejljbofjaaDoor
