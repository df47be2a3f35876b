/- Package clock: TakeDate. -/
import Derived.Test.YtobgibmpodggkaaDoorClock7
import Derived.Deep.DeepCutAuto
namespace Go.Proofs.YtobgibmpodggkaaDoor
open Go.ChangeShapes Go.WideShapes Go.ChangeAt Go.RowKit
set_option linter.unusedVariables false

end Go.Proofs.YtobgibmpodggkaaDoor
