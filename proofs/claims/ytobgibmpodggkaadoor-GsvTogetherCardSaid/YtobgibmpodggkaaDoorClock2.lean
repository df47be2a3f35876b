/- Package clock: may a time be, a date? -/
import Derived.Test.YtobgibmpodggkaaDoorClock
import Derived.Deep.DeepCutAuto
namespace Go.Proofs.YtobgibmpodggkaaDoor
open Go.ChangeShapes Go.WideShapes Go.ChangeAt Go.RowKit
set_option linter.unusedVariables false

end Go.Proofs.YtobgibmpodggkaaDoor
