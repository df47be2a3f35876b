/- Package clock: may a time be, a date? -/
import Derived.Test.YtobgibmpodggkaaGreatDoorClock
import Derived.Deep.DeepCutAuto
namespace Go.Proofs.YtobgibmpodggkaaGreatDoor
open Go.ChangeShapes Go.WideShapes Go.ChangeAt Go.RowKit
set_option linter.unusedVariables false

end Go.Proofs.YtobgibmpodggkaaGreatDoor
