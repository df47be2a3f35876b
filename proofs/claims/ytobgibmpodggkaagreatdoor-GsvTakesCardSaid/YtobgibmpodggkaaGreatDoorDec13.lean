/- Package decim: the papers' Angle. -/
import Derived.Test.YtobgibmpodggkaaGreatDoorDec10
import Derived.Deep.DeepCutAuto
namespace Go.Proofs.YtobgibmpodggkaaGreatDoor
open Go.ChangeShapes Go.WideShapes Go.ChangeAt Go.RowKit
set_option linter.unusedVariables false
set_option linter.unusedSimpArgs false

end Go.Proofs.YtobgibmpodggkaaGreatDoor
