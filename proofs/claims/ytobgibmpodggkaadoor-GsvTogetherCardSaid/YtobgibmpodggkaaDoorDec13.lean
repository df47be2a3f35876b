/- Package decim: the papers' Angle. -/
import Derived.Test.YtobgibmpodggkaaDoorDec10
import Derived.Deep.DeepCutAuto
namespace Go.Proofs.YtobgibmpodggkaaDoor
open Go.ChangeShapes Go.WideShapes Go.ChangeAt Go.RowKit
set_option linter.unusedVariables false
set_option linter.unusedSimpArgs false

end Go.Proofs.YtobgibmpodggkaaDoor
