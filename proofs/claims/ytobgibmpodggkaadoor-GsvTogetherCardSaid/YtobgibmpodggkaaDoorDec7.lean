/- Package decim: the papers' parse. -/
import Derived.Test.YtobgibmpodggkaaDoorDec6
import Derived.Deep.DeepCutAuto
namespace Go.Proofs.YtobgibmpodggkaaDoor
open Go.ChangeShapes Go.WideShapes Go.ChangeAt Go.RowKit
set_option linter.unusedVariables false
set_option linter.unusedSimpArgs false

end Go.Proofs.YtobgibmpodggkaaDoor
