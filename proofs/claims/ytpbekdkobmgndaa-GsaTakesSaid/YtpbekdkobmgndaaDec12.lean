/- Package decim: the papers' TakeAngle. -/
import Derived.Test.YtpbekdkobmgndaaDec10
import Derived.Deep.DeepCutAuto
namespace Go.Proofs.Ytpbekdkobmgndaa
open Go.ChangeShapes Go.WideShapes Go.ChangeAt Go.RowKit
set_option linter.unusedVariables false
set_option linter.unusedSimpArgs false

end Go.Proofs.Ytpbekdkobmgndaa
