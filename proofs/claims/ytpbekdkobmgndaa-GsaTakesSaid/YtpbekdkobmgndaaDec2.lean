/- Package decim: digits behind the point, Put. -/
import Derived.Test.YtpbekdkobmgndaaDec
import Derived.Deep.DeepCutAuto
namespace Go.Proofs.Ytpbekdkobmgndaa
open Go.ChangeShapes Go.WideShapes Go.ChangeAt Go.RowKit
set_option linter.unusedVariables false
set_option linter.unusedSimpArgs false

end Go.Proofs.Ytpbekdkobmgndaa
