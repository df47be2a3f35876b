/- Package clock: TakeDate. -/
import Derived.Test.YtpbekdkobmgndaaClock7
import Derived.Deep.DeepCutAuto
namespace Go.Proofs.Ytpbekdkobmgndaa
open Go.ChangeShapes Go.WideShapes Go.ChangeAt Go.RowKit
set_option linter.unusedVariables false

end Go.Proofs.Ytpbekdkobmgndaa
