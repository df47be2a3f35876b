/- Rows of fields: numbers, angles written. -/
import Derived.Test.YtpbekdkobmgndaaRow
import Derived.Test.YtpbekdkobmgndaaDec3
import Derived.Test.YtpbekdkobmgndaaDec9
import Derived.Deep.DeepCutAuto
namespace Go.Proofs.Ytpbekdkobmgndaa
open Go.ChangeShapes Go.WideShapes Go.ChangeAt Go.RowKit
set_option linter.unusedVariables false
set_option linter.unusedSimpArgs false

end Go.Proofs.Ytpbekdkobmgndaa
