/- Package octet: a reader's Raw. -/
import Derived.Test.YtekilpmmadhpoaaOctet11
namespace Go.Proofs.Ytekilpmmadhpoaa
open Go.ChangeShapes Go.WideShapes Go.ChangeAt Go.RowKit Go.Shelf
set_option linter.unusedVariables false

end Go.Proofs.Ytekilpmmadhpoaa
