/- Package octet: a writer's Raw. -/
import Derived.Test.YtekilpmmadhpoaaOctet9
namespace Go.Proofs.Ytekilpmmadhpoaa
open Go.ChangeShapes Go.WideShapes Go.ChangeAt Go.RowKit Go.Shelf
set_option linter.unusedVariables false

end Go.Proofs.Ytekilpmmadhpoaa
