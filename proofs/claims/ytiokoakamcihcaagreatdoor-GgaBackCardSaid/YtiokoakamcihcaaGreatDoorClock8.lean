/- Package clock: TakeDate. -/
import Derived.Test.YtiokoakamcihcaaGreatDoorClock7
import Derived.Deep.DeepCutAuto
namespace Go.Proofs.YtiokoakamcihcaaGreatDoor
open Go.ChangeShapes Go.WideShapes Go.ChangeAt Go.RowKit
set_option linter.unusedVariables false

end Go.Proofs.YtiokoakamcihcaaGreatDoor
