/- Package clock: TakeDate. -/
import Derived.Test.YtpbekdkobmgndaaGreatDoorClock7
import Derived.Deep.DeepCutAuto
namespace Go.Proofs.YtpbekdkobmgndaaGreatDoor
open Go.ChangeShapes Go.WideShapes Go.ChangeAt Go.RowKit
set_option linter.unusedVariables false

end Go.Proofs.YtpbekdkobmgndaaGreatDoor
