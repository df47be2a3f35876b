/- Package clock: TakeDate. -/
import Derived.Test.YtcacgejljbofjaaGreatDoorClock7
import Derived.Deep.DeepCutAuto
namespace Go.Proofs.YtcacgejljbofjaaGreatDoor
open Go.ChangeShapes Go.WideShapes Go.ChangeAt Go.RowKit
set_option linter.unusedVariables false

end Go.Proofs.YtcacgejljbofjaaGreatDoor
