/- What each function of package fix comes to: contracts, by walking their text. -/
import Derived.Test.YthnoomdhgbaecaaGreatDoorKA
namespace Go.Proofs.YthnoomdhgbaecaaGreatDoor

open Go.ChangeShapes Go.WideShapes Go.ChangeAt Go.RowKit

end Go.Proofs.YthnoomdhgbaecaaGreatDoor
