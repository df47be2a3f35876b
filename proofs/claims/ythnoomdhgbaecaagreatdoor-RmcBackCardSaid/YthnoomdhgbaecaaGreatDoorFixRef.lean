/- What each function of the document's answers for layer 1 comes to: contracts, by walking their text. -/
import Derived.Test.YthnoomdhgbaecaaGreatDoorFix
namespace Go.Proofs.YthnoomdhgbaecaaGreatDoor

open Go.ChangeShapes Go.WideShapes Go.ChangeAt Go.RowKit

end Go.Proofs.YthnoomdhgbaecaaGreatDoor
