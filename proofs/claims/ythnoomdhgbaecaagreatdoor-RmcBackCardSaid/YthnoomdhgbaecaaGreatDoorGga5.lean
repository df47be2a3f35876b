/- Package gga: Take. -/
import Derived.Test.YthnoomdhgbaecaaGreatDoorGga2
import Derived.Laws.Tables
import Derived.Laws.Rows
import Derived.Deep.DeepCutAuto
namespace Go.Proofs.YthnoomdhgbaecaaGreatDoor

open Go.ChangeShapes Go.WideShapes Go.ChangeAt Go.RowKit

set_option linter.unusedVariables false

set_option linter.unusedSimpArgs false

theorem EyeIn.below {w w2 : World} {B : Nat} {e : Int} {L : List ByteArray} (h : EyeIn w B e L) (hA : After w w2) : EyeIn w2 B e L := h.aft hA
theorem RowR.below {w w2 : World} {B : Nat} {e : Int} {L : List ByteArray} (h : RowR w B e L) (hA : After w w2) : RowR w2 B e L := h.aft hA
/-- The first error of a list. -/
def kE (l : List Int) : Int := l.foldl kp 0
end Go.Proofs.YthnoomdhgbaecaaGreatDoor
