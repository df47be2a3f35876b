/- Package gga: what is put. -/
import Derived.Test.YthnoomdhgbaecaaGreatDoorGga
import Derived.Deep.DeepCutAuto
namespace Go.Proofs.YthnoomdhgbaecaaGreatDoor

open Go.ChangeShapes Go.WideShapes Go.ChangeAt Go.RowKit

set_option linter.unusedVariables false

set_option linter.unusedSimpArgs false

theorem PenIn.below {w w2 : World} {base B : Nat} {e : Int} {L : List ByteArray} (h : PenIn w base B e L) (hA : After w w2) : PenIn w2 base B e L := h.aft hA
theorem RowW.below {w w2 : World} {base B : Nat} {e : Int} {L : List ByteArray} (h : RowW w base B e L) (hA : After w w2) : RowW w2 base B e L := h.aft hA
/-- The first error of what is written, and the fields. -/
def fE (l : List (List ByteArray × Int)) : Int := l.foldl (fun e x => kp e x.2) 0
def fL (l : List (List ByteArray × Int)) : List ByteArray := l.flatMap (·.1)
end Go.Proofs.YthnoomdhgbaecaaGreatDoor
