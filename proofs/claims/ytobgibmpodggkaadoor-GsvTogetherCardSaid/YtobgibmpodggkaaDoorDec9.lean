/- Package decim: Angle. -/
import Derived.Test.YtobgibmpodggkaaDoorDec8
import Derived.Deep.DeepCutAuto
namespace Go.Proofs.YtobgibmpodggkaaDoor
open Go.ChangeShapes Go.WideShapes Go.ChangeAt Go.RowKit
set_option linter.unusedVariables false
set_option linter.unusedSimpArgs false

def farA (lat : Bool) : Nat := if lat = true then 540000000 else 1080000000
def wideA (lat : Bool) : Nat := if lat = true then 2 else 3
def sideA (lat neg : Bool) : Nat := if lat = true then (if neg = true then 83 else 78) else (if neg = true then 87 else 69)
def angV (a : Nat) (lat : Bool) : List Nat := digV (a / 6000000) (wideA lat) ++ digV (a % 6000000 / 100000) 2 ++ behV 5 (a % 100000)
def angD (is : Bool) (n : Int) (lat : Bool) : List Nat × List Nat × Int :=
  if missE is n (-(farA lat : Int)) (farA lat) ≠ 0 then ([], [], 5) else if is = false then ([], [], 0) else (angV n.natAbs lat, [sideA lat (decide (n < 0))], 0)
theorem pad2 {a : Nat} (h : a < 60) : padV a 2 = digV a 2 := padV_dig (by decide)
theorem small3 (A B C : ByteArray) (a : A.size ≤ 20) (b : B.size ≤ 20) (c : C.size ≤ 7) : A.size + B.size ≤ 1000000 ∧ (A ++ B).size + C.size ≤ 1000000 := by rw [ByteArray.size_append]; omega
end Go.Proofs.YtobgibmpodggkaaDoor
