/- Package clock: Days. -/
import Derived.Test.YtobgibmpodggkaaGreatDoorKB
import Derived.Deep.DeepCutAuto
namespace Go.Proofs.YtobgibmpodggkaaGreatDoor
open Go.ChangeShapes Go.WideShapes Go.ChangeAt Go.RowKit
set_option linter.unusedVariables false

def wnB (n lo hi : Int) : Bool := decide (lo ≤ n) && decide (n ≤ hi)
theorem wnB_iff {n lo hi : Int} : wnB n lo hi = true ↔ lo ≤ n ∧ n ≤ hi := by unfold wnB; simp
theorem wnB_no {n lo hi : Int} : wnB n lo hi = false ↔ ¬ (lo ≤ n ∧ n ≤ hi) := by rw [← wnB_iff]; simp
def daysS (m y : Int) : Int := if wnB m 1 12 = true ∧ wnB y 2000 2099 = true then (if m = 2 then (if y % 4 = 0 then 29 else 28) else if m = 4 ∨ m = 6 ∨ m = 9 ∨ m = 11 then 30 else 31) else 0
def mayTB (b : Bool) (h m s c : Int) : Bool := if b then (wnB h 0 23 && (wnB m 0 59 && (wnB s 0 59 && wnB c 0 99))) else decide (h = 0 ∧ m = 0 ∧ s = 0 ∧ c = 0)
def mayDB (b : Bool) (d m y : Int) : Bool := if b then wnB d 1 (daysS m y) else decide (d = 0 ∧ m = 0 ∧ y = 0)
theorem daysS_b (m y : Int) : 0 ≤ daysS m y ∧ daysS m y ≤ 31 := by unfold daysS; split <;> (try split) <;> (try split) <;> omega
end Go.Proofs.YtobgibmpodggkaaGreatDoor
