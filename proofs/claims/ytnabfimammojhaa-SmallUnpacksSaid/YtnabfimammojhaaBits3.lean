/- Package bits: numbers with a sign. -/
import Derived.Test.YtnabfimammojhaaBits2
namespace Go.Proofs.Ytnabfimammojhaa
open Go.ChangeShapes Go.WideShapes Go.ChangeAt Go.RowKit
set_option linter.unusedVariables false

/-- The lowest n bits as a number with a sign. -/
def sgnN (u n : Nat) : Int := if 2 ^ (n - 1) ≤ u % 2 ^ n then ((u % 2 ^ n : Nat) : Int) - ((2 ^ n : Nat) : Int) else ((u % 2 ^ n : Nat) : Int)
theorem sgn_is (u n : Nat) (h1 : 1 ≤ n) (h2 : n ≤ 32) (hu : u < 4294967296) : (((((u : Int) * 2 ^ (32 - n)) % 4294967296 + 2147483648) % 4294967296 - 2147483648) / 2 ^ (32 - n)) = sgnN u n := by
  unfold sgnN
  obtain rfl | rfl | rfl | rfl | rfl | rfl | rfl | rfl | rfl | rfl | rfl | rfl | rfl | rfl | rfl | rfl | rfl | rfl | rfl | rfl | rfl | rfl | rfl | rfl | rfl | rfl | rfl | rfl | rfl | rfl | rfl | rfl : n = 1 ∨ n = 2 ∨ n = 3 ∨ n = 4 ∨ n = 5 ∨ n = 6 ∨ n = 7 ∨ n = 8 ∨ n = 9 ∨ n = 10 ∨ n = 11 ∨ n = 12 ∨ n = 13 ∨ n = 14 ∨ n = 15 ∨ n = 16 ∨ n = 17 ∨ n = 18 ∨ n = 19 ∨ n = 20 ∨ n = 21 ∨ n = 22 ∨ n = 23 ∨ n = 24 ∨ n = 25 ∨ n = 26 ∨ n = 27 ∨ n = 28 ∨ n = 29 ∨ n = 30 ∨ n = 31 ∨ n = 32 := by omega
  all_goals (simp only [Nat.reduceSub, Nat.reducePow, Int.reducePow]; split <;> omega)

def sgnS (u : Nat) (n : Int) : Int := if szP n then sgnN u n.toNat else 0

end Go.Proofs.Ytnabfimammojhaa
