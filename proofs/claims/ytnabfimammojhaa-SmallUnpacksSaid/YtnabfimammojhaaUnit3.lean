/- Package unit: Make. -/
import Derived.Test.YtnabfimammojhaaUnit2
namespace Go.Proofs.Ytnabfimammojhaa
open Go.ChangeShapes Go.WideShapes Go.ChangeAt Go.RowKit
set_option linter.unusedVariables false

theorem index4_any (x y z t : Int) (k : Nat) (w : World) (hk : k < 4) : (Instr.index 32 (.agg #[.int .i32 x, .int .i32 y, .int .i32 z, .int .i32 t]) (.int .i64 k)).run Try.prog w = .ok (.int .i32 (sel4 k x y z t)) w := by
  obtain rfl | rfl | rfl | rfl : k = 0 ∨ k = 1 ∨ k = 2 ∨ k = 3 := by omega
  all_goals rfl
end Go.Proofs.Ytnabfimammojhaa
