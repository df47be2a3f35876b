/- Package unit: doubling. -/
import Derived.Test.YtnabfimammojhaaUnitMath
import Derived.Test.YtnabfimammojhaaVec8
import Derived.Test.YtnabfimammojhaaOps
import Derived.Deep.DeepCutAuto
import Derived.Handy
namespace Go.Proofs.Ytnabfimammojhaa
open Go.ChangeShapes Go.WideShapes Go.ChangeAt Go.RowKit
set_option linter.unusedVariables false

def cell4 (w : World) (b : Nat) : Nat := (cellInt w b 0).natAbs + (cellInt w b 1).natAbs + (cellInt w b 2).natAbs + (cellInt w b 3).natAbs
def room4 (w : World) (b : Nat) : Nat := 17179869184 - cell4 w b
theorem room4_of {T : TypeId} {w : World} {b : Nat} {x y z t : Int} (h : Row .i32 T w b [x, y, z, t]) : room4 w b = 17179869184 - (x.natAbs + y.natAbs + z.natAbs + t.natAbs) := by
  unfold room4 cell4
  rw [cellInt_of (h.cellAt 0 (show 0 < 4 by omega)), cellInt_of (h.cellAt 1 (show 1 < 4 by omega)), cellInt_of (h.cellAt 2 (show 2 < 4 by omega)), cellInt_of (h.cellAt 3 (show 3 < 4 by omega))]
  rfl
theorem index4_0 (x y z t : Int) (w : World) : (Instr.index 32 (.agg #[.int .i32 x, .int .i32 y, .int .i32 z, .int .i32 t]) (.int .i64 0)).run Try.prog w = .ok (.int .i32 x) w := by rfl
theorem index4_1 (x y z t : Int) (w : World) : (Instr.index 32 (.agg #[.int .i32 x, .int .i32 y, .int .i32 z, .int .i32 t]) (.int .i64 1)).run Try.prog w = .ok (.int .i32 y) w := by rfl
theorem index4_2 (x y z t : Int) (w : World) : (Instr.index 32 (.agg #[.int .i32 x, .int .i32 y, .int .i32 z, .int .i32 t]) (.int .i64 2)).run Try.prog w = .ok (.int .i32 z) w := by rfl
theorem index4_3 (x y z t : Int) (w : World) : (Instr.index 32 (.agg #[.int .i32 x, .int .i32 y, .int .i32 z, .int .i32 t]) (.int .i64 3)).run Try.prog w = .ok (.int .i32 t) w := by rfl

end Go.Proofs.Ytnabfimammojhaa
