/- The papers' Rotate. -/
import Derived.Test.YtpdpcdifnlellaaGreatTurn3
import Derived.Test.YtpdpcdifnlellaaGreatTurn8
import Derived.Deep.DeepCutAuto
namespace Go.Proofs.YtpdpcdifnlellaaGreat
open Go.ChangeShapes Go.WideShapes Go.ChangeAt Go.RowKit
set_option maxRecDepth 100000
set_option linter.unusedVariables false

theorem cutE (x y z : Int) : cut3 (fun i => sel i x y z) = .tuple #[.agg #[.int .i32 (clampS x), .int .i32 (clampS y), .int .i32 (clampS z)], .int .i64 (oneIf (clampB x) + oneIf (clampB y) + oneIf (clampB z))] := by
  have hV : cut3 (fun i => sel i x y z) = .tuple #[.agg #[.int .i32 (clampS x), .int .i32 (clampS y), .int .i32 (clampS z)], .int .i64 ((0 + (if clampB x then 1 else 0) + (if clampB y then 1 else 0) + (if clampB z then 1 else 0) : Nat) : Int)] := rfl
  rw [hV]
  cases clampB x <;> cases clampB y <;> cases clampB z <;> rfl
end Go.Proofs.YtpdpcdifnlellaaGreat
