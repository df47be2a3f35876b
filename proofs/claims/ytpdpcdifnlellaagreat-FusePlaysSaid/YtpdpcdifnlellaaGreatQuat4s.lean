/- Package quat: Dot. -/
import Derived.Test.YtpdpcdifnlellaaGreatQuat3
import Derived.Test.YtpdpcdifnlellaaGreatKB
import Derived.Test.YtpdpcdifnlellaaGreatRegionK3
import Derived.Deep.DeepCutAuto
namespace Go.Proofs.YtpdpcdifnlellaaGreat
open Go.ChangeShapes Go.WideShapes Go.ChangeAt Go.RowKit
set_option maxRecDepth 100000
set_option linter.unusedVariables false

def qsum (x y z t a b c d : Int) : Nat → Int
  | 0 => 0
  | k + 1 => qsum x y z t a b c d k + roundS (sel4 k x y z t * sel4 k a b c d) 30
theorem qsum_all (x y z t a b c d : Int) : qsum x y z t a b c d 4 = qdot x y z t a b c d := by
  have h : qsum x y z t a b c d 4 = 0 + roundS (x * a) 30 + roundS (y * b) 30 + roundS (z * c) 30 + roundS (t * d) 30 := rfl
  rw [h]; unfold qdot; omega
theorem qsum_b (x y z t a b c d : Int) (p0 : B32 x) (p1 : B32 y) (p2 : B32 z) (p3 : B32 t) (q0 : B32 a) (q1 : B32 b) (q2 : B32 c) (q3 : B32 d) : ∀ k : Nat, -(4294967297 * (k : Int)) ≤ qsum x y z t a b c d k ∧ qsum x y z t a b c d k ≤ 4294967297 * (k : Int)
  | 0 => by simp [qsum]
  | k + 1 => by
    have ih := qsum_b x y z t a b c d p0 p1 p2 p3 q0 q1 q2 q3 k
    have h := round30_bd _ _ (sel4_b k p0 p1 p2 p3) (sel4_b k q0 q1 q2 q3)
    simp only [qsum]
    omega

end Go.Proofs.YtpdpcdifnlellaaGreat
