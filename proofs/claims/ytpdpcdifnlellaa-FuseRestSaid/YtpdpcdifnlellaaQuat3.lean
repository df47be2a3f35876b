/- Package quat's reference: Dot, Mul. -/
import Derived.Test.YtpdpcdifnlellaaQuat2
namespace Go.Proofs.Ytpdpcdifnlellaa
open Go.ChangeShapes Go.WideShapes Go.ChangeAt Go.RowKit
set_option maxRecDepth 100000
set_option linter.unusedVariables false

theorem round30_bd (X Y : Int) (hX : B32 X) (hY : B32 Y) : -4294967297 ≤ roundS (X * Y) 30 ∧ roundS (X * Y) 30 ≤ 4294967297 := by
  obtain ⟨m1, m2⟩ := mul_bd X Y hX.1 hX.2 hY.1 hY.2
  have hp : pow2 (bnd 30 62) = 1073741824 := by decide +kernel
  unfold roundS overS
  rw [hp, if_neg (by omega)]
  have hq : qn (X * Y).natAbs (1073741824 : Int).natAbs ≤ 4294967297 := by
    unfold qn
    have : (1073741824 : Int).natAbs = 1073741824 := rfl
    rw [this]
    split <;> omega
  split
  · omega
  · split <;> omega
theorem boxes4 (w : World) (T1 T2 : TypeId) (x y z t a b c d : Int) :
    ∃ W, (w.alloc (.cells #[.int .i32 x, .int .i32 y, .int .i32 z, .int .i32 t] T1)).alloc (.cells #[.int .i32 a, .int .i32 b, .int .i32 c, .int .i32 d] T2) = W ∧ Below w.heap.size w W ∧ w.heap.size + 2 ≤ W.heap.size ∧
    Row .i32 T1 W w.heap.size [x, y, z, t] ∧ Row .i32 T2 W (w.heap.size + 1) [a, b, c, d] := by
  refine ⟨_, rfl, ((Below.refl _ _).alloc (Nat.le_refl _) _).alloc (by simp) _, by simp, ?_, ?_⟩
  · unfold Row; rw [Below.heap_alloc _ _ _ (by simp)]; exact heap_new _ _ _ rfl
  · exact heap_new _ _ _ (by simp)
theorem boxes4r (w : World) (T1 T2 T3 : TypeId) (x y z t a b c d : Int) :
    ∃ W, ((w.alloc (.cells #[.int .i32 x, .int .i32 y, .int .i32 z, .int .i32 t] T1)).alloc (.cells #[.int .i32 a, .int .i32 b, .int .i32 c, .int .i32 d] T2)).alloc (.cells #[.int .i32 0, .int .i32 0, .int .i32 0, .int .i32 0] T3) = W ∧ Below w.heap.size w W ∧ w.heap.size + 3 ≤ W.heap.size ∧
    Row .i32 T1 W w.heap.size [x, y, z, t] ∧ Row .i32 T2 W (w.heap.size + 1) [a, b, c, d] ∧ Row .i32 T3 W (w.heap.size + 1 + 1) [0, 0, 0, 0] := by
  refine ⟨_, rfl, (((Below.refl _ _).alloc (Nat.le_refl _) _).alloc (by simp) _).alloc (by simp; omega) _, by simp, ?_, ?_, ?_⟩
  · unfold Row; rw [Below.heap_alloc _ _ _ (by simp; omega), Below.heap_alloc _ _ _ (by simp)]; exact heap_new _ _ _ rfl
  · unfold Row; rw [Below.heap_alloc _ _ _ (by simp)]; exact heap_new _ _ _ (by simp)
  · exact heap_new _ _ _ (by simp)
/-- The products of parts that stand in one place. -/
def qdot (x y z t a b c d : Int) : Int := roundS (x * a) 30 + roundS (y * b) 30 + roundS (z * c) 30 + roundS (t * d) 30
def mulW (x y z t a b c d : Int) : Int := roundS (x * a) 30 - roundS (y * b) 30 - roundS (z * c) 30 - roundS (t * d) 30
def mulX (x y z t a b c d : Int) : Int := roundS (x * b) 30 + roundS (y * a) 30 + roundS (z * d) 30 - roundS (t * c) 30
def mulY (x y z t a b c d : Int) : Int := roundS (x * c) 30 + roundS (z * a) 30 + roundS (t * b) 30 - roundS (y * d) 30
def mulZ (x y z t a b c d : Int) : Int := roundS (x * d) 30 + roundS (t * a) 30 + roundS (y * c) 30 - roundS (z * b) 30
def mulV (x y z t a b c d : Int) : Value := cut4 (mulW x y z t a b c d) (mulX x y z t a b c d) (mulY x y z t a b c d) (mulZ x y z t a b c d)

end Go.Proofs.Ytpdpcdifnlellaa
