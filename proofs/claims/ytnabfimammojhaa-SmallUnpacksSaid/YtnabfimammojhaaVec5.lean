/- Package vec and its reference: products, lengths. -/
import Derived.Test.YtnabfimammojhaaVec4
namespace Go.Proofs.Ytnabfimammojhaa
open Go.ChangeShapes Go.WideShapes Go.ChangeAt Go.RowKit
set_option linter.unusedVariables false

theorem sl_lit3 (k : IntKind) (E : TypeId) (w : World) (x y z : Int) : Sl k (w.alloc (.cells #[.int k x, .int k y, .int k z] E)) (some ⟨w.heap.size, 0, none⟩) 3 3 [x, y, z] := by
  obtain ⟨a, cap, hv, hs⟩ := (Own.lit k E w [x, y, z] w.heap.size (Nat.le_refl _) (by unfold maxLen; simp) #[.int k x, .int k y, .int k z] rfl).sl
  cases hv
  exact hs
theorem i32_wf {n : Int} (h : B32 n) : (Lit.int .i32 n).wf = true := by
  have h3 : IntKind.i32.min = -2147483648 := rfl
  have h4 : IntKind.i32.max = 2147483647 := rfl
  simp [Lit.wf, h3, h4]; exact h
theorem wf3 {x y z : Int} (p0 : B32 x) (p1 : B32 y) (p2 : B32 z) : ∀ n ∈ [x, y, z], (Lit.int .i32 n).wf = true := by
  intro n hn
  simp at hn
  rcases hn with rfl | rfl | rfl
  · exact i32_wf p0
  · exact i32_wf p1
  · exact i32_wf p2

/-- The product of two vectors, not cut. -/
def dotN (x y z a b c : Int) : Int := roundS (x * a) 16 + roundS (y * b) 16 + roundS (z * c) 16
theorem dot_bd (x y z a b c : Int) (p0 : B32 x) (p1 : B32 y) (p2 : B32 z) (q0 : B32 a) (q1 : B32 b) (q2 : B32 c) : -9223372036854775808 ≤ dotN x y z a b c ∧ dotN x y z a b c ≤ 9223372036854775807 := by
  have h1 := round16_bd x a p0 q0
  have h2 := round16_bd y b p1 q1
  have h3 := round16_bd z c p2 q2
  unfold dotN
  omega

end Go.Proofs.Ytnabfimammojhaa
