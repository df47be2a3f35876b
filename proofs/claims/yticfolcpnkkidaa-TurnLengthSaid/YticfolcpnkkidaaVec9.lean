/- Package vec: Unit. -/
import Derived.Test.YticfolcpnkkidaaVec8
namespace Go.Proofs.Yticfolcpnkkidaa
open Go.ChangeShapes Go.WideShapes Go.ChangeAt Go.RowKit
set_option linter.unusedVariables false

def upto (a b c x y z : Int) (k : Nat) : List Int := [if 0 < k then a else x, if 1 < k then b else y, if 2 < k then c else z]
theorem upto_get (a b c x y z : Int) (k : Nat) (h : k < 3) : (upto a b c x y z k).getD k 0 = sel k x y z := by
  obtain rfl | rfl | rfl : k = 0 ∨ k = 1 ∨ k = 2 := by omega
  all_goals simp [upto, sel]
theorem upto_set (a b c x y z : Int) (k : Nat) (h : k < 3) : (upto a b c x y z k).set k (sel k a b c) = upto a b c x y z (k + 1) := by
  obtain rfl | rfl | rfl : k = 0 ∨ k = 1 ∨ k = 2 := by omega
  all_goals simp [upto, sel]
theorem sel_map (f : Int → Int) (k : Nat) (x y z : Int) : sel k (f x) (f y) (f z) = f (sel k x y z) := by
  unfold sel; split
  · rfl
  · split <;> rfl
theorem Row.oth1 {k : IntKind} {E : TypeId} {w : World} {g g' j : Nat} {zs : List Int} (h : Row k E w g zs) (hg : g ≠ g') (a : Value) : Row k E (w.setCell ⟨g', j, none⟩ a) g zs := by
  unfold Row at *; rw [Below.heap_setCell _ ⟨g', j, none⟩ _ _ hg]; exact h

end Go.Proofs.Yticfolcpnkkidaa
