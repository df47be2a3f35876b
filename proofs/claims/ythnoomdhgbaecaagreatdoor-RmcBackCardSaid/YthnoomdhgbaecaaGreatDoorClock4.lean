/- Package clock: Of. -/
import Derived.Test.YthnoomdhgbaecaaGreatDoorClock3
import Derived.Deep.DeepCutAuto
namespace Go.Proofs.YthnoomdhgbaecaaGreatDoor

open Go.ChangeShapes Go.WideShapes Go.ChangeAt Go.RowKit

set_option linter.unusedVariables false

theorem only_put {U V : World} {p : Nat} (h : Only p U V) (j : Nat) (v : Value) : Only p U (V.setCell ⟨p, j, none⟩ v) := h.then (Only.set p j v V)
theorem set1 {U : World} {p : Nat} {c : Array Value} {T : TypeId} (h : U.heap[p]? = some (.cells c T (0, 0))) (j : Nat) (v : Value) : ∃ W2, U.setCell ⟨p, j, none⟩ v = W2 ∧ W2.heap[p]? = some (.cells (c.setIfInBounds j v) T (0, 0)) ∧ Only p U W2 :=
  ⟨_, rfl, held_set h j v, Only.set p j v U⟩
theorem set4 {U : World} {p : Nat} {v0 v1 v2 v3 : Value} {T : TypeId} (h : U.heap[p]? = some (.cells #[v0, v1, v2, v3] T (0, 0))) (u0 u1 u2 u3 : Value) :
    ∃ W2, (((U.setCell ⟨p, 0, none⟩ u0).setCell ⟨p, 1, none⟩ u1).setCell ⟨p, 2, none⟩ u2).setCell ⟨p, 3, none⟩ u3 = W2 ∧ W2.heap[p]? = some (.cells #[u0, u1, u2, u3] T (0, 0)) ∧ Only p U W2 := by
  have h4 := held_set (held_set (held_set (held_set h 0 u0) 1 u1) 2 u2) 3 u3
  exact ⟨_, rfl, h4, only_put (only_put (only_put (Only.set p 0 u0 U) 1 u1) 2 u2) 3 u3⟩
theorem set5 {U : World} {p : Nat} {v0 v1 v2 v3 v4 : Value} {T : TypeId} (h : U.heap[p]? = some (.cells #[v0, v1, v2, v3, v4] T (0, 0))) (u0 u1 u2 u3 u4 : Value) :
    ∃ W2, ((((U.setCell ⟨p, 0, none⟩ u0).setCell ⟨p, 1, none⟩ u1).setCell ⟨p, 2, none⟩ u2).setCell ⟨p, 3, none⟩ u3).setCell ⟨p, 4, none⟩ u4 = W2 ∧ W2.heap[p]? = some (.cells #[u0, u1, u2, u3, u4] T (0, 0)) ∧ Only p U W2 := by
  have h4 := held_set (held_set (held_set (held_set (held_set h 0 u0) 1 u1) 2 u2) 3 u3) 4 u4
  exact ⟨_, rfl, h4, only_put (only_put (only_put (only_put (Only.set p 0 u0 U) 1 u1) 2 u2) 3 u3) 4 u4⟩
theorem heldC {w w' : World} {p q : Nat} {o : Obj} (hO : Only p w w') (hne : q ≠ p) (h : w.heap[q]? = some o) : w'.heap[q]? = some o := by rw [hO.block q hne]; exact h
theorem belowC {B : Nat} {w0 w w' : World} {p : Nat} (h : Below B w0 w) (hO : Only p w w') (hp : B ≤ p) : Below B w0 w' := h.trans ⟨hO.os, hO.tape, hO.output, by rw [hO.size]; exact Nat.le_refl _, fun k hk => hO.block k (by omega)⟩
end Go.Proofs.YthnoomdhgbaecaaGreatDoor
