/- Stores of a cell, or of a struct, into an old block: the equation makes a walk go on over the new world. -/
import Derived.Test.YtekilpmmadhpoaaSeg
namespace Go.Proofs.Ytekilpmmadhpoaa
open Go.RowKit
set_option linter.unusedVariables false

theorem onS {w w' : World} {p : Nat} {o : Obj} (h : w.heap[p]? = some o) (hb : Below w.heap.size w w') : w'.heap[p]? = some o := by
  rw [hb.block p (held_lt h)]; exact h
theorem putS {U V : World} {p : Nat} (h : Only p U V) (j : Nat) (v : Value) : Only p U (V.setCell ⟨p, j, none⟩ v) := h.then (Only.set p j v V)
theorem st1 {U : World} {p : Nat} {c : Array Value} {T : TypeId} (h : U.heap[p]? = some (.cells c T (0, 0))) (j : Nat) (v : Value) : ∃ W2, U.setCell ⟨p, j, none⟩ v = W2 ∧ W2.heap[p]? = some (.cells (c.setIfInBounds j v) T (0, 0)) ∧ Only p U W2 :=
  ⟨_, rfl, held_set h j v, Only.set p j v U⟩
theorem st3 {U : World} {p : Nat} {v0 v1 v2 : Value} {T : TypeId} (h : U.heap[p]? = some (.cells #[v0, v1, v2] T (0, 0))) (u0 u1 u2 : Value) :
    ∃ W2, ((U.setCell ⟨p, 0, none⟩ u0).setCell ⟨p, 1, none⟩ u1).setCell ⟨p, 2, none⟩ u2 = W2 ∧ W2.heap[p]? = some (.cells #[u0, u1, u2] T (0, 0)) ∧ Only p U W2 := by
  have h4 := held_set (held_set (held_set h 0 u0) 1 u1) 2 u2
  exact ⟨_, rfl, h4, putS (putS (Only.set p 0 u0 U) 1 u1) 2 u2⟩
theorem st4 {U : World} {p : Nat} {v0 v1 v2 v3 : Value} {T : TypeId} (h : U.heap[p]? = some (.cells #[v0, v1, v2, v3] T (0, 0))) (u0 u1 u2 u3 : Value) :
    ∃ W2, (((U.setCell ⟨p, 0, none⟩ u0).setCell ⟨p, 1, none⟩ u1).setCell ⟨p, 2, none⟩ u2).setCell ⟨p, 3, none⟩ u3 = W2 ∧ W2.heap[p]? = some (.cells #[u0, u1, u2, u3] T (0, 0)) ∧ Only p U W2 := by
  have h4 := held_set (held_set (held_set (held_set h 0 u0) 1 u1) 2 u2) 3 u3
  exact ⟨_, rfl, h4, putS (putS (putS (Only.set p 0 u0 U) 1 u1) 2 u2) 3 u3⟩
theorem st5 {U : World} {p : Nat} {v0 v1 v2 v3 v4 : Value} {T : TypeId} (h : U.heap[p]? = some (.cells #[v0, v1, v2, v3, v4] T (0, 0))) (u0 u1 u2 u3 u4 : Value) :
    ∃ W2, ((((U.setCell ⟨p, 0, none⟩ u0).setCell ⟨p, 1, none⟩ u1).setCell ⟨p, 2, none⟩ u2).setCell ⟨p, 3, none⟩ u3).setCell ⟨p, 4, none⟩ u4 = W2 ∧ W2.heap[p]? = some (.cells #[u0, u1, u2, u3, u4] T (0, 0)) ∧ Only p U W2 := by
  have h4 := held_set (held_set (held_set (held_set (held_set h 0 u0) 1 u1) 2 u2) 3 u3) 4 u4
  exact ⟨_, rfl, h4, putS (putS (putS (putS (Only.set p 0 u0 U) 1 u1) 2 u2) 3 u3) 4 u4⟩
theorem heldS {w w' : World} {p q : Nat} {o : Obj} (hO : Only p w w') (hne : q ≠ p) (h : w.heap[q]? = some o) : w'.heap[q]? = some o := by rw [hO.block q hne]; exact h
theorem belowS {B : Nat} {w0 w w' : World} {p : Nat} (h : Below B w0 w) (hO : Only p w w') (hp : B ≤ p) : Below B w0 w' := h.trans ⟨hO.os, hO.tape, hO.output, by rw [hO.size]; exact Nat.le_refl _, fun k hk => hO.block k (by omega)⟩
theorem st2 {U : World} {p : Nat} {v0 v1 : Value} {T : TypeId} (h : U.heap[p]? = some (.cells #[v0, v1] T (0, 0))) (u0 u1 : Value) :
    ∃ W2, (U.setCell ⟨p, 0, none⟩ u0).setCell ⟨p, 1, none⟩ u1 = W2 ∧ W2.heap[p]? = some (.cells #[u0, u1] T (0, 0)) ∧ Only p U W2 := by
  have h4 := held_set (held_set h 0 u0) 1 u1
  exact ⟨_, rfl, h4, putS (Only.set p 0 u0 U) 1 u1⟩

end Go.Proofs.Ytekilpmmadhpoaa
