/- Package turn: Rotate. -/
import Derived.Test.YtpdpcdifnlellaaGreatTurn2
import Derived.Test.YtpdpcdifnlellaaGreatTurn4
import Derived.Test.YtpdpcdifnlellaaGreatKA
import Derived.Deep.DeepCutAuto
namespace Go.Proofs.YtpdpcdifnlellaaGreat
open Go.ChangeShapes Go.WideShapes Go.ChangeAt Go.RowKit
set_option maxRecDepth 100000
set_option linter.unusedVariables false

/-- What comes out, of the first three numbers, cut. -/
def rotQ (x y z t a b c s0 s1 s2 o0 o1 o2 : Int) : Value := .tuple #[.agg #[.int .i32 (clampS (a + roundS (x * s0) 30 + (roundS (z * s2) 30 - roundS (t * s1) 30))), .int .i32 (clampS (b + roundS (x * s1) 30 + (roundS (t * s0) 30 - roundS (y * s2) 30))), .int .i32 (clampS (c + roundS (x * s2) 30 + (roundS (y * s1) 30 - roundS (z * s0) 30)))], .int .i64 (0 + o0 + o1 + o2 + oneIf (clampB (a + roundS (x * s0) 30 + (roundS (z * s2) 30 - roundS (t * s1) 30))) + oneIf (clampB (b + roundS (x * s1) 30 + (roundS (t * s0) 30 - roundS (y * s2) 30))) + oneIf (clampB (c + roundS (x * s2) 30 + (roundS (y * s1) 30 - roundS (z * s0) 30))))]
def rotV (x y z t a b c : Int) : Value := rotQ x y z t a b c (clampS (2 * (roundS (z * c) 30 - roundS (t * b) 30))) (clampS (2 * (roundS (t * a) 30 - roundS (y * c) 30))) (clampS (2 * (roundS (y * b) 30 - roundS (z * a) 30))) (oneIf (clampB (2 * (roundS (z * c) 30 - roundS (t * b) 30)))) (oneIf (clampB (2 * (roundS (t * a) 30 - roundS (y * c) 30)))) (oneIf (clampB (2 * (roundS (y * b) 30 - roundS (z * a) 30))))
theorem clampS_bd13 (n : Int) : B32 (clampS n) := by unfold clampS B32; split <;> (try split) <;> omega
theorem one_set {U : World} {p : Nat} {c : Array Value} {T : TypeId} (h : U.heap[p]? = some (.cells c T (0, 0))) (j : Nat) (v : Value) : ∃ W2, U.setCell ⟨p, j, none⟩ v = W2 ∧ W2.heap[p]? = some (.cells (c.setIfInBounds j v) T (0, 0)) ∧ Only p U W2 :=
  ⟨_, rfl, held_set h j v, Only.set p j v U⟩
theorem three_set {U : World} {p : Nat} {v0 v1 v2 u0 u1 u2 : Value} {T : TypeId} (h : U.heap[p]? = some (.cells #[v0, v1, v2] T (0, 0))) :
    ∃ W2, ((U.setCell ⟨p, 0, none⟩ u0).setCell ⟨p, 1, none⟩ u1).setCell ⟨p, 2, none⟩ u2 = W2 ∧ W2.cell? ⟨p, 0, none⟩ = some u0 ∧ W2.cell? ⟨p, 1, none⟩ = some u1 ∧ W2.cell? ⟨p, 2, none⟩ = some u2 ∧ Only p U W2 := by
  have h1 := held_set h 0 u0
  have h2 := held_set h1 1 u1
  have h3 := held_set h2 2 u2
  exact ⟨_, rfl, held_cell h3 0 _ rfl, held_cell h3 1 _ rfl, held_cell h3 2 _ rfl, ((Only.set p 0 u0 U).then (Only.set p 1 u1 _)).then (Only.set p 2 u2 _)⟩
theorem held_below {w w' : World} {p : Nat} {o : Obj} (h : w.heap[p]? = some o) (hb : Below w.heap.size w w') : w'.heap[p]? = some o := by
  rw [hb.block p (held_lt h)]; exact h
theorem held_eff {w w' : World} {p g : Nat} {o : Obj} (h : w.heap[p]? = some o) (hb : Eff g w w') (hn : p ≠ g) : w'.heap[p]? = some o := by
  rw [hb.block p (held_lt h) hn]; exact h
theorem below_eff {B g : Nat} {w A V : World} (hb : Below B w A) (he : Eff g A V) (hg : B ≤ g) (hA : B ≤ A.heap.size) : Below B w V :=
  hb.trans ⟨he.os, he.tape, he.output, he.size, fun k hk => he.block k (by omega) (by omega)⟩
theorem heldO {w w' : World} {p q : Nat} {o : Obj} (hO : Only p w w') (hne : q ≠ p) (h : w.heap[q]? = some o) : w'.heap[q]? = some o := by rw [hO.block q hne]; exact h
theorem belowO {B : Nat} {w0 w w' : World} {p : Nat} (h : Below B w0 w) (hO : Only p w w') (hp : B ≤ p) : Below B w0 w' := h.trans ⟨hO.os, hO.tape, hO.output, by rw [hO.size]; exact Nat.le_refl _, fun k hk => hO.block k (by omega)⟩
end Go.Proofs.YtpdpcdifnlellaaGreat
