/- Package clock: Of. -/
import Derived.Test.YtobgibmpodggkaaDoorClock3
import Derived.Deep.DeepCutAuto
namespace Go.Proofs.YtobgibmpodggkaaDoor
open Go.ChangeShapes Go.WideShapes Go.ChangeAt Go.RowKit
set_option linter.unusedVariables false

theorem of_ex {D : Int} (h0 : 0 ≤ D) (h1 : D < 36525) : ∃ y m : Int, 2000 ≤ y ∧ y ≤ 2099 ∧ 1 ≤ m ∧ m ≤ 12 ∧ cumM y m ≤ D ∧ D < cumM y (m + 1) := by
  have hy : ∀ k : Nat, k ≤ 100 → D < cumM (2000 + k) 1 → ∃ y : Int, 2000 ≤ y ∧ y ≤ 2099 ∧ cumM y 1 ≤ D ∧ D < cumM (y + 1) 1 := by
    intro k
    induction k with
    | zero => intro _ h; rw [cum_one] at h; exfalso; simp at h; omega
    | succ k ih =>
      intro hk h
      by_cases c : D < cumM (2000 + k) 1
      · exact ih (by omega) c
      · exact ⟨2000 + k, by omega, by omega, by omega, by rw [show (2000 + (k : Int) + 1) = 2000 + ((k + 1 : Nat) : Int) from by omega]; exact h⟩
  obtain ⟨y, y1, y2, y3, y4⟩ := hy 100 (by omega) (by rw [cum_one]; simp; omega)
  rw [← cum_year] at y4
  have hm : ∀ k : Nat, k ≤ 12 → D < cumM y (1 + k) → ∃ m : Int, 1 ≤ m ∧ m ≤ 12 ∧ cumM y m ≤ D ∧ D < cumM y (m + 1) := by
    intro k
    induction k with
    | zero => intro _ h; exfalso; simp at h; omega
    | succ k ih =>
      intro hk h
      by_cases c : D < cumM y (1 + k)
      · exact ih (by omega) c
      · exact ⟨1 + k, by omega, by omega, by omega, by rw [show (1 + (k : Int) + 1) = 1 + ((k + 1 : Nat) : Int) from by omega]; exact h⟩
  obtain ⟨m, m1, m2, m3, m4⟩ := hm 12 (by omega) y4
  exact ⟨y, m, y1, y2, m1, m2, m3, m4⟩
def ofV (d m y h i s c : Int) : Value := .tuple #[.agg #[.bool true, .int .i64 d, .int .i64 m, .int .i64 y], .agg #[.bool true, .int .i64 h, .int .i64 i, .int .i64 s, .int .i64 c], .bool true]
def ofNo : Value := .tuple #[.agg #[.bool false, .int .i64 0, .int .i64 0, .int .i64 0], .agg #[.bool false, .int .i64 0, .int .i64 0, .int .i64 0, .int .i64 0], .bool false]
def cellInt24 (w : World) (b j : Nat) : Int := match w.cell? ⟨b, j, none⟩ with | some (.int _ n) => n | _ => 0
theorem cellInt24_of {w : World} {b j : Nat} {k : IntKind} {n : Int} (h : w.cell? ⟨b, j, none⟩ = some (.int k n)) : cellInt24 w b j = n := by unfold cellInt24; rw [h]
theorem only_put {U V : World} {p : Nat} (h : Only p U V) (j : Nat) (v : Value) : Only p U (V.setCell ⟨p, j, none⟩ v) := h.then (Only.set p j v V)
theorem set1 {U : World} {p : Nat} {c : Array Value} {T : TypeId} (h : U.heap[p]? = some (.cells c T (0, 0))) (j : Nat) (v : Value) : ∃ W2, U.setCell ⟨p, j, none⟩ v = W2 ∧ W2.heap[p]? = some (.cells (c.setIfInBounds j v) T (0, 0)) ∧ Only p U W2 :=
  ⟨_, rfl, held_set h j v, Only.set p j v U⟩
theorem set4 {U : World} {p : Nat} {v0 v1 v2 v3 : Value} {T : TypeId} (h : U.heap[p]? = some (.cells #[v0, v1, v2, v3] T (0, 0))) (u0 u1 u2 u3 : Value) :
    ∃ W2, (((U.setCell ⟨p, 0, none⟩ u0).setCell ⟨p, 1, none⟩ u1).setCell ⟨p, 2, none⟩ u2).setCell ⟨p, 3, none⟩ u3 = W2 ∧ W2.heap[p]? = some (.cells #[u0, u1, u2, u3] T (0, 0)) ∧ Only p U W2 := by
  have h4 := held_set (held_set (held_set (held_set h 0 u0) 1 u1) 2 u2) 3 u3
  exact ⟨_, rfl, h4, only_put (only_put (only_put (Only.set p 0 u0 U) 1 u1) 2 u2) 3 u3⟩
theorem set5 {U : World} {p : Nat} {v0 v1 v2 v3 v4 : Value} {T : TypeId} (h : U.heap[p]? = some (.cells #[v0, v1, v2, v3, v4] T (0, 0))) (u0 u1 u2 u3 u4 : Value) :
    ∃ W2, ((((U.setCell ⟨p, 0, none⟩ u0).setCell ⟨p, 1, none⟩ u1).setCell ⟨p, 2, none⟩ u2).setCell ⟨p, 3, none⟩ u3).setCell ⟨p, 4, none⟩ u4 = W2 ∧ W2.heap[p]? = some (.cells #[u0, u1, u2, u3, u4] T (0, 0)) ∧ Only p U W2 := by
  have h4 := held_set (held_set (held_set (held_set (held_set h 0 u0) 1 u1) 2 u2) 3 u3) 4 u4
  exact ⟨_, rfl, h4, only_put (only_put (only_put (only_put (Only.set p 0 u0 U) 1 u1) 2 u2) 3 u3) 4 u4⟩
theorem heldC {w w' : World} {p q : Nat} {o : Obj} (hO : Only p w w') (hne : q ≠ p) (h : w.heap[q]? = some o) : w'.heap[q]? = some o := by rw [hO.block q hne]; exact h
theorem belowC {B : Nat} {w0 w w' : World} {p : Nat} (h : Below B w0 w) (hO : Only p w w') (hp : B ≤ p) : Below B w0 w' := h.trans ⟨hO.os, hO.tape, hO.output, by rw [hO.size]; exact Nat.le_refl _, fun k hk => hO.block k (by omega)⟩
theorem of_at {y m Y M D : Int} (y1 : 2000 ≤ y) (y2 : y ≤ 2099) (m1 : 1 ≤ m) (m2 : m ≤ 12) (Y1 : 2000 ≤ Y) (Y2 : Y ≤ y) (M1 : 1 ≤ M) (M2 : M ≤ 12) (M3 : Y = y → M ≤ m) (c1 : cumM y m ≤ D) (c2 : D < cumM y (m + 1)) :
    (Y = y ∧ M = m ∧ D - cumM Y M + 1 ≤ daysS M Y ∧ 1 ≤ D - cumM Y M + 1) ∨ (daysS M Y < D - cumM Y M + 1 ∧ 28 ≤ daysS M Y ∧ M = 12 ∧ Y + 1 ≤ y ∧ D - cumM Y M + 1 - daysS M Y = D - cumM (Y + 1) 1 + 1) ∨ (daysS M Y < D - cumM Y M + 1 ∧ 28 ≤ daysS M Y ∧ M < 12 ∧ (Y = y → M + 1 ≤ m) ∧ D - cumM Y M + 1 - daysS M Y = D - cumM Y (M + 1) + 1) := by
  have hs := cum_step M1 M2 Y1 (by omega)
  have hp := days_pos M1 M2 Y1 (by omega)
  by_cases c : Y = y ∧ M = m
  · obtain ⟨rfl, rfl⟩ := c
    exact .inl ⟨rfl, rfl, by omega, by omega⟩
  · have hl : Y < y ∨ (Y = y ∧ M < m) := by omega
    have hc := cum_lt Y1 (by omega) M1 M2 y1 y2 m1 m2 hl
    by_cases d : M = 12
    · subst d
      have hy := cum_year Y
      have hs2 : cumM Y 13 = cumM Y 12 + daysS 12 Y := hs
      have hc2 : cumM Y 13 ≤ cumM y m := hc
      clear hs
      exact .inr (.inl ⟨by omega, hp, rfl, by omega, by omega⟩)
    · exact .inr (.inr ⟨by omega, hp, by omega, by omega, by omega⟩)
end Go.Proofs.YtobgibmpodggkaaDoor
