/- Package vec and its reference: Unit. -/
import Derived.Test.YtpdpcdifnlellaaVec7
namespace Go.Proofs.Ytpdpcdifnlellaa
open Go.ChangeShapes Go.WideShapes Go.ChangeAt Go.RowKit
set_option linter.unusedVariables false

/-- An integer in memory. -/
def cellInt (w : World) (b j : Nat) : Int := match w.cell? ⟨b, j, none⟩ with | some (.int _ n) => n | _ => 0
theorem cellInt_of {w : World} {b j : Nat} {k : IntKind} {n : Int} (h : w.cell? ⟨b, j, none⟩ = some (.int k n)) : cellInt w b j = n := by unfold cellInt; rw [h]
def room (w : World) (b : Nat) : Nat := (12884901888 - ((cellInt w b 0).natAbs + (cellInt w b 1).natAbs + (cellInt w b 2).natAbs : Nat) : Int).toNat
theorem room_of {T : TypeId} {w : World} {b : Nat} {x y z : Int} (h : Row .i32 T w b [x, y, z]) : room w b = (12884901888 - (x.natAbs + y.natAbs + z.natAbs : Nat) : Int).toNat := by
  unfold room
  rw [cellInt_of (h.cellAt 0 (show 0 < 3 by omega)), cellInt_of (h.cellAt 1 (show 1 < 3 by omega)), cellInt_of (h.cellAt 2 (show 2 < 3 by omega))]
  rfl
theorem near3 {x y z : Int} (h : far3 x y z = false) : -1073741824 < x ∧ x < 1073741824 ∧ -1073741824 < y ∧ y < 1073741824 ∧ -1073741824 < z ∧ z < 1073741824 := by
  unfold far3 farP at h
  simp at h
  omega
/-- What a direction's search has come to. -/
def Reach (x y z X Y Z : Int) : Prop := ∃ j : Nat, j ≤ 33 ∧ dbl (33 - j) X Y Z = dbl 33 x y z ∧ 2 ^ j ≤ X.natAbs + Y.natAbs + Z.natAbs ∧ B32 X ∧ B32 Y ∧ B32 Z
theorem reach_start {x y z : Int} (h : ¬ (x = 0 ∧ y = 0 ∧ z = 0)) (p0 : B32 x) (p1 : B32 y) (p2 : B32 z) : Reach x y z x y z := ⟨0, by omega, rfl, by rw [Nat.pow_zero]; omega, p0, p1, p2⟩
theorem reach_more {x y z X Y Z : Int} (h : Reach x y z X Y Z) (hf : far3 X Y Z = false) : Reach x y z (2 * X) (2 * Y) (2 * Z) := by
  obtain ⟨j, h1, h2, h3, h4, h5, h6⟩ := h
  have hn := near3 hf
  have hj : j < 33 := by
    rcases Nat.lt_or_ge j 33 with h | h
    · exact h
    · have : 2 ^ 33 ≤ 2 ^ j := Nat.pow_le_pow_right (by omega) h
      have h33 : (2 : Nat) ^ 33 = 8589934592 := by decide
      omega
  refine ⟨j + 1, by omega, ?_, by rw [Nat.pow_succ]; omega, by unfold B32; omega, by unfold B32; omega, by unfold B32; omega⟩
  rw [← h2, show 33 - j = 33 - (j + 1) + 1 from by omega, dbl_near _ _ _ _ (by rw [hf]; decide)]
theorem reach_done {x y z X Y Z : Int} (h : Reach x y z X Y Z) (hf : far3 X Y Z = true) : dbl 33 x y z = (X, Y, Z) := by
  obtain ⟨j, h1, h2, _⟩ := h
  rw [← h2, dbl_far _ _ _ _ hf]
theorem reach_sum {x y z X Y Z : Int} (h : Reach x y z X Y Z) : 1 ≤ X.natAbs + Y.natAbs + Z.natAbs := by
  obtain ⟨j, h1, h2, h3, _⟩ := h
  have := Nat.two_pow_pos j
  omega
theorem reach_b {x y z X Y Z : Int} (h : Reach x y z X Y Z) : B32 X ∧ B32 Y ∧ B32 Z := by
  obtain ⟨j, h1, h2, h3, h4⟩ := h
  exact h4
theorem unit_no {x y z : Int} (h : x = 0 ∧ y = 0 ∧ z = 0) : unitT x y z = .tuple #[.agg #[.int .i32 0, .int .i32 0, .int .i32 0], .bool false] := if_pos h
theorem unit_yes {x y z X Y Z : Int} (h : ¬ (x = 0 ∧ y = 0 ∧ z = 0)) (hd : dbl 33 x y z = (X, Y, Z)) : unitT x y z = .tuple #[.agg #[.int .i32 (unitN (lengthS [X, Y, Z] : Nat) X), .int .i32 (unitN (lengthS [X, Y, Z] : Nat) Y), .int .i32 (unitN (lengthS [X, Y, Z] : Nat) Z)], .bool true] := by
  unfold unitT
  rw [if_neg h]
  unfold unitV unitL
  rw [hd]
theorem lengthS_lt (x y z : Int) : lengthS [x, y, z] < 4294967296 := by
  unfold lengthS
  exact sqrtS_lt _ (by have := sqs_le [x, y, z] 0 (by omega); omega)
theorem up_bd {X : Int} (h : B32 X) : -2305843009213693952 ≤ 1073741824 * X ∧ 1073741824 * X ≤ 2305843009213693952 := by unfold B32 at h; omega

theorem rows2 (w : World) (T1 T2 : TypeId) (x y z a b c : Int) :
    ∃ W, (w.alloc (.cells #[.int .i32 x, .int .i32 y, .int .i32 z] T1)).alloc (.cells #[.int .i32 a, .int .i32 b, .int .i32 c] T2) = W ∧ Below w.heap.size w W ∧ w.heap.size + 2 ≤ W.heap.size ∧
    Row .i32 T1 W w.heap.size [x, y, z] ∧ Row .i32 T2 W (w.heap.size + 1) [a, b, c] := by
  refine ⟨_, rfl, ((Below.refl _ _).alloc (Nat.le_refl _) _).alloc (by simp) _, by simp, ?_, ?_⟩
  · unfold Row; rw [Below.heap_alloc _ _ _ (by simp)]; exact heap_new _ _ _ rfl
  · exact heap_new _ _ _ (by simp)
theorem Row.three {k : IntKind} {E : TypeId} {w : World} {g : Nat} {x y z : Int} (h : Row k E w g [x, y, z]) : w.cell? ⟨g, 0, none⟩ = some (.int k x) ∧ w.cell? ⟨g, 1, none⟩ = some (.int k y) ∧ w.cell? ⟨g, 2, none⟩ = some (.int k z) ∧ w.frozen? ⟨g, 0, none⟩ = false ∧ w.frozen? ⟨g, 1, none⟩ = false ∧ w.frozen? ⟨g, 2, none⟩ = false :=
  ⟨h.cellAt 0 (show 0 < 3 by omega), h.cellAt 1 (show 1 < 3 by omega), h.cellAt 2 (show 2 < 3 by omega), h.free 0, h.free 1, h.free 2⟩
theorem Row.set3 {k : IntKind} {E : TypeId} {w : World} {g : Nat} {x y z : Int} (h : Row k E w g [x, y, z]) (a b c : Int) : Row k E (((w.setCell ⟨g, 0, none⟩ (.int k a)).setCell ⟨g, 1, none⟩ (.int k b)).setCell ⟨g, 2, none⟩ (.int k c)) g [a, b, c] := ((h.set 0 a).set 1 b).set 2 c
theorem Row.oth3 {k : IntKind} {E : TypeId} {w : World} {g g' : Nat} {zs : List Int} (h : Row k E w g zs) (hg : g ≠ g') (a b c : Value) : Row k E (((w.setCell ⟨g', 0, none⟩ a).setCell ⟨g', 1, none⟩ b).setCell ⟨g', 2, none⟩ c) g zs := by
  unfold Row at *; rw [Below.heap_setCell _ ⟨g', 2, none⟩ _ _ hg, Below.heap_setCell _ ⟨g', 1, none⟩ _ _ hg, Below.heap_setCell _ ⟨g', 0, none⟩ _ _ hg]; exact h

end Go.Proofs.Ytpdpcdifnlellaa
