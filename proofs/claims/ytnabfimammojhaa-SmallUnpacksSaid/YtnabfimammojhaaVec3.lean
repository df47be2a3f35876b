/- Package vec and its reference: sums, differences, multiples, products. -/
import Derived.Test.YtnabfimammojhaaVec2
namespace Go.Proofs.Ytnabfimammojhaa
open Go.ChangeShapes Go.WideShapes Go.ChangeAt Go.RowKit
set_option linter.unusedVariables false

/-- Three new blocks of three cells. -/
theorem boxes (w : World) (T1 T2 T3 : TypeId) (a b c d e f g h i : Value) :
    ∃ W, ((w.alloc (.cells #[a, b, c] T1)).alloc (.cells #[d, e, f] T2)).alloc (.cells #[g, h, i] T3) = W ∧ Below w.heap.size w W ∧ w.heap.size + 3 ≤ W.heap.size ∧
    W.cell? ⟨w.heap.size, 0, none⟩ = some a ∧ W.cell? ⟨w.heap.size, 1, none⟩ = some b ∧ W.cell? ⟨w.heap.size, 2, none⟩ = some c ∧
    W.cell? ⟨w.heap.size + 1, 0, none⟩ = some d ∧ W.cell? ⟨w.heap.size + 1, 1, none⟩ = some e ∧ W.cell? ⟨w.heap.size + 1, 2, none⟩ = some f ∧
    W.cell? ⟨w.heap.size + 1 + 1, 0, none⟩ = some g ∧ W.cell? ⟨w.heap.size + 1 + 1, 1, none⟩ = some h ∧ W.cell? ⟨w.heap.size + 1 + 1, 2, none⟩ = some i ∧
    (∀ j, W.frozen? ⟨w.heap.size + 1, j, none⟩ = false) ∧ (∀ j, W.frozen? ⟨w.heap.size + 1 + 1, j, none⟩ = false) := by
  generalize ho1 : Obj.cells #[a, b, c] T1 = o1
  generalize ho2 : Obj.cells #[d, e, f] T2 = o2
  generalize ho3 : Obj.cells #[g, h, i] T3 = o3
  have e1 : (w.alloc o1).heap.size = w.heap.size + 1 := by simp
  have e2 : ((w.alloc o1).alloc o2).heap.size = w.heap.size + 1 + 1 := by simp
  have e3 : (((w.alloc o1).alloc o2).alloc o3).heap.size = w.heap.size + 1 + 1 + 1 := by simp
  have h1 : (((w.alloc o1).alloc o2).alloc o3).heap[w.heap.size]? = some o1 := by
    rw [Below.heap_alloc _ _ _ (by omega), Below.heap_alloc _ _ _ (by omega)]; exact heap_new _ _ _ rfl
  have h2 : (((w.alloc o1).alloc o2).alloc o3).heap[w.heap.size + 1]? = some o2 := by
    rw [Below.heap_alloc _ _ _ (by omega)]; exact heap_new _ _ _ e1.symm
  have h3 : (((w.alloc o1).alloc o2).alloc o3).heap[w.heap.size + 1 + 1]? = some o3 := heap_new _ _ _ e2.symm
  have hb : Below w.heap.size w (((w.alloc o1).alloc o2).alloc o3) := (((Below.refl _ _).alloc (Nat.le_refl _) _).alloc (by simp) _).alloc (by simp; omega) _
  refine ⟨_, rfl, hb, by omega, ?_⟩
  generalize ((w.alloc o1).alloc o2).alloc o3 = W at *
  subst ho1 ho2 ho3
  exact ⟨by rw [cell_of_row W _ _ _ _ _ h1]; rfl, by rw [cell_of_row W _ _ _ _ _ h1]; rfl, by rw [cell_of_row W _ _ _ _ _ h1]; rfl, by rw [cell_of_row W _ _ _ _ _ h2]; rfl, by rw [cell_of_row W _ _ _ _ _ h2]; rfl, by rw [cell_of_row W _ _ _ _ _ h2]; rfl, by rw [cell_of_row W _ _ _ _ _ h3]; rfl, by rw [cell_of_row W _ _ _ _ _ h3]; rfl, by rw [cell_of_row W _ _ _ _ _ h3]; rfl, fun j => frozen_of_row W _ _ _ _ h2, fun j => frozen_of_row W _ _ _ _ h3⟩
theorem boxes2 (w : World) (T1 T2 : TypeId) (a b c d e f : Value) :
    ∃ W, (w.alloc (.cells #[a, b, c] T1)).alloc (.cells #[d, e, f] T2) = W ∧ Below w.heap.size w W ∧ w.heap.size + 2 ≤ W.heap.size ∧
    W.cell? ⟨w.heap.size, 0, none⟩ = some a ∧ W.cell? ⟨w.heap.size, 1, none⟩ = some b ∧ W.cell? ⟨w.heap.size, 2, none⟩ = some c ∧
    W.cell? ⟨w.heap.size + 1, 0, none⟩ = some d ∧ W.cell? ⟨w.heap.size + 1, 1, none⟩ = some e ∧ W.cell? ⟨w.heap.size + 1, 2, none⟩ = some f ∧
    (∀ j, W.frozen? ⟨w.heap.size, j, none⟩ = false) ∧ (∀ j, W.frozen? ⟨w.heap.size + 1, j, none⟩ = false) := by
  generalize ho1 : Obj.cells #[a, b, c] T1 = o1
  generalize ho2 : Obj.cells #[d, e, f] T2 = o2
  have e1 : (w.alloc o1).heap.size = w.heap.size + 1 := by simp
  have e2 : ((w.alloc o1).alloc o2).heap.size = w.heap.size + 1 + 1 := by simp
  have h1 : ((w.alloc o1).alloc o2).heap[w.heap.size]? = some o1 := by
    rw [Below.heap_alloc _ _ _ (by omega)]; exact heap_new _ _ _ rfl
  have h2 : ((w.alloc o1).alloc o2).heap[w.heap.size + 1]? = some o2 := heap_new _ _ _ e1.symm
  have hb : Below w.heap.size w ((w.alloc o1).alloc o2) := ((Below.refl _ _).alloc (Nat.le_refl _) _).alloc (by simp) _
  refine ⟨_, rfl, hb, by omega, ?_⟩
  generalize (w.alloc o1).alloc o2 = W at *
  subst ho1 ho2
  exact ⟨by rw [cell_of_row W _ _ _ _ _ h1]; rfl, by rw [cell_of_row W _ _ _ _ _ h1]; rfl, by rw [cell_of_row W _ _ _ _ _ h1]; rfl, by rw [cell_of_row W _ _ _ _ _ h2]; rfl, by rw [cell_of_row W _ _ _ _ _ h2]; rfl, by rw [cell_of_row W _ _ _ _ _ h2]; rfl, fun j => frozen_of_row W _ _ _ _ h1, fun j => frozen_of_row W _ _ _ _ h2⟩
theorem kp3 (N : Nat) (X : List Nat) (U : World) (b : Nat) (x y z : Value) (h : b ∈ X ∨ N ≤ b) : Kp N X U (((U.setCell ⟨b, 0, none⟩ x).setCell ⟨b, 1, none⟩ y).setCell ⟨b, 2, none⟩ z) :=
  (Kp.setCell U ⟨b, 0, none⟩ x h).trans ((Kp.setCell _ ⟨b, 1, none⟩ y h).trans (Kp.setCell _ ⟨b, 2, none⟩ z h))
theorem below3 {B : Nat} {w U : World} (hb : Below B w U) (b : Nat) (x y z : Value) (h : B ≤ b) : Below B w (((U.setCell ⟨b, 0, none⟩ x).setCell ⟨b, 1, none⟩ y).setCell ⟨b, 2, none⟩ z) :=
  ((hb.setCell (p := ⟨b, 0, none⟩) h x).setCell (p := ⟨b, 1, none⟩) h y).setCell (p := ⟨b, 2, none⟩) h z

end Go.Proofs.Ytnabfimammojhaa
