/- Package vec: Dot. -/
import Derived.Test.YtpdpcdifnlellaaGreatVec5
namespace Go.Proofs.YtpdpcdifnlellaaGreat
open Go.ChangeShapes Go.WideShapes Go.ChangeAt Go.RowKit
set_option linter.unusedVariables false

theorem six (w : World) (T : TypeId) (v0 v1 v2 v3 v4 v5 : Value) : (w.alloc (.cells #[v0, v1, v2, v3, v4, v5] T)).heap[w.heap.size]? = some (.cells #[v0, v1, v2, v3, v4, v5] T) := heap_new _ _ _ rfl
/-- Block b is just six cells, and may be written. -/
def Six (T : TypeId) (w : World) (b : Nat) (v0 v1 v2 v3 v4 v5 : Value) : Prop := w.heap[b]? = some (.cells #[v0, v1, v2, v3, v4, v5] T (0, 0))
theorem Six.below {T : TypeId} {w w' : World} {b : Nat} {v0 v1 v2 v3 v4 v5 : Value} (h : Six T w b v0 v1 v2 v3 v4 v5) (hb : Below w.heap.size w w') : Six T w' b v0 v1 v2 v3 v4 v5 := by
  unfold Six at *
  have hl : b < w.heap.size := by
    rcases Nat.lt_or_ge b w.heap.size with hl | hl
    · exact hl
    · rw [Array.getElem?_eq_none hl] at h; cases h
  rw [hb.block b hl]; exact h
theorem Six.cells {T : TypeId} {w : World} {b : Nat} {v0 v1 v2 v3 v4 v5 : Value} (h : Six T w b v0 v1 v2 v3 v4 v5) : w.cell? ⟨b, 0, none⟩ = some v0 ∧ w.cell? ⟨b, 1, none⟩ = some v1 ∧ w.cell? ⟨b, 2, none⟩ = some v2 ∧ w.cell? ⟨b, 3, none⟩ = some v3 ∧ w.cell? ⟨b, 4, none⟩ = some v4 ∧ w.cell? ⟨b, 5, none⟩ = some v5 ∧ b < w.heap.size := by
  unfold Six at h
  refine ⟨by rw [cell_of_row w _ _ _ _ _ h]; rfl, by rw [cell_of_row w _ _ _ _ _ h]; rfl, by rw [cell_of_row w _ _ _ _ _ h]; rfl, by rw [cell_of_row w _ _ _ _ _ h]; rfl, by rw [cell_of_row w _ _ _ _ _ h]; rfl, by rw [cell_of_row w _ _ _ _ _ h]; rfl, ?_⟩
  rcases Nat.lt_or_ge b w.heap.size with hl | hl
  · exact hl
  · rw [Array.getElem?_eq_none hl] at h; cases h
theorem Six.free {T : TypeId} {w : World} {b : Nat} {v0 v1 v2 v3 v4 v5 : Value} (h : Six T w b v0 v1 v2 v3 v4 v5) (j : Nat) : w.frozen? ⟨b, j, none⟩ = false := frozen_of_row _ _ _ _ _ h
theorem Six.store {T : TypeId} {w : World} {b : Nat} {v0 v1 v2 v3 v4 v5 : Value} (h : Six T w b v0 v1 v2 v3 v4 v5) (u0 u1 u2 u3 u4 u5 : Value) :
    ∃ U, (((((w.setCell ⟨b, 0, none⟩ u0).setCell ⟨b, 1, none⟩ u1).setCell ⟨b, 2, none⟩ u2).setCell ⟨b, 3, none⟩ u3).setCell ⟨b, 4, none⟩ u4).setCell ⟨b, 5, none⟩ u5 = U ∧ Six T U b u0 u1 u2 u3 u4 u5 ∧ (∀ (B : Nat) (w0 : World), B ≤ b → Below B w0 w → Below B w0 U) ∧ (∀ (N : Nat) (X : List Nat), b ∈ X ∨ N ≤ b → Kp N X w U) := by
  refine ⟨_, rfl, ?_, ?_, ?_⟩
  · have e0 := heap_setCell_same w b 0 _ T u0 h
    have e1 := heap_setCell_same _ b 1 _ T u1 e0
    have e2 := heap_setCell_same _ b 2 _ T u2 e1
    have e3 := heap_setCell_same _ b 3 _ T u3 e2
    have e4 := heap_setCell_same _ b 4 _ T u4 e3
    have e5 := heap_setCell_same _ b 5 _ T u5 e4
    exact e5
  · intro B w0 hb h
    exact ((((((h.setCell (p := ⟨b, 0, none⟩) hb u0).setCell (p := ⟨b, 1, none⟩) hb u1).setCell (p := ⟨b, 2, none⟩) hb u2).setCell (p := ⟨b, 3, none⟩) hb u3).setCell (p := ⟨b, 4, none⟩) hb u4).setCell (p := ⟨b, 5, none⟩) hb u5)
  · intro N X h
    exact (Kp.setCell _ ⟨b, 0, none⟩ u0 h).trans ((Kp.setCell _ ⟨b, 1, none⟩ u1 h).trans ((Kp.setCell _ ⟨b, 2, none⟩ u2 h).trans ((Kp.setCell _ ⟨b, 3, none⟩ u3 h).trans ((Kp.setCell _ ⟨b, 4, none⟩ u4 h).trans (Kp.setCell _ ⟨b, 5, none⟩ u5 h)))))

end Go.Proofs.YtpdpcdifnlellaaGreat
