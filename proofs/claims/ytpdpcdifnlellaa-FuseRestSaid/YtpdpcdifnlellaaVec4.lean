/- Package vec and its reference: multiples, products, lengths. -/
import Derived.Test.YtpdpcdifnlellaaVec3
namespace Go.Proofs.Ytpdpcdifnlellaa
open Go.ChangeShapes Go.WideShapes Go.ChangeAt Go.RowKit
set_option linter.unusedVariables false

theorem store3 (U : World) (b : Nat) (x y z u0 u1 u2 : Value) (e0 : U.cell? ⟨b, 0, none⟩ = some u0) (e1 : U.cell? ⟨b, 1, none⟩ = some u1) (e2 : U.cell? ⟨b, 2, none⟩ = some u2) :
    ∃ U', ((U.setCell ⟨b, 0, none⟩ x).setCell ⟨b, 1, none⟩ y).setCell ⟨b, 2, none⟩ z = U' ∧ U'.cell? ⟨b, 0, none⟩ = some x ∧ U'.cell? ⟨b, 1, none⟩ = some y ∧ U'.cell? ⟨b, 2, none⟩ = some z ∧
      (∀ b' j, b' ≠ b → U'.cell? ⟨b', j, none⟩ = U.cell? ⟨b', j, none⟩) ∧ (∀ p, U'.frozen? p = U.frozen? p) ∧ (∀ (B : Nat) (w : World), B ≤ b → Below B w U → Below B w U') ∧ U'.heap.size = U.heap.size := by
  have n01 : (⟨b, 0, none⟩ : Addr) ≠ ⟨b, 1, none⟩ := by intro h; cases h
  have n02 : (⟨b, 0, none⟩ : Addr) ≠ ⟨b, 2, none⟩ := by intro h; cases h
  have n12 : (⟨b, 1, none⟩ : Addr) ≠ ⟨b, 2, none⟩ := by intro h; cases h
  refine ⟨_, rfl, ?_, ?_, ?_, ?_, ?_, fun B w h hb => below3 hb b x y z h, by simp⟩
  · rw [World.cell?_setCell_other _ _ _ _ n02.symm, World.cell?_setCell_other _ _ _ _ n01.symm, World.cell?_setCell_same _ _ _ e0]
  · rw [World.cell?_setCell_other _ _ _ _ n12.symm, World.cell?_setCell_same _ _ _ (u := u1)]
    rw [World.cell?_setCell_other _ _ _ _ n01]; exact e1
  · rw [World.cell?_setCell_same _ _ _ (u := u2)]
    rw [World.cell?_setCell_other _ _ _ _ n12, World.cell?_setCell_other _ _ _ _ n02]; exact e2
  · intro b' j h
    have hn : ∀ i, (⟨b, i, none⟩ : Addr) ≠ ⟨b', j, none⟩ := fun i e => h (congrArg Addr.block e).symm
    rw [World.cell?_setCell_other _ _ _ _ (hn 2), World.cell?_setCell_other _ _ _ _ (hn 1), World.cell?_setCell_other _ _ _ _ (hn 0)]
  · intro p; rw [World.frozen?_setCell, World.frozen?_setCell, World.frozen?_setCell]

end Go.Proofs.Ytpdpcdifnlellaa
