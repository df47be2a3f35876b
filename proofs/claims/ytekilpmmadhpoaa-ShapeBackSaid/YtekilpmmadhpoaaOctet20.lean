/- The reference of package octet: PutRaw, PutU, PutI. -/
import Derived.Test.YtekilpmmadhpoaaOctet19
namespace Go.Proofs.Ytekilpmmadhpoaa
open Go.ChangeShapes Go.WideShapes Go.ChangeAt Go.RowKit Go.Shelf
set_option linter.unusedVariables false

/-- What the reference tells: bytes, and whether it failed; they lie where they lay, or in a new block. -/
def PutOk (w : World) (a0 : Option Addr) (ok : Bool) (zs : List Int) (e : Ending) (w' : World) : Prop := ∃ a' len' cap', e = .returned (.agg #[.slice a' len' cap', .bool (!ok)]) ∧ Sl .u8 w' a' len' cap' zs ∧ After w w' ∧ ∀ p, a' = some p → a0 = some p ∨ w.heap.size ≤ p.block ∧ p.block < w'.heap.size

theorem rx_after {X : Option Nat} {W U : World} (h : After W U) : RX X W U := ⟨h.size, fun k hk _ => h.block k hk⟩
theorem two_new (V : World) (a b : Obj) : ((V.alloc a).alloc b).heap[V.heap.size]? = some a ∧ ((V.alloc a).alloc b).heap[V.heap.size + 1]? = some b ∧ ((V.alloc a).alloc b).heap.size = V.heap.size + 1 + 1 ∧ After V ((V.alloc a).alloc b) := by
  have h1 := World.alloc_heap_new V a
  have h2 := World.alloc_heap_new (V.alloc a) b
  simp only [World.size_alloc] at h2
  refine ⟨?_, h2, by simp only [World.size_alloc], ((Below.refl _ V).alloc (Nat.le_refl _) a).alloc (by simp) b⟩
  rw [Below.heap_alloc _ _ _ (by simp)]; exact h1
theorem own_where {k : IntKind} {E : TypeId} {w : World} {base : Nat} {a : Option Addr} {n cap : Nat} {zs : List Int} (h : Own k E w base (.slice a n cap) zs) : ∀ p, a = some p → base ≤ p.block ∧ p.block < w.heap.size := fun p e => World.ownsRow.lt h p.block (by rw [e]; rfl)

theorem two_set {U : World} {p : Nat} {v0 v1 u0 u1 : Value} {T : TypeId} (h : U.heap[p]? = some (.cells #[v0, v1] T (0, 0))) :
    ∃ W2, (U.setCell ⟨p, 0, none⟩ u0).setCell ⟨p, 1, none⟩ u1 = W2 ∧ W2.cell? ⟨p, 0, none⟩ = some u0 ∧ W2.cell? ⟨p, 1, none⟩ = some u1 ∧ W2.heap.size = U.heap.size ∧ Below p U W2 ∧ ∀ b, b ≠ p → W2.heap[b]? = U.heap[b]? := by
  have h1 := held_set h 0 u0
  have h2 := held_set h1 1 u1
  exact ⟨_, rfl, held_cell h2 0 _ rfl, held_cell h2 1 _ rfl, by simp [World.setCell], ((Below.refl p U).setCell (p := ⟨p, 0, none⟩) (Nat.le_refl _) u0).setCell (p := ⟨p, 1, none⟩) (Nat.le_refl _) u1, fun b hb => (Below.heap_setCell _ _ _ _ hb).trans (Below.heap_setCell _ _ _ _ hb)⟩

end Go.Proofs.Ytekilpmmadhpoaa
