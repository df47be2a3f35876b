/- Rows of fields: the papers', read. -/
import Derived.Test.YtobgibmpodggkaaDoorRow3
import Derived.Test.YtobgibmpodggkaaDoorRow4
import Derived.Test.YtobgibmpodggkaaDoorDec8
import Derived.Test.YtobgibmpodggkaaDoorDec12
import Derived.Deep.DeepCutAuto
namespace Go.Proofs.YtobgibmpodggkaaDoor
open Go.ChangeShapes Go.WideShapes Go.ChangeAt Go.RowKit
set_option linter.unusedVariables false
set_option linter.unusedSimpArgs false

/-- Texts stay where a block without any changes. -/
theorem els_off24 {w w' : World} {p : Nat} {a : Option Addr} {len cap : Nat} {F : List ByteArray} {v : Bool} {n : Int} {T : TypeId} (h : Els w 1 a len cap (strV23 F)) (hp : w.heap[p]? = some (.cells #[.bool v, .int .i64 n] T (0, 0))) (k : Only p w w') : Els w' 1 a len cap (strV23 F) := by
  refine ⟨h.1, h.2.1, h.2.2.1, h.2.2.2.1, fun i x hx => ?_⟩
  · obtain ⟨h1, b, off, e, hc⟩ := h.2.2.2.2 i x hx
    refine ⟨h1, b, off, e, fun j u hj => ?_⟩
    have hb : b ≠ p := by
      intro e2
      subst e2
      have hc2 := hc j u hj
      rw [cell_of_row w b (off + i * 1 + j) _ T (0, 0) hp] at hc2
      obtain ⟨f, -, rfl⟩ : ∃ f, f ∈ F ∧ strC23 f = x := by
        have := List.mem_of_getElem? hx
        exact List.mem_map.1 this
      have hu : u = .string f := by
        match j, hj with
        | 0, hj => simpa [strC23] using hj.symm
        | j + 1, hj => simp [strC23] at hj
      subst hu
      generalize off + i * 1 + j = q at hc2
      match q, hc2 with
      | 0, hc2 => simp at hc2
      | 1, hc2 => simp at hc2
      | q + 2, hc2 => simp at hc2
    exact (World.cell?_of_block (w := w) (a := ⟨b, off + i * 1 + j, none⟩) (k.block b hb)).trans (hc j u hj)
theorem RowR.off {w w' : World} {B p : Nat} {e : Int} {L : List ByteArray} {v : Bool} {n : Int} (h : RowR w B e L) (k : Only p w w') (hp : w.heap[p]? = some (.cells #[.bool v, .int .i64 n] 64 (0, 0))) : RowR w' B e L := by
  obtain ⟨F, a, cap, i, h1, h2, h3, h4, h5, h6⟩ := h
  have hb : B ≠ p := by
    intro e2
    subst e2
    rw [h4] at hp
    cases hp
  exact ⟨F, a, cap, i, h1, h2, h3, (k.block B hb).trans h4, els_off24 h5 hp k, h6⟩
end Go.Proofs.YtobgibmpodggkaaDoor
