/- Rows of fields: the papers', read. -/
import Derived.Test.YtpbekdkobmgndaaDoorRow3
import Derived.Test.YtpbekdkobmgndaaDoorRow4
import Derived.Test.YtpbekdkobmgndaaDoorDec8
import Derived.Test.YtpbekdkobmgndaaDoorDec12
import Derived.Deep.DeepCutAuto
namespace Go.Proofs.YtpbekdkobmgndaaDoor
open Go.ChangeShapes Go.WideShapes Go.ChangeAt Go.RowKit
set_option linter.unusedVariables false
set_option linter.unusedSimpArgs false

/-- Texts stay where a block without any changes. -/
theorem els_off24 {w w' : World} {p : Nat} {a : Option Addr} {len cap : Nat} {F : List ByteArray} {v : Bool} {n : Int} {T : TypeId} (h : Els w 1 a len cap (strV23 F)) (hp : w.heap[p]? = some (.cells #[.bool v, .int .i64 n] T (0, 0))) (k : Only p w w') : Els w' 1 a len cap (strV23 F) := by
  refine ⟨h.1, h.2.1, h.2.2.1, h.2.2.2.1, fun i x hx => ?_⟩
  · obtain ⟨h1, b, off, e, hc⟩ := h.2.2.2.2 i x hx
    refine ⟨h1, b, off, e, fun j u hj => ?_⟩
    have hb : b ≠ p := by
      intro e2
      subst e2
      have hc2 := hc j u hj
      rw [cell_of_row w b (off + i * 1 + j) _ T (0, 0) hp] at hc2
      obtain ⟨f, -, rfl⟩ : ∃ f, f ∈ F ∧ strC23 f = x := by
        have := List.mem_of_getElem? hx
        exact List.mem_map.1 this
      have hu : u = .string f := by
        match j, hj with
        | 0, hj => simpa [strC23] using hj.symm
        | j + 1, hj => simp [strC23] at hj
      subst hu
      generalize off + i * 1 + j = q at hc2
      match q, hc2 with
      | 0, hc2 => simp at hc2
      | 1, hc2 => simp at hc2
      | q + 2, hc2 => simp at hc2
    exact (World.cell?_of_block (w := w) (a := ⟨b, off + i * 1 + j, none⟩) (k.block b hb)).trans (hc j u hj)
end Go.Proofs.YtpbekdkobmgndaaDoor
