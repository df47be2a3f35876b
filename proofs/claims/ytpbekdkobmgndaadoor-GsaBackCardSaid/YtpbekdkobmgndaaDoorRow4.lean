/- Rows of fields: the papers', written. -/
import Derived.Test.YtpbekdkobmgndaaDoorRow
import Derived.Test.YtpbekdkobmgndaaDoorRow2
import Derived.Test.YtpbekdkobmgndaaDoorDec2
import Derived.Test.YtpbekdkobmgndaaDoorDec13
import Derived.Lib.LazyBuf
import Derived.Deep.DeepCutAuto
namespace Go.Proofs.YtpbekdkobmgndaaDoor
open Go.ChangeShapes Go.WideShapes Go.ChangeAt Go.RowKit
set_option linter.unusedVariables false
set_option linter.unusedSimpArgs false

theorem els_two (w : World) (x y : Value) (E : TypeId) : Els (w.alloc (.cells #[x, y] E)) 1 (some ⟨w.heap.size, 0, none⟩) 2 2 [[x], [y]] := by
  refine ⟨rfl, Nat.le_refl _, by unfold maxLen; omega, (fun e => by cases e), fun i z hz => ?_⟩
  have hA := (alloc_new w (.cells #[x, y] E)).2.2
  match i, hz with
  | 0, hz => 
    simp at hz; subst hz
    refine ⟨rfl, _, 0, rfl, fun j v hj => ?_⟩
    match j, hj with
    | 0, hj => exact held_cell hA 0 v (by simpa using hj)
    | j + 1, hj => simp at hj
  | 1, hz =>
    simp at hz; subst hz
    refine ⟨rfl, _, 0, rfl, fun j v hj => ?_⟩
    match j, hj with
    | 0, hj => exact held_cell hA 1 v (by simpa using hj)
    | j + 1, hj => simp at hj
  | i + 2, hz => simp at hz
end Go.Proofs.YtpbekdkobmgndaaDoor
