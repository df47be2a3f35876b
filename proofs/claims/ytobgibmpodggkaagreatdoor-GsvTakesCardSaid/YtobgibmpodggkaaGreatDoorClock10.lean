/- The papers' texts of numbers. -/
import Derived.Test.YtobgibmpodggkaaGreatDoorClock9
import Derived.Deep.DeepCutAuto
namespace Go.Proofs.YtobgibmpodggkaaGreatDoor
open Go.ChangeShapes Go.WideShapes Go.ChangeAt Go.RowKit
set_option linter.unusedVariables false

theorem sl_one24 (w : World) (x : Int) (E : TypeId) : Sl .u8 (w.alloc (.cells #[.int .u8 x] E)) (some ⟨w.heap.size, 0, none⟩) 1 1 [x] := ⟨rfl, Nat.le_refl _, by unfold maxLen; omega, (fun h => nomatch h), rd_one w .u8 x E⟩
def strL (v : Value) : Nat := match v with | .string t => t.size | _ => 0
def dAll (l : List Nat) : Bool := l.all dgB
theorem sb_take_all {s : ByteArray} {k : Nat} (hk : k < s.size) (h : dAll ((sb s).take k) = true) : dAll ((sb s).take (k + 1)) = dgB ((sb s).getD k 0) := by
  unfold dAll at *
  have hl : k < (sb s).length := by rw [sb_len]; exact hk
  rw [List.take_succ_eq_append_getElem hl, List.all_append, h, List.getD_eq_getElem?_getD, List.getElem?_eq_getElem hl]
  simp
theorem all_no {l : List Nat} {k : Nat} (h : dAll (l.take k) = false) : dAll l = false := by
  unfold dAll at *
  rw [← List.take_append_drop k l, List.all_append, h]; rfl
end Go.Proofs.YtobgibmpodggkaaGreatDoor
