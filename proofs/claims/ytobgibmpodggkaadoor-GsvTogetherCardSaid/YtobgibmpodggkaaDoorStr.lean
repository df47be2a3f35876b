/- Strings: general. -/
import Derived.Test.YtobgibmpodggkaaDoorKA
import Derived.Laws.Concat
import Derived.Deep.DeepCutAuto
namespace Go.Proofs.YtobgibmpodggkaaDoor
open Go.ChangeShapes Go.WideShapes Go.ChangeAt Go.RowKit
set_option linter.unusedVariables false
set_option linter.unusedSimpArgs false

theorem tidx {P : Program} (t : TypeId) (ht : P.underlying t = some .string) (s : ByteArray) (i c : Nat) (hi : i < s.size) (hc : (sb s).getD i 0 = c) (k : IntKind) (I : Int) (eI : I = i) (w : World) : (Instr.index t (.string s) (.int k I)).run P w = .ok (.int .u8 (c : Int)) w := by
  subst eI
  rw [run_index_string w t s k i ht]
  have h : (0 : Int) ≤ (i : Int) ∧ (i : Int) < s.size := by omega
  rw [dif_pos h, ← hc, sb_get s i hi]
  rfl
theorem tto {P : Program} (t : TypeId) (ht : P.underlying t = some .string) (s : ByteArray) (h : Nat) (hh : h ≤ s.size) (k : IntKind) (H : Int) (eH : H = h) (w : World) : (Instr.slice t (.string s) none (some (.int k H)) none).run P w = .ok (.string (s.extract 0 h)) w := by
  subst eH
  rw [run_slice_string_to_if w t s k h ht, if_pos (by omega)]
  rfl
theorem tfrom {P : Program} (t : TypeId) (ht : P.underlying t = some .string) (s : ByteArray) (l : Nat) (hl : l ≤ s.size) (k : IntKind) (L : Int) (eL : L = l) (w : World) : (Instr.slice t (.string s) (some (.int k L)) none none).run P w = .ok (.string (s.extract l s.size)) w := by
  subst eL
  rw [run_slice_string_from_if w t s k l ht, if_pos (by omega)]
  rfl
theorem tadd {P : Program} (a b : ByteArray) (h : a.size + b.size ≤ 1000000) (w : World) : (Op.stringOp .add a b).run P w = .ok (.string (a ++ b)) w := run_string_add_sum w a b (by omega)
theorem tsb_extract (s : ByteArray) (i j : Nat) : sb (s.extract i j) = ((sb s).take j).drop i := by
  unfold sb
  rw [ByteArray.data_extract, Array.toList_extract]
  rw [List.extract_eq_take_drop]
  simp [List.map_take, List.map_drop, List.drop_take]
theorem tsb_app (s t : ByteArray) : sb (s ++ t) = sb s ++ sb t := by unfold sb; simp [ByteArray.data_append]

end Go.Proofs.YtobgibmpodggkaaDoor
