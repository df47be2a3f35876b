/- Package clock: the pairs of digits. -/
import Derived.Test.YtobgibmpodggkaaGreatDoorClock4
import Derived.Test.YtobgibmpodggkaaGreatDoorKA
import Derived.Test.YtobgibmpodggkaaGreatDoorKB
import Derived.Deep.DeepCutAuto
namespace Go.Proofs.YtobgibmpodggkaaGreatDoor
open Go.ChangeShapes Go.WideShapes Go.ChangeAt Go.RowKit
set_option linter.unusedVariables false

theorem sb_extract (s : ByteArray) (i j : Nat) : sb (s.extract i j) = ((sb s).take j).drop i := by
  unfold sb
  rw [ByteArray.data_extract, Array.toList_extract]
  rw [List.extract_eq_take_drop]
  simp [List.map_take, List.map_drop, List.drop_take]
def dgB (c : Nat) : Bool := decide (48 ≤ c) && decide (c ≤ 57)
theorem dgB_yes {c : Nat} (h1 : 48 ≤ c) (h2 : c ≤ 57) : dgB c = true := by unfold dgB; simp [h1, h2]
theorem dgB_iff {c : Nat} : dgB c = true ↔ 48 ≤ c ∧ c ≤ 57 := by unfold dgB; simp
def pairN (a b : Nat) : Int := 10 * ((a : Int) - 48) + ((b : Int) - 48)
/-- What the pairs of a text's digits are. -/
def prS : List Nat → List (Int × Bool)
  | a :: b :: r => if dgB a && dgB b then (pairN a b, true) :: prS r else [(0, false)]
  | [_] => [(0, false)]
  | [] => []
theorem prS_yes {a b : Nat} (r : List Nat) (h : (dgB a && dgB b) = true) : prS (a :: b :: r) = (pairN a b, true) :: prS r := by rw [prS, if_pos h]
theorem prS_no {a b : Nat} (r : List Nat) (h : (dgB a && dgB b) = false) : prS (a :: b :: r) = [(0, false)] := by rw [prS, h]; rfl
theorem sb_two (t : ByteArray) (h : 2 ≤ t.size) : ∃ a b : Nat, sb t = a :: b :: sb (t.extract 2 t.size) ∧ (t[0]'(by omega)).toNat = a ∧ (t[1]'(by omega)).toNat = b ∧ a < 256 ∧ b < 256 := by
  refine ⟨_, _, ?_, rfl, rfl, UInt8.toNat_lt _, UInt8.toNat_lt _⟩
  have h0 := sb_drop t 0 (by omega)
  have h1 := sb_drop t 1 (by omega)
  rw [List.drop_zero] at h0
  rw [sb_extract, List.take_of_length_le (by rw [sb_len]; omega)]
  rw [h0, Nat.zero_add, h1]
  rfl
theorem sb_one (t : ByteArray) (h : t.size = 1) : ∃ a : Nat, sb t = [a] := by
  have h0 := sb_drop t 0 (by omega)
  rw [List.drop_zero, sb_end t (0 + 1) (by omega)] at h0
  exact ⟨_, h0⟩
theorem sb_none (t : ByteArray) (h : t.size = 0) : sb t = [] := by
  have := sb_end t 0 (by omega)
  rwa [List.drop_zero] at this
theorem emp_iff (t : ByteArray) : t.toList.isEmpty = decide (t.size = 0) := by
  rw [ByteArray.toList_eq]
  have h : t.data.toList.length = t.size := by simp
  cases e : t.data.toList with
  | nil => rw [e] at h; simp at h; simp [← h]
  | cons a r => rw [e] at h; simp at h; have : t.size ≠ 0 := by omega
                simp [this]
def strAt (w : World) (b : Nat) : Nat := match w.cell? ⟨b, 0, none⟩ with | some (.string t) => t.size | _ => 0
theorem strAt_of {w : World} {b : Nat} {t : ByteArray} (h : w.cell? ⟨b, 0, none⟩ = some (.string t)) : strAt w b = t.size := by unfold strAt; rw [h]
theorem eff_setC {B : Nat} {A : World} (v : Value) : Eff B A (A.setCell ⟨B, 0, none⟩ v) := ⟨rfl, rfl, rfl, by simp, fun k hk hn => Below.heap_setCell A ⟨B, 0, none⟩ v k hn⟩
end Go.Proofs.YtobgibmpodggkaaGreatDoor
