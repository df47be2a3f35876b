/- Package clock: Put, PutDate. -/
import Derived.Test.YtobgibmpodggkaaGreatDoorClock8
import Derived.Test.YtobgibmpodggkaaGreatDoorKA
import Derived.Deep.DeepCutAuto
namespace Go.Proofs.YtobgibmpodggkaaGreatDoor
open Go.ChangeShapes Go.WideShapes Go.ChangeAt Go.RowKit
set_option linter.unusedVariables false

theorem textOf_size (zs : List Int) : (textOf zs).size = zs.length := by
  have h : (textOf zs).data.toList.length = (zs.map (fun n => UInt8.ofNat n.toNat)).length := by rw [textOf_data]
  simpa using h
theorem cba_eq {a b : ByteArray} (h : a.data.toList = b.data.toList) : a = b := by
  cases a; cases b; simp only at h; congr; exact Array.ext' h
theorem textOf_app (a b : List Int) : textOf a ++ textOf b = textOf (a ++ b) := by
  apply cba_eq
  rw [ByteArray.data_append, Array.toList_append, textOf_data, textOf_data, textOf_data, List.map_append]
theorem textOf_nil : textOf [] = ⟨#[]⟩ := rfl
theorem sb_textOf (zs : List Int) (h : ∀ n ∈ zs, 0 ≤ n ∧ n ≤ 255) : sb (textOf zs) = zs.map Int.toNat := by
  unfold sb
  rw [textOf_data, List.map_map]
  apply List.map_congr_left
  intro n hn
  have := h n hn
  show (UInt8.ofNat n.toNat).toNat = n.toNat
  rw [UInt8.toNat_ofNat', Nat.mod_eq_of_lt (by omega)]
def d2 (n : Int) : ByteArray := textOf [48 + n / 10, 48 + n % 10]
def d1 (n : Int) : ByteArray := textOf [48 + n]
theorem d2_size (n : Int) : (d2 n).size = 2 := textOf_size _
theorem d1_size (n : Int) : (d1 n).size = 1 := textOf_size _
def putT (h m s c : Int) : ByteArray := if c = 0 then d2 h ++ d2 m ++ d2 s else if c % 10 = 0 then d2 h ++ d2 m ++ d2 s ++ { data := #[46] } ++ d1 (c / 10) else d2 h ++ d2 m ++ d2 s ++ { data := #[46] } ++ d2 c
def putV (b : Bool) (h m s c : Int) : Value := if mayTB b h m s c = true then (if b = true then .tuple #[.string (putT h m s c), .int .i64 0] else .tuple #[.string { data := #[] }, .int .i64 0]) else .tuple #[.string { data := #[] }, .int .i64 5]
def putDt (b : Bool) (d m y : Int) : Value := if mayDB b d m y = true then (if b = true then .tuple #[.string (d2 d ++ d2 m ++ d2 (y - 2000)), .int .i64 0] else .tuple #[.string { data := #[] }, .int .i64 0]) else .tuple #[.string { data := #[] }, .int .i64 5]
theorem d2_one (n : Int) : (d2 n).extract 0 1 = d1 (n / 10) := by
  apply cba_eq
  unfold d2 d1
  rw [ByteArray.data_extract, Array.toList_extract, textOf_data, textOf_data]
  rfl
theorem may_in {h i s c : Int} (ht : mayTB true h i s c = true) : 0 ≤ h ∧ h ≤ 23 ∧ 0 ≤ i ∧ i ≤ 59 ∧ 0 ≤ s ∧ s ≤ 59 ∧ 0 ≤ c ∧ c ≤ 99 := by
  unfold mayTB wnB at ht
  simp at ht
  omega
theorem mayd_in {d m y : Int} (h : mayDB true d m y = true) : 1 ≤ d ∧ d ≤ 31 ∧ 1 ≤ m ∧ m ≤ 12 ∧ 2000 ≤ y ∧ y ≤ 2099 := by
  have h2 := wnB_iff.1 (show wnB d 1 (daysS m y) = true from h)
  have h3 := daysS_pos (m := m) (y := y) (by omega)
  have h4 := daysS_b m y
  omega
end Go.Proofs.YtobgibmpodggkaaGreatDoor
