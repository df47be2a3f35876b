/- Package decim: TakeAngle, Degrees. -/
import Derived.Test.YtobgibmpodggkaaGreatDoorDec9
import Derived.Test.YtobgibmpodggkaaGreatDoorFix
import Derived.Test.YtobgibmpodggkaaGreatDoorFixRef
import Derived.Deep.DeepCutAuto
namespace Go.Proofs.YtobgibmpodggkaaGreatDoor
open Go.ChangeShapes Go.WideShapes Go.ChangeAt Go.RowKit
set_option linter.unusedVariables false
set_option linter.unusedSimpArgs false

def tkaX (m : Nat) : Nat := m / 10000000 * 6000000 + m % 10000000
def tkaO (o : Option Nat) (side : ByteArray) (lat : Bool) : Bool × Int × Int := match o with
  | none => (false, 0, 3)
  | some m => if side ≠ nb [sideA lat false] ∧ side ≠ nb [sideA lat true] then (false, 0, 3) else
    if 6000000 ≤ m % 10000000 ∨ farA lat < tkaX m then (false, 0, 5) else (true, if side = nb [sideA lat true] then -(tkaX m : Int) else (tkaX m : Int), 0)
theorem tkaO_no (side : ByteArray) (lat : Bool) : tkaO none side lat = (false, 0, 3) := rfl
theorem tkaO_some (m : Nat) (side : ByteArray) (lat : Bool) : tkaO (some m) side lat = if side ≠ nb [sideA lat false] ∧ side ≠ nb [sideA lat true] then (false, 0, 3) else
    if 6000000 ≤ m % 10000000 ∨ farA lat < tkaX m then (false, 0, 5) else (true, if side = nb [sideA lat true] then -(tkaX m : Int) else (tkaX m : Int), 0) := rfl
/-- The angle of two texts, and why there is none. -/
def tkaD (s side : ByteArray) (lat : Bool) : Bool × Int × Int :=
  if s.size = 0 ∧ side.size = 0 then (false, 0, 0) else tkaO (fixP (sb s) 0 (wideA lat + 2) (wideA lat + 2) 5) side lat
theorem ba_eq {a b : ByteArray} : (a.toList == b.toList) = decide (a = b) := by
  rw [ByteArray.toList_eq, ByteArray.toList_eq]
  by_cases h : a = b
  · subst h; simp
  · rw [decide_eq_false h]
    have : ¬ (a.data.toList = b.data.toList) := fun e => h (ByteArray.ext (Array.toList_inj.1 e))
    simpa using this
theorem ba_ne {a b : ByteArray} : (a.toList != b.toList) = !decide (a = b) := by unfold bne; rw [ba_eq]
theorem tka_w {m mm md X : Nat} (hm : m ≤ 1000000000001000000) (h1 : m % 10000000 = mm) (h2 : m / 10000000 = md) (h3 : md * 6000000 + mm = X) :
    ((m : Int)).tmod 10000000 = (mm : Int) ∧ ((m : Int)).tdiv 10000000 = (md : Int) ∧ IntKind.i64.wrap (mm : Int) = mm ∧ IntKind.i64.wrap (md : Int) = md ∧ IntKind.i64.wrap ((md : Int) * 6000000) = (md : Int) * 6000000 ∧
    IntKind.i64.wrap ((md : Int) * 6000000 + mm) = (X : Int) ∧ IntKind.i64.wrap (-(X : Int)) = -(X : Int) := by
  have b1 : mm < 10000000 := by omega
  have b2 : md ≤ 100000000001 := by omega
  have b3 : (X : Int) = (md : Int) * 6000000 + mm := by omega
  have b4 : (X : Int) ≤ 700000000000000000 := by omega
  refine ⟨?_, ?_, ?_, ?_, ?_, ?_, ?_⟩
  · rw [Int.tmod_eq_emod_of_nonneg (by omega)]; omega
  · rw [Int.tdiv_eq_ediv_of_nonneg (by omega)]; omega
  · rw [IntKind.wrap_i64] <;> omega
  · rw [IntKind.wrap_i64] <;> omega
  · rw [IntKind.wrap_i64] <;> omega
  · rw [← b3, IntKind.wrap_i64] <;> omega
  · rw [IntKind.wrap_i64] <;> omega
theorem ba_neT {a b : ByteArray} (h : a = b) : (a.toList == b.toList) = true ∧ (a.toList != b.toList) = false := by subst h; simp
theorem ba_neF {a b : ByteArray} (h : ¬ a = b) : (a.toList == b.toList) = false ∧ (a.toList != b.toList) = true := by rw [ba_ne, ba_eq, decide_eq_false h]; simp
theorem side_ne (lat : Bool) : nb [sideA lat false] ≠ nb [sideA lat true] := by cases lat <;> decide
theorem sides_to (lat : Bool) : (nb [sideA lat false, sideA lat true]).extract 0 1 = nb [sideA lat false] := by cases lat <;> decide
theorem sides_from (lat : Bool) : (nb [sideA lat false, sideA lat true]).extract 1 (nb [sideA lat false, sideA lat true]).size = nb [sideA lat true] := by cases lat <;> decide
def degV (n : Int) : Int := overS (5 * max (-1080000000) (min n 1080000000)) 3
end Go.Proofs.YtobgibmpodggkaaGreatDoor
