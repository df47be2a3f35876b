/- Package gga: the small functions. -/
import Derived.Test.YtobgibmpodggkaaGreatDoorRow5
import Derived.Test.YtobgibmpodggkaaGreatDoorClock11
import Derived.Test.YtobgibmpodggkaaGreatDoorClock9
import Derived.Deep.DeepCutAuto
namespace Go.Proofs.YtobgibmpodggkaaGreatDoor
open Go.ChangeShapes Go.WideShapes Go.ChangeAt Go.RowKit
set_option linter.unusedVariables false
set_option linter.unusedSimpArgs false

/-- One digit, as a text, and why it is none. -/
def dgP (n lo hi : Int) : List Nat × Int := if n < lo ∨ hi < n then ([], 5) else ([48 + n.toNat], 0)
/-- The digit that a text is, and why it is none. -/
def dgS (s : ByteArray) (lo hi : Int) : Int × Int := if s.size = 1 ∧ 48 ≤ (sb s).getD 0 0 ∧ (sb s).getD 0 0 ≤ 57 then (((sb s).getD 0 0 : Int) - 48, if ((sb s).getD 0 0 : Int) - 48 < lo ∨ hi < ((sb s).getD 0 0 : Int) - 48 then 5 else 0) else (0, 3)
/-- What is wrong with a unit behind a number. -/
def unE (s u : ByteArray) (is : Bool) : Int := if s ≠ u ∧ (s.size ≠ 0 ∨ is = true) then 3 else 0
theorem takeV_form (l : List Nat) : ∃ (b : Bool) (h m s c k : Int), takeV l = .tuple #[.agg #[.bool b, .int .i64 h, .int .i64 m, .int .i64 s, .int .i64 c], .int .i64 k] ∧ 0 ≤ k ∧ k ≤ 9 ∧ (k ≠ 0 → b = false ∧ h = 0 ∧ m = 0 ∧ s = 0 ∧ c = 0) := by
  unfold takeV clkNo
  split
  · exact ⟨_, _, _, _, _, _, rfl, by decide, by decide, by decide⟩
  · split
    · exact ⟨_, _, _, _, _, _, rfl, by decide, by decide, by decide⟩
    · split
      · split
        · exact ⟨_, _, _, _, _, _, rfl, by decide, by decide, fun h => absurd rfl h⟩
        · exact ⟨_, _, _, _, _, _, rfl, by decide, by decide, by decide⟩
      · exact ⟨_, _, _, _, _, _, rfl, by decide, by decide, by decide⟩
theorem putV_form (b : Bool) (h m s c : Int) : ∃ (S : ByteArray) (k : Int), putV b h m s c = .tuple #[.string S, .int .i64 k] ∧ 0 ≤ k ∧ k ≤ 9 := by
  unfold putV
  split
  · split
    · exact ⟨_, _, rfl, by decide, by decide⟩
    · exact ⟨_, _, rfl, by decide, by decide⟩
  · exact ⟨_, _, rfl, by decide, by decide⟩
theorem etextC (B : Nat) (e : Int) (s : ByteArray) (R : List ByteArray) (w : World) (hP : EyeIn w B e (s :: R)) (hl : (s :: R).length ≤ 1000) : Calls Tryz.prog 15 #[.pointer (some ⟨B, 0, none⟩)] w fun r w' => r = .returned (.string s) ∧ EyeIn w' B e R ∧ Eff B w w' := etext_any B e (s :: R) w hP hl
theorem rtextC (B : Nat) (e : Int) (s : ByteArray) (R : List ByteArray) (w : World) (hP : RowR w B e (s :: R)) : Calls Tryz.prog 42 #[.pointer (some ⟨B, 0, none⟩)] w fun r w' => r = .returned (.string s) ∧ RowR w' B e R ∧ Eff B w w' := rtaketext_any B e (s :: R) w hP
end Go.Proofs.YtobgibmpodggkaaGreatDoor
