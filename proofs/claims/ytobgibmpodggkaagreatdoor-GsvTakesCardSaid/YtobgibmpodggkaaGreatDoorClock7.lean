/- Package clock: Take, TakeDate. -/
import Derived.Test.YtobgibmpodggkaaGreatDoorClock6
import Derived.Deep.DeepCutAuto
namespace Go.Proofs.YtobgibmpodggkaaGreatDoor
open Go.ChangeShapes Go.WideShapes Go.ChangeAt Go.RowKit
set_option linter.unusedVariables false

def clkNo (k : Int) : Value := .tuple #[.agg #[.bool false, .int .i64 0, .int .i64 0, .int .i64 0, .int .i64 0], .int .i64 k]
def datNo (k : Int) : Value := .tuple #[.agg #[.bool false, .int .i64 0, .int .i64 0, .int .i64 0], .int .i64 k]
def takeB (l : List Nat) : Bool := okAll (prS (l.take 6)) && (hunS (l.drop 6)).2
def takeV (l : List Nat) : Value := if l.length = 0 then clkNo 0 else if l.length < 6 then clkNo 3 else if takeB l = true then (if mayTB true (gN (prS (l.take 6)) 0) (gN (prS (l.take 6)) 1) (gN (prS (l.take 6)) 2) (hunS (l.drop 6)).1 = true then .tuple #[.agg #[.bool true, .int .i64 (gN (prS (l.take 6)) 0), .int .i64 (gN (prS (l.take 6)) 1), .int .i64 (gN (prS (l.take 6)) 2), .int .i64 (hunS (l.drop 6)).1], .int .i64 0] else clkNo 5) else clkNo 3
def takeD (l : List Nat) : Value := if l.length = 0 then datNo 0 else if l.length = 6 ∧ okAll (prS l) = true then (if mayDB true (gN (prS l) 0) (gN (prS l) 1) (2000 + gN (prS l) 2) = true then .tuple #[.agg #[.bool true, .int .i64 (gN (prS l) 0), .int .i64 (gN (prS l) 1), .int .i64 (2000 + gN (prS l) 2)], .int .i64 0] else datNo 5) else datNo 3
theorem three_form (P : List (Int × Bool)) : ∃ (a b c : Int) (ok : Bool), threeT P = .tuple #[.agg #[.int .i64 a, .int .i64 b, .int .i64 c], .bool ok] ∧ ok = okAll P ∧ (ok = true → a = gN P 0 ∧ b = gN P 1 ∧ c = gN P 2) := by
  unfold threeT
  cases h : okAll P
  · exact ⟨0, 0, 0, false, rfl, rfl, fun h => by cases h⟩
  · exact ⟨_, _, _, true, rfl, rfl, fun _ => ⟨rfl, rfl, rfl⟩⟩
theorem dg_bd {a : Nat} (h : dgB a = true) : 48 ≤ a ∧ a ≤ 57 := dgB_iff.1 h
theorem prS_bd : ∀ (n : Nat) (l : List Nat), l.length ≤ n → ∀ x ∈ prS l, 0 ≤ x.1 ∧ x.1 ≤ 99
  | _, [], _, x, hx => by simp [prS] at hx
  | _, [a], _, x, hx => by simp [prS] at hx; subst hx; decide
  | 0, a :: b :: r, h, _, _ => by simp at h
  | n + 1, a :: b :: r, h, x, hx => by
    unfold prS at hx
    split at hx
    case isTrue hd =>
      simp only [Bool.and_eq_true] at hd
      have h1 := dg_bd hd.1
      have h2 := dg_bd hd.2
      rw [List.mem_cons] at hx
      rcases hx with rfl | hx
      · unfold pairN; simp only; omega
      · exact prS_bd n r (by simp at h; omega) x hx
    case isFalse hd =>
      simp at hx; subst hx; decide
theorem gN_bd (l : List Nat) (i : Nat) : 0 ≤ gN (prS l) i ∧ gN (prS l) i ≤ 99 := by
  unfold gN
  rw [List.getD_eq_getElem?_getD, List.getElem?_map]
  cases h : (prS l)[i]? with
  | none => decide
  | some x => exact prS_bd _ l (Nat.le_refl _) x (List.mem_of_getElem? h)
end Go.Proofs.YtobgibmpodggkaaGreatDoor
