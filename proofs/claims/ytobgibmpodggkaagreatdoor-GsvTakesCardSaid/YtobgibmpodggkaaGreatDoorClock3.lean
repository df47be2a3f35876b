/- Package clock: Count. -/
import Derived.Test.YtobgibmpodggkaaGreatDoorClock2
import Derived.Deep.DeepCutAuto
namespace Go.Proofs.YtobgibmpodggkaaGreatDoor
open Go.ChangeShapes Go.WideShapes Go.ChangeAt Go.RowKit
set_option linter.unusedVariables false

theorem held_on {w w' : World} {p : Nat} {o : Obj} (h : w.heap[p]? = some o) (hb : Below w.heap.size w w') : w'.heap[p]? = some o := by
  rw [hb.block p (held_lt h)]; exact h
theorem ret_val {a b : Value} (h : a = b) : Ending.returned a = .returned b := by rw [h]
theorem ret_n {a b : Int} {c : Bool} (h : a = b) : Ending.returned (.tuple #[.int .i64 a, .bool c]) = .returned (.tuple #[.int .i64 b, .bool c]) := by rw [h]
def mcL (m : Int) : Int := if m ≤ 1 then 0 else if m = 2 then 31 else if m = 3 then 59 else if m = 4 then 90 else if m = 5 then 120 else if m = 6 then 151 else if m = 7 then 181 else if m = 8 then 212 else if m = 9 then 243 else if m = 10 then 273 else if m = 11 then 304 else if m = 12 then 334 else 365
def lpM (y m : Int) : Int := if 3 ≤ m ∧ y % 4 = 0 then 1 else 0
def cumM (y m : Int) : Int := 365 * (y - 2000) + (y - 1997) / 4 + mcL m + lpM y m
theorem m12 {m : Int} (h1 : 1 ≤ m) (h2 : m ≤ 12) : m = 1 ∨ m = 2 ∨ m = 3 ∨ m = 4 ∨ m = 5 ∨ m = 6 ∨ m = 7 ∨ m = 8 ∨ m = 9 ∨ m = 10 ∨ m = 11 ∨ m = 12 := by omega
theorem daysS_in {m y : Int} (h1 : 1 ≤ m) (h2 : m ≤ 12) (h3 : 2000 ≤ y) (h4 : y ≤ 2099) : daysS m y = if m = 2 then (if y % 4 = 0 then 29 else 28) else if m = 4 ∨ m = 6 ∨ m = 9 ∨ m = 11 then 30 else 31 := by
  unfold daysS; rw [if_pos ⟨wnB_iff.2 ⟨h1, h2⟩, wnB_iff.2 ⟨h3, h4⟩⟩]
theorem daysS_pos {m y : Int} (h : 1 ≤ daysS m y) : 1 ≤ m ∧ m ≤ 12 ∧ 2000 ≤ y ∧ y ≤ 2099 := by
  by_cases c : wnB m 1 12 = true ∧ wnB y 2000 2099 = true
  · have h1 := wnB_iff.1 c.1
    have h2 := wnB_iff.1 c.2
    exact ⟨h1.1, h1.2, h2.1, h2.2⟩
  · unfold daysS at h; rw [if_neg c] at h; omega
theorem cum_step {y m : Int} (h1 : 1 ≤ m) (h2 : m ≤ 12) (h3 : 2000 ≤ y) (h4 : y ≤ 2099) : cumM y (m + 1) = cumM y m + daysS m y := by
  rw [daysS_in h1 h2 h3 h4]
  unfold cumM lpM
  by_cases c : y % 4 = 0
  · obtain rfl | rfl | rfl | rfl | rfl | rfl | rfl | rfl | rfl | rfl | rfl | rfl := m12 h1 h2 <;> simp [mcL, c] <;> omega
  · obtain rfl | rfl | rfl | rfl | rfl | rfl | rfl | rfl | rfl | rfl | rfl | rfl := m12 h1 h2 <;> simp [mcL, c] <;> omega
theorem cum_one (y : Int) : cumM y 1 = 365 * (y - 2000) + (y - 1997) / 4 := by unfold cumM lpM; simp [mcL]
theorem cum_year (y : Int) : cumM y 13 = cumM (y + 1) 1 := by
  rw [cum_one]; unfold cumM lpM
  by_cases c : y % 4 = 0 <;> simp [mcL, c] <;> omega
theorem days_pos {m y : Int} (h1 : 1 ≤ m) (h2 : m ≤ 12) (h3 : 2000 ≤ y) (h4 : y ≤ 2099) : 28 ≤ daysS m y := by
  rw [daysS_in h1 h2 h3 h4]; split <;> (try split) <;> omega
theorem cum_up {y : Int} (h3 : 2000 ≤ y) (h4 : y ≤ 2099) (m : Int) (h1 : 1 ≤ m) : ∀ k : Nat, m + k ≤ 13 → cumM y m ≤ cumM y (m + k)
  | 0, _ => by rw [Int.natCast_zero, Int.add_zero]; exact Int.le_refl _
  | k + 1, h => by
    have h5 := cum_up h3 h4 m h1 k (by omega)
    have h6 := cum_step (y := y) (m := m + k) (by omega) (by omega) h3 h4
    have h7 := days_pos (y := y) (m := m + k) (by omega) (by omega) h3 h4
    have e : m + ((k + 1 : Nat) : Int) = m + k + 1 := by omega
    rw [e, h6]; omega
theorem cum_le {y m m' : Int} (h3 : 2000 ≤ y) (h4 : y ≤ 2099) (h1 : 1 ≤ m) (h : m ≤ m') (h2 : m' ≤ 13) : cumM y m ≤ cumM y m' := by
  have h5 := cum_up h3 h4 m h1 (m' - m).toNat (by omega)
  rw [show m + ((m' - m).toNat : Int) = m' from by omega] at h5
  exact h5
theorem cum_lt {y m y' m' : Int} (h3 : 2000 ≤ y) (h4 : y ≤ 2099) (h1 : 1 ≤ m) (h2 : m ≤ 12) (g3 : 2000 ≤ y') (g4 : y' ≤ 2099) (g1 : 1 ≤ m') (g2 : m' ≤ 12) (h : y < y' ∨ (y = y' ∧ m < m')) : cumM y (m + 1) ≤ cumM y' m' := by
  rcases h with h | ⟨rfl, h⟩
  · have a1 := cum_le h3 h4 (m := m + 1) (m' := 13) (by omega) (by omega) (by omega)
    have a2 := cum_le g3 g4 (m := 1) (m' := m') (by omega) (by omega) (by omega)
    have a3 := cum_year y
    have a4 := cum_one (y + 1)
    have a5 := cum_one y'
    omega
  · exact cum_le h3 h4 (by omega) (by omega) (by omega)
theorem cum_of {y m y' m' D : Int} (h3 : 2000 ≤ y) (h4 : y ≤ 2099) (h1 : 1 ≤ m) (h2 : m ≤ 12) (g3 : 2000 ≤ y') (g4 : y' ≤ 2099) (g1 : 1 ≤ m') (g2 : m' ≤ 12) (a1 : cumM y m ≤ D) (a2 : D < cumM y (m + 1)) (b1 : cumM y' m' ≤ D) (b2 : D < cumM y' (m' + 1)) : y = y' ∧ m = m' := by
  by_cases c : y < y' ∨ (y = y' ∧ m < m')
  · have := cum_lt h3 h4 h1 h2 g3 g4 g1 g2 c; omega
  · by_cases d : y' < y ∨ (y' = y ∧ m' < m)
    · have := cum_lt g3 g4 g1 g2 h3 h4 h1 h2 d; omega
    · omega
def cntB (bd : Bool) (d m y : Int) (bc : Bool) (h i s c : Int) : Bool := bd && (bc && (mayDB bd d m y && mayTB bc h i s c))
def cntS (d m y h i s c : Int) : Int := (d - 1 + cumM y m) * 8640000 + (360000 * h + 6000 * i + 100 * s) + c
def cntV (bd : Bool) (d m y : Int) (bc : Bool) (h i s c : Int) : Value := if cntB bd d m y bc h i s c = true then .tuple #[.int .i64 (cntS d m y h i s c), .bool true] else .tuple #[.int .i64 0, .bool false]
theorem cnt_in {d m y h i s c : Int} (hd : mayDB true d m y = true) (ht : mayTB true h i s c = true) : 1 ≤ m ∧ m ≤ 12 ∧ 2000 ≤ y ∧ y ≤ 2099 ∧ 1 ≤ d ∧ d ≤ daysS m y ∧ 0 ≤ h ∧ h ≤ 23 ∧ 0 ≤ i ∧ i ≤ 59 ∧ 0 ≤ s ∧ s ≤ 59 ∧ 0 ≤ c ∧ c ≤ 99 := by
  have h1 : wnB d 1 (daysS m y) = true := hd
  have h2 := wnB_iff.1 h1
  have h3 := daysS_pos (m := m) (y := y) (by omega)
  unfold mayTB wnB at ht
  simp at ht
  omega
end Go.Proofs.YtobgibmpodggkaaGreatDoor
