/- Package clock: Days. -/
import Derived.Test.YthnoomdhgbaecaaGreatDoorKB
import Derived.Deep.DeepCutAuto
namespace Go.Proofs.YthnoomdhgbaecaaGreatDoor

open Go.ChangeShapes Go.WideShapes Go.ChangeAt Go.RowKit

set_option linter.unusedVariables false

def wnB (n lo hi : Int) : Bool := decide (lo ≤ n) && decide (n ≤ hi)
theorem wnB_iff {n lo hi : Int} : wnB n lo hi = true ↔ lo ≤ n ∧ n ≤ hi := by unfold wnB; simp
def daysS (m y : Int) : Int := if wnB m 1 12 = true ∧ wnB y 2000 2099 = true then (if m = 2 then (if y % 4 = 0 then 29 else 28) else if m = 4 ∨ m = 6 ∨ m = 9 ∨ m = 11 then 30 else 31) else 0
def mayTB (b : Bool) (h m s c : Int) : Bool := if b then (wnB h 0 23 && (wnB m 0 59 && (wnB s 0 59 && wnB c 0 99))) else decide (h = 0 ∧ m = 0 ∧ s = 0 ∧ c = 0)
def mayDB (b : Bool) (d m y : Int) : Bool := if b then wnB d 1 (daysS m y) else decide (d = 0 ∧ m = 0 ∧ y = 0)
theorem daysS_b (m y : Int) : 0 ≤ daysS m y ∧ daysS m y ≤ 31 := by unfold daysS; split <;> (try split) <;> (try split) <;> omega
theorem cwithin_any (n lo hi : Int) (w : World) : Calls Tryz.prog 99 #[.int .i64 n, .int .i64 lo, .int .i64 hi] w fun e w' => e = .returned (.bool (wnB n lo hi)) ∧ w' = w := by
  by_cases h1 : lo ≤ n
  · by_cases h2 : n ≤ hi
    · have e : wnB n lo hi = true := by unfold wnB; simp [h1, h2]
      rw [e]
      clear e
      go_enter Tryz.func99, Tryz.ntmps99
      go_wp2_with fail
      all_goals go_ret
      all_goals exact ⟨rfl, rfl⟩
    · have e : wnB n lo hi = false := by unfold wnB; simp [h1, h2]
      rw [e]
      clear e
      go_enter Tryz.func99, Tryz.ntmps99
      go_wp2_with fail
      all_goals go_ret
      all_goals exact ⟨rfl, rfl⟩
  · have e : wnB n lo hi = false := by unfold wnB; simp [h1]
    rw [e]
    clear e
    go_enter Tryz.func99, Tryz.ntmps99
    go_wp2_with fail
    all_goals go_ret
    all_goals exact ⟨rfl, rfl⟩
set_option maxRecDepth 100000 in
set_option maxHeartbeats 4000000 in
theorem days_any (m y : Int) (w : World) : Calls Tryz.prog 86 #[.int .i64 m, .int .i64 y] w fun e w' => e = .returned (.int .i64 (daysS m y)) ∧ Below w.heap.size w w' := by
  have hT := wnB_iff (n := m) (lo := 1) (hi := 12)
  have hY := wnB_iff (n := y) (lo := 2000) (hi := 2099)
  have k0 := hid (fun v => cwithin_any m 1 12 v)
  have k1 := hid (fun v => cwithin_any y 2000 2099 v)
  have hV : daysS m y = daysS m y := rfl
  conv at hV => rhs; unfold daysS
  generalize daysS m y = D at *
  cases hm : wnB m 1 12
  · rw [hm] at k0 hV
    rw [if_neg (by simp)] at hV
    subst hV
    go_enter Tryz.func86, Tryz.ntmps86
    go_wp2_with fail
    refine (k0.out _).mono ?_
    rintro e V ⟨rfl, rfl⟩
    go_wp2_with fail
    go_ret
    exact ⟨rfl, Below.refl _ _⟩
  cases hy : wnB y 2000 2099
  · rw [hm] at k0 hV
    rw [hy] at k1 hV
    rw [if_neg (by simp)] at hV
    subst hV
    go_enter Tryz.func86, Tryz.ntmps86
    go_wp2_with fail
    refine (k0.out _).mono ?_
    rintro e V ⟨rfl, rfl⟩
    go_wp2_with fail
    refine (k1.out _).mono ?_
    rintro e V ⟨rfl, rfl⟩
    go_wp2_with fail
    go_ret
    exact ⟨rfl, Below.refl _ _⟩
  rw [hm] at k0 hV hT
  rw [hy] at k1 hV hY
  rw [if_pos ⟨rfl, rfl⟩] at hV
  replace hT := hT.1 rfl
  replace hY := hY.1 rfl
  clear hm hy
  obtain rfl | rfl | rfl | rfl | rfl | rfl | rfl | rfl | rfl | rfl | rfl | rfl : m = 1 ∨ m = 2 ∨ m = 3 ∨ m = 4 ∨ m = 5 ∨ m = 6 ∨ m = 7 ∨ m = 8 ∨ m = 9 ∨ m = 10 ∨ m = 11 ∨ m = 12 := by omega
  · obtain rfl : D = 31 := by rw [hV]; simp
    clear hV
    go_enter Tryz.func86, Tryz.ntmps86
    go_wp2_with fail
    refine (k0.out _).mono ?_
    rintro e V ⟨rfl, rfl⟩
    go_wp2_with fail
    refine (k1.out _).mono ?_
    rintro e V ⟨rfl, rfl⟩
    go_wp2_with fail
    go_ret
    exact ⟨rfl, balloc (Below.refl _ _) (Nat.le_refl _) _⟩
  · by_cases c : y % 4 = 0
    · obtain rfl : D = 29 := by rw [hV]; simp [c]
      clear hV
      go_enter Tryz.func86, Tryz.ntmps86
      go_wp2_with fail
      refine (k0.out _).mono ?_
      rintro e V ⟨rfl, rfl⟩
      go_wp2_with fail
      refine (k1.out _).mono ?_
      rintro e V ⟨rfl, rfl⟩
      go_wp2_with fail
      go_ret
      exact ⟨rfl, Below.refl _ _⟩
    · obtain rfl : D = 28 := by rw [hV]; simp [c]
      clear hV
      have c2 : (y % 4 == 0) = false := by simpa using c
      go_enter Tryz.func86, Tryz.ntmps86
      go_wp2_with fail
      refine (k0.out _).mono ?_
      rintro e V ⟨rfl, rfl⟩
      go_wp2_with fail
      refine (k1.out _).mono ?_
      rintro e V ⟨rfl, rfl⟩
      go_wp2_with fail
      go_ret
      exact ⟨rfl, balloc (Below.refl _ _) (Nat.le_refl _) _⟩
  · obtain rfl : D = 31 := by rw [hV]; simp
    clear hV
    go_enter Tryz.func86, Tryz.ntmps86
    go_wp2_with fail
    refine (k0.out _).mono ?_
    rintro e V ⟨rfl, rfl⟩
    go_wp2_with fail
    refine (k1.out _).mono ?_
    rintro e V ⟨rfl, rfl⟩
    go_wp2_with fail
    go_ret
    exact ⟨rfl, balloc (Below.refl _ _) (Nat.le_refl _) _⟩
  · obtain rfl : D = 30 := by rw [hV]; simp
    clear hV
    go_enter Tryz.func86, Tryz.ntmps86
    go_wp2_with fail
    refine (k0.out _).mono ?_
    rintro e V ⟨rfl, rfl⟩
    go_wp2_with fail
    refine (k1.out _).mono ?_
    rintro e V ⟨rfl, rfl⟩
    go_wp2_with fail
    go_ret
    exact ⟨rfl, balloc (Below.refl _ _) (Nat.le_refl _) _⟩
  · obtain rfl : D = 31 := by rw [hV]; simp
    clear hV
    go_enter Tryz.func86, Tryz.ntmps86
    go_wp2_with fail
    refine (k0.out _).mono ?_
    rintro e V ⟨rfl, rfl⟩
    go_wp2_with fail
    refine (k1.out _).mono ?_
    rintro e V ⟨rfl, rfl⟩
    go_wp2_with fail
    go_ret
    exact ⟨rfl, balloc (Below.refl _ _) (Nat.le_refl _) _⟩
  · obtain rfl : D = 30 := by rw [hV]; simp
    clear hV
    go_enter Tryz.func86, Tryz.ntmps86
    go_wp2_with fail
    refine (k0.out _).mono ?_
    rintro e V ⟨rfl, rfl⟩
    go_wp2_with fail
    refine (k1.out _).mono ?_
    rintro e V ⟨rfl, rfl⟩
    go_wp2_with fail
    go_ret
    exact ⟨rfl, balloc (Below.refl _ _) (Nat.le_refl _) _⟩
  · obtain rfl : D = 31 := by rw [hV]; simp
    clear hV
    go_enter Tryz.func86, Tryz.ntmps86
    go_wp2_with fail
    refine (k0.out _).mono ?_
    rintro e V ⟨rfl, rfl⟩
    go_wp2_with fail
    refine (k1.out _).mono ?_
    rintro e V ⟨rfl, rfl⟩
    go_wp2_with fail
    go_ret
    exact ⟨rfl, balloc (Below.refl _ _) (Nat.le_refl _) _⟩
  · obtain rfl : D = 31 := by rw [hV]; simp
    clear hV
    go_enter Tryz.func86, Tryz.ntmps86
    go_wp2_with fail
    refine (k0.out _).mono ?_
    rintro e V ⟨rfl, rfl⟩
    go_wp2_with fail
    refine (k1.out _).mono ?_
    rintro e V ⟨rfl, rfl⟩
    go_wp2_with fail
    go_ret
    exact ⟨rfl, balloc (Below.refl _ _) (Nat.le_refl _) _⟩
  · obtain rfl : D = 30 := by rw [hV]; simp
    clear hV
    go_enter Tryz.func86, Tryz.ntmps86
    go_wp2_with fail
    refine (k0.out _).mono ?_
    rintro e V ⟨rfl, rfl⟩
    go_wp2_with fail
    refine (k1.out _).mono ?_
    rintro e V ⟨rfl, rfl⟩
    go_wp2_with fail
    go_ret
    exact ⟨rfl, balloc (Below.refl _ _) (Nat.le_refl _) _⟩
  · obtain rfl : D = 31 := by rw [hV]; simp
    clear hV
    go_enter Tryz.func86, Tryz.ntmps86
    go_wp2_with fail
    refine (k0.out _).mono ?_
    rintro e V ⟨rfl, rfl⟩
    go_wp2_with fail
    refine (k1.out _).mono ?_
    rintro e V ⟨rfl, rfl⟩
    go_wp2_with fail
    go_ret
    exact ⟨rfl, balloc (Below.refl _ _) (Nat.le_refl _) _⟩
  · obtain rfl : D = 30 := by rw [hV]; simp
    clear hV
    go_enter Tryz.func86, Tryz.ntmps86
    go_wp2_with fail
    refine (k0.out _).mono ?_
    rintro e V ⟨rfl, rfl⟩
    go_wp2_with fail
    refine (k1.out _).mono ?_
    rintro e V ⟨rfl, rfl⟩
    go_wp2_with fail
    go_ret
    exact ⟨rfl, balloc (Below.refl _ _) (Nat.le_refl _) _⟩
  · obtain rfl : D = 31 := by rw [hV]; simp
    clear hV
    go_enter Tryz.func86, Tryz.ntmps86
    go_wp2_with fail
    refine (k0.out _).mono ?_
    rintro e V ⟨rfl, rfl⟩
    go_wp2_with fail
    refine (k1.out _).mono ?_
    rintro e V ⟨rfl, rfl⟩
    go_wp2_with fail
    go_ret
    exact ⟨rfl, balloc (Below.refl _ _) (Nat.le_refl _) _⟩
set_option maxRecDepth 100000 in
set_option maxHeartbeats 4000000 in
theorem rdays_any (m y : Int) (w : World) : Calls Tryz.prog 88 #[.int .i64 m, .int .i64 y] w fun e w' => e = .returned (.int .i64 (daysS m y)) ∧ w' = w := by
  have hV : daysS m y = daysS m y := rfl
  conv at hV => rhs; unfold daysS wnB
  generalize daysS m y = D at *
  by_cases m0 : m < 1
  · obtain rfl : D = 0 := by rw [hV, if_neg (by simp; omega)]
    clear hV
    go_enter Tryz.func88, Tryz.ntmps88
    go_wp2_with fail
    all_goals go_ret
    all_goals exact ⟨rfl, rfl⟩
  by_cases m1 : 12 < m
  · obtain rfl : D = 0 := by rw [hV, if_neg (by simp; omega)]
    clear hV
    go_enter Tryz.func88, Tryz.ntmps88
    go_wp2_with fail
    all_goals go_ret
    all_goals exact ⟨rfl, rfl⟩
  by_cases y0 : y < 2000
  · obtain rfl : D = 0 := by rw [hV, if_neg (by simp; omega)]
    clear hV
    go_enter Tryz.func88, Tryz.ntmps88
    go_wp2_with fail
    all_goals go_ret
    all_goals exact ⟨rfl, rfl⟩
  by_cases y1 : 2099 < y
  · obtain rfl : D = 0 := by rw [hV, if_neg (by simp; omega)]
    clear hV
    go_enter Tryz.func88, Tryz.ntmps88
    go_wp2_with fail
    all_goals go_ret
    all_goals exact ⟨rfl, rfl⟩
  rw [if_pos (by simp; omega)] at hV
  obtain rfl | rfl | rfl | rfl | rfl | rfl | rfl | rfl | rfl | rfl | rfl | rfl : m = 1 ∨ m = 2 ∨ m = 3 ∨ m = 4 ∨ m = 5 ∨ m = 6 ∨ m = 7 ∨ m = 8 ∨ m = 9 ∨ m = 10 ∨ m = 11 ∨ m = 12 := by omega
  · obtain rfl : D = 31 := by rw [hV]; simp
    clear hV
    go_enter Tryz.func88, Tryz.ntmps88
    go_wp2_with fail
    all_goals go_ret
    all_goals exact ⟨rfl, rfl⟩
  · by_cases c : y % 4 = 0
    · obtain rfl : D = 29 := by rw [hV]; simp [c]
      clear hV
      go_enter Tryz.func88, Tryz.ntmps88
      go_wp2_with fail
      all_goals go_ret
      all_goals exact ⟨rfl, rfl⟩
    · obtain rfl : D = 28 := by rw [hV]; simp [c]
      clear hV
      have c2 : (y % 4 == 0) = false := by simpa using c
      go_enter Tryz.func88, Tryz.ntmps88
      go_wp2_with fail
      all_goals go_ret
      all_goals exact ⟨rfl, rfl⟩
  · obtain rfl : D = 31 := by rw [hV]; simp
    clear hV
    go_enter Tryz.func88, Tryz.ntmps88
    go_wp2_with fail
    all_goals go_ret
    all_goals exact ⟨rfl, rfl⟩
  · obtain rfl : D = 30 := by rw [hV]; simp
    clear hV
    go_enter Tryz.func88, Tryz.ntmps88
    go_wp2_with fail
    all_goals go_ret
    all_goals exact ⟨rfl, rfl⟩
  · obtain rfl : D = 31 := by rw [hV]; simp
    clear hV
    go_enter Tryz.func88, Tryz.ntmps88
    go_wp2_with fail
    all_goals go_ret
    all_goals exact ⟨rfl, rfl⟩
  · obtain rfl : D = 30 := by rw [hV]; simp
    clear hV
    go_enter Tryz.func88, Tryz.ntmps88
    go_wp2_with fail
    all_goals go_ret
    all_goals exact ⟨rfl, rfl⟩
  · obtain rfl : D = 31 := by rw [hV]; simp
    clear hV
    go_enter Tryz.func88, Tryz.ntmps88
    go_wp2_with fail
    all_goals go_ret
    all_goals exact ⟨rfl, rfl⟩
  · obtain rfl : D = 31 := by rw [hV]; simp
    clear hV
    go_enter Tryz.func88, Tryz.ntmps88
    go_wp2_with fail
    all_goals go_ret
    all_goals exact ⟨rfl, rfl⟩
  · obtain rfl : D = 30 := by rw [hV]; simp
    clear hV
    go_enter Tryz.func88, Tryz.ntmps88
    go_wp2_with fail
    all_goals go_ret
    all_goals exact ⟨rfl, rfl⟩
  · obtain rfl : D = 31 := by rw [hV]; simp
    clear hV
    go_enter Tryz.func88, Tryz.ntmps88
    go_wp2_with fail
    all_goals go_ret
    all_goals exact ⟨rfl, rfl⟩
  · obtain rfl : D = 30 := by rw [hV]; simp
    clear hV
    go_enter Tryz.func88, Tryz.ntmps88
    go_wp2_with fail
    all_goals go_ret
    all_goals exact ⟨rfl, rfl⟩
  · obtain rfl : D = 31 := by rw [hV]; simp
    clear hV
    go_enter Tryz.func88, Tryz.ntmps88
    go_wp2_with fail
    all_goals go_ret
    all_goals exact ⟨rfl, rfl⟩

end Go.Proofs.YthnoomdhgbaecaaGreatDoor
