/- Package clock: may a time be, a date? -/
import Derived.Test.YtiokoakamcihcaaGreatDoorClock
import Derived.Deep.DeepCutAuto
namespace Go.Proofs.YtiokoakamcihcaaGreatDoor
open Go.ChangeShapes Go.WideShapes Go.ChangeAt Go.RowKit
set_option linter.unusedVariables false

set_option maxRecDepth 100000 in
set_option maxHeartbeats 4000000 in
theorem maytime_any (b : Bool) (h m s c : Int) (w : World) : Calls Tryz.prog 51 #[.agg #[.bool b, .int .i64 h, .int .i64 m, .int .i64 s, .int .i64 c]] w fun e w' => e = .returned (.bool (mayTB b h m s c)) ∧ Below w.heap.size w w' := by
  cases b
  · by_cases hz : h = 0 ∧ m = 0 ∧ s = 0 ∧ c = 0
    · obtain ⟨rfl, rfl, rfl, rfl⟩ := hz
      have e : mayTB false 0 0 0 0 = true := rfl
      rw [e]
      clear e
      go_enter Tryz.func51, Tryz.ntmps51
      go_wp2_with fail
      all_goals go_ret
      all_goals exact ⟨rfl, balloc (Below.refl _ _) (Nat.le_refl _) _⟩
    · have e : mayTB false h m s c = false := by unfold mayTB; simpa using hz
      rw [e]
      clear e
      go_enter Tryz.func51, Tryz.ntmps51
      go_wp2_with fail
      all_goals go_ret
      all_goals refine ⟨ret_bool ?_, balloc (Below.refl _ _) (Nat.le_refl _) _⟩
      all_goals first | rfl | simpa using hz | (simp; omega)
  have k0 := hid (fun v => cwithin_any h 0 23 v)
  have k1 := hid (fun v => cwithin_any m 0 59 v)
  have k2 := hid (fun v => cwithin_any s 0 59 v)
  have k3 := hid (fun v => cwithin_any c 0 99 v)
  cases e0 : wnB h 0 23
  · have e : mayTB true h m s c = false := by unfold mayTB; simp [e0]
    rw [e]
    clear e
    rw [e0] at k0
    clear e0
    go_enter Tryz.func51, Tryz.ntmps51
    go_wp2_with fail
    refine (k0.out _).mono ?_
    rintro e V ⟨rfl, rfl⟩
    go_wp2_with fail
    go_ret
    exact ⟨rfl, balloc (Below.refl _ _) (Nat.le_refl _) _⟩
  cases e1 : wnB m 0 59
  · have e : mayTB true h m s c = false := by unfold mayTB; simp [e0, e1]
    rw [e]
    clear e
    rw [e0] at k0
    rw [e1] at k1
    clear e0 e1
    go_enter Tryz.func51, Tryz.ntmps51
    go_wp2_with fail
    refine (k0.out _).mono ?_
    rintro e V ⟨rfl, rfl⟩
    go_wp2_with fail
    refine (k1.out _).mono ?_
    rintro e V ⟨rfl, rfl⟩
    go_wp2_with fail
    go_ret
    exact ⟨rfl, balloc (Below.refl _ _) (Nat.le_refl _) _⟩
  cases e2 : wnB s 0 59
  · have e : mayTB true h m s c = false := by unfold mayTB; simp [e0, e1, e2]
    rw [e]
    clear e
    rw [e0] at k0
    rw [e1] at k1
    rw [e2] at k2
    clear e0 e1 e2
    go_enter Tryz.func51, Tryz.ntmps51
    go_wp2_with fail
    refine (k0.out _).mono ?_
    rintro e V ⟨rfl, rfl⟩
    go_wp2_with fail
    refine (k1.out _).mono ?_
    rintro e V ⟨rfl, rfl⟩
    go_wp2_with fail
    refine (k2.out _).mono ?_
    rintro e V ⟨rfl, rfl⟩
    go_wp2_with fail
    go_ret
    exact ⟨rfl, balloc (Below.refl _ _) (Nat.le_refl _) _⟩
  cases e3 : wnB c 0 99
  · have e : mayTB true h m s c = false := by unfold mayTB; simp [e0, e1, e2, e3]
    rw [e]
    clear e
    rw [e0] at k0
    rw [e1] at k1
    rw [e2] at k2
    rw [e3] at k3
    clear e0 e1 e2 e3
    go_enter Tryz.func51, Tryz.ntmps51
    go_wp2_with fail
    refine (k0.out _).mono ?_
    rintro e V ⟨rfl, rfl⟩
    go_wp2_with fail
    refine (k1.out _).mono ?_
    rintro e V ⟨rfl, rfl⟩
    go_wp2_with fail
    refine (k2.out _).mono ?_
    rintro e V ⟨rfl, rfl⟩
    go_wp2_with fail
    refine (k3.out _).mono ?_
    rintro e V ⟨rfl, rfl⟩
    go_wp2_with fail
    go_ret
    exact ⟨rfl, balloc (Below.refl _ _) (Nat.le_refl _) _⟩
  have e : mayTB true h m s c = true := by unfold mayTB; simp [e0, e1, e2, e3]
  rw [e]
  clear e
  rw [e0] at k0
  rw [e1] at k1
  rw [e2] at k2
  rw [e3] at k3
  clear e0 e1 e2 e3
  go_enter Tryz.func51, Tryz.ntmps51
  go_wp2_with fail
  refine (k0.out _).mono ?_
  rintro e V ⟨rfl, rfl⟩
  go_wp2_with fail
  refine (k1.out _).mono ?_
  rintro e V ⟨rfl, rfl⟩
  go_wp2_with fail
  refine (k2.out _).mono ?_
  rintro e V ⟨rfl, rfl⟩
  go_wp2_with fail
  refine (k3.out _).mono ?_
  rintro e V ⟨rfl, rfl⟩
  go_wp2_with fail
  go_ret
  exact ⟨rfl, balloc (Below.refl _ _) (Nat.le_refl _) _⟩
set_option maxRecDepth 100000 in
set_option maxHeartbeats 4000000 in
theorem rmay_any (b : Bool) (h m s c : Int) (w : World) : Calls Tryz.prog 77 #[.agg #[.bool b, .int .i64 h, .int .i64 m, .int .i64 s, .int .i64 c]] w fun e w' => e = .returned (.bool (mayTB b h m s c)) ∧ Below w.heap.size w w' := by
  cases b
  · by_cases hz : h = 0 ∧ m = 0 ∧ s = 0 ∧ c = 0
    · obtain ⟨rfl, rfl, rfl, rfl⟩ := hz
      have e : mayTB false 0 0 0 0 = true := rfl
      rw [e]
      clear e
      go_enter Tryz.func77, Tryz.ntmps77
      go_wp2_with fail
      all_goals go_ret
      all_goals exact ⟨rfl, balloc (Below.refl _ _) (Nat.le_refl _) _⟩
    · have e : mayTB false h m s c = false := by unfold mayTB; simpa using hz
      rw [e]
      clear e
      go_enter Tryz.func77, Tryz.ntmps77
      go_wp2_with fail
      all_goals go_ret
      all_goals refine ⟨ret_bool ?_, balloc (Below.refl _ _) (Nat.le_refl _) _⟩
      all_goals first | rfl | simpa using hz | (simp; omega)
  by_cases c0 : 0 ≤ h
  case neg =>
    have e : mayTB true h m s c = false := by unfold mayTB wnB; simp; omega
    rw [e]
    clear e
    go_enter Tryz.func77, Tryz.ntmps77
    go_wp2_with fail
    all_goals go_ret
    all_goals exact ⟨rfl, balloc (Below.refl _ _) (Nat.le_refl _) _⟩
  by_cases c1 : h ≤ 23
  case neg =>
    have e : mayTB true h m s c = false := by unfold mayTB wnB; simp; omega
    rw [e]
    clear e
    go_enter Tryz.func77, Tryz.ntmps77
    go_wp2_with fail
    all_goals go_ret
    all_goals exact ⟨rfl, balloc (Below.refl _ _) (Nat.le_refl _) _⟩
  by_cases c2 : 0 ≤ m
  case neg =>
    have e : mayTB true h m s c = false := by unfold mayTB wnB; simp; omega
    rw [e]
    clear e
    go_enter Tryz.func77, Tryz.ntmps77
    go_wp2_with fail
    all_goals go_ret
    all_goals exact ⟨rfl, balloc (Below.refl _ _) (Nat.le_refl _) _⟩
  by_cases c3 : m ≤ 59
  case neg =>
    have e : mayTB true h m s c = false := by unfold mayTB wnB; simp; omega
    rw [e]
    clear e
    go_enter Tryz.func77, Tryz.ntmps77
    go_wp2_with fail
    all_goals go_ret
    all_goals exact ⟨rfl, balloc (Below.refl _ _) (Nat.le_refl _) _⟩
  by_cases c4 : 0 ≤ s
  case neg =>
    have e : mayTB true h m s c = false := by unfold mayTB wnB; simp; omega
    rw [e]
    clear e
    go_enter Tryz.func77, Tryz.ntmps77
    go_wp2_with fail
    all_goals go_ret
    all_goals exact ⟨rfl, balloc (Below.refl _ _) (Nat.le_refl _) _⟩
  by_cases c5 : s ≤ 59
  case neg =>
    have e : mayTB true h m s c = false := by unfold mayTB wnB; simp; omega
    rw [e]
    clear e
    go_enter Tryz.func77, Tryz.ntmps77
    go_wp2_with fail
    all_goals go_ret
    all_goals exact ⟨rfl, balloc (Below.refl _ _) (Nat.le_refl _) _⟩
  by_cases c6 : 0 ≤ c
  case neg =>
    have e : mayTB true h m s c = false := by unfold mayTB wnB; simp; omega
    rw [e]
    clear e
    go_enter Tryz.func77, Tryz.ntmps77
    go_wp2_with fail
    all_goals go_ret
    all_goals exact ⟨rfl, balloc (Below.refl _ _) (Nat.le_refl _) _⟩
  by_cases c7 : c ≤ 99
  case neg =>
    have e : mayTB true h m s c = false := by unfold mayTB wnB; simp; omega
    rw [e]
    clear e
    go_enter Tryz.func77, Tryz.ntmps77
    go_wp2_with fail
    all_goals go_ret
    all_goals exact ⟨rfl, balloc (Below.refl _ _) (Nat.le_refl _) _⟩
  have e : mayTB true h m s c = true := by unfold mayTB wnB; simp; omega
  rw [e]
  clear e
  go_enter Tryz.func77, Tryz.ntmps77
  go_wp2_with fail
  all_goals go_ret
  all_goals exact ⟨rfl, balloc (Below.refl _ _) (Nat.le_refl _) _⟩
end Go.Proofs.YtiokoakamcihcaaGreatDoor
