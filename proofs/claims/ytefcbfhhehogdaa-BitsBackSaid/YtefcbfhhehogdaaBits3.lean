/- Package bits: numbers with a sign. -/
import Derived.Test.YtefcbfhhehogdaaBits2
namespace Go.Proofs.Ytefcbfhhehogdaa
open Go.ChangeShapes Go.WideShapes Go.ChangeAt Go.RowKit
set_option linter.unusedVariables false

/-- The lowest n bits as a number with a sign. -/
def sgnN (u n : Nat) : Int := if 2 ^ (n - 1) ≤ u % 2 ^ n then ((u % 2 ^ n : Nat) : Int) - ((2 ^ n : Nat) : Int) else ((u % 2 ^ n : Nat) : Int)
theorem sgn_is (u n : Nat) (h1 : 1 ≤ n) (h2 : n ≤ 32) (hu : u < 4294967296) : (((((u : Int) * 2 ^ (32 - n)) % 4294967296 + 2147483648) % 4294967296 - 2147483648) / 2 ^ (32 - n)) = sgnN u n := by
  unfold sgnN
  obtain rfl | rfl | rfl | rfl | rfl | rfl | rfl | rfl | rfl | rfl | rfl | rfl | rfl | rfl | rfl | rfl | rfl | rfl | rfl | rfl | rfl | rfl | rfl | rfl | rfl | rfl | rfl | rfl | rfl | rfl | rfl | rfl : n = 1 ∨ n = 2 ∨ n = 3 ∨ n = 4 ∨ n = 5 ∨ n = 6 ∨ n = 7 ∨ n = 8 ∨ n = 9 ∨ n = 10 ∨ n = 11 ∨ n = 12 ∨ n = 13 ∨ n = 14 ∨ n = 15 ∨ n = 16 ∨ n = 17 ∨ n = 18 ∨ n = 19 ∨ n = 20 ∨ n = 21 ∨ n = 22 ∨ n = 23 ∨ n = 24 ∨ n = 25 ∨ n = 26 ∨ n = 27 ∨ n = 28 ∨ n = 29 ∨ n = 30 ∨ n = 31 ∨ n = 32 := by omega
  all_goals (simp only [Nat.reduceSub, Nat.reducePow, Int.reducePow]; split <;> omega)

def sgnS (u : Nat) (n : Int) : Int := if szP n then sgnN u n.toNat else 0

theorem signed_any (u : Nat) (n : Int) (w : World) (hu : u < 4294967296) (h1 : -9223372036854775808 ≤ n) (h2 : n ≤ 9223372036854775807) :
    Calls Try.prog 10 #[.int .u32 u, .int .i64 n] w fun e w' => e = .returned (.int .i32 (sgnS u n)) ∧ w' = w := by
  by_cases c : szP n = true
  case neg =>
    have c := Bool.not_eq_true _ ▸ c
    have e := hid (show sgnS u n = 0 by unfold sgnS; rw [c]; rfl)
    go_enter Try.func10, Try.ntmps10
    go_wp2_with fail
    refine (sized_any n _ h1 h2).mono ?_
    rintro e w2 ⟨rfl, rfl⟩
    rw [c]
    clear c
    go_wp2_with fail
    go_ret
    exact ⟨ret_int (by rw [e.out]), rfl⟩
  have c1 : 1 ≤ n ∧ n ≤ 32 := by unfold szP at c; simpa using c
  have e : sgnS u n = sgnN u n.toNat := by unfold sgnS; rw [if_pos c]
  obtain ⟨n, rfl⟩ := Int.eq_ofNat_of_zero_le (show 0 ≤ n by omega)
  rw [show ((n : Int)).toNat = n from rfl, ← sgn_is u n (by omega) (by omega) hu] at e
  have hE := hid e
  clear e
  go_enter Try.func10, Try.ntmps10
  go_wp2_with fail
  refine (sized_any n _ h1 h2).mono ?_
  rintro e w2 ⟨rfl, rfl⟩
  rw [c]
  clear c
  go_wp2_with fail
  go_ret
  exact ⟨ret_int (by rw [hE.out]; unfold wrap32; rfl), rfl⟩

set_option maxRecDepth 100000 in
theorem rsigned_any (u : Nat) (n : Int) (w : World) (hu : u < 4294967296) (h1 : -9223372036854775808 ≤ n) (h2 : n ≤ 9223372036854775807) :
    Calls Try.prog 11 #[.int .u32 u, .int .i64 n] w fun e w' => e = .returned (.int .i32 (sgnS u n)) ∧ w' = w := by
  by_cases c : 1 ≤ n
  case neg =>
    have e := hid (show sgnS u n = 0 by unfold sgnS szP; rw [if_neg]; simp; omega)
    go_enter Try.func11, Try.ntmps11
    go_wp2_with fail
    go_ret
    exact ⟨ret_int (by rw [e.out]), rfl⟩
  by_cases c2 : n ≤ 32
  case neg =>
    have e := hid (show sgnS u n = 0 by unfold sgnS szP; rw [if_neg]; simp; omega)
    go_enter Try.func11, Try.ntmps11
    go_wp2_with fail
    go_ret
    exact ⟨ret_int (by rw [e.out]), rfl⟩
  have e : sgnS u n = sgnN u n.toNat := by unfold sgnS szP; rw [if_pos]; simp; omega
  obtain ⟨n, rfl⟩ := Int.eq_ofNat_of_zero_le (show 0 ≤ n by omega)
  obtain ⟨m, hm⟩ : ∃ m, m = n - 1 := ⟨n - 1, rfl⟩
  have fsub : (n : Int) - 1 = (m : Int) := by omega
  have hm32 : m ≤ 32 := by omega
  have hnm := hid (show n = m + 1 by omega)
  obtain ⟨p1, q1⟩ : ∃ p, Go.RowKit.Hid (p = 2 ^ m) := ⟨_, hid (Eq.refl (2 ^ m))⟩
  obtain ⟨p2, q2⟩ : ∃ p, Go.RowKit.Hid (p = 2 ^ n) := ⟨_, hid (Eq.refl (2 ^ n))⟩
  obtain ⟨r, hr⟩ : ∃ r : Nat, r = u % p2 := ⟨_, rfl⟩
  rw [show ((n : Int)).toNat = n from rfl] at e
  unfold sgnN at e
  rw [← hm, ← q1.out, ← q2.out, ← hr] at e
  clear hm
  have g2 : 1 ≤ p2 := by rw [q2.out]; exact Nat.one_le_two_pow
  have g32 : p2 ≤ 4294967296 := by
    have : 2 ^ n ≤ 2 ^ 32 := Nat.pow_le_pow_right (by omega) (by omega)
    have h32 : (2 : Nat) ^ 32 = 4294967296 := by decide
    rw [q2.out]; omega
  have g21 : p2 = 2 * p1 := by rw [q1.out, q2.out, hnm.out, Nat.pow_succ, Nat.mul_comm]
  have hrl : r < p2 := by rw [hr]; exact Nat.mod_lt _ (by omega)
  have hru : r ≤ u := by rw [hr]; exact Nat.mod_le _ _
  have eL : (u : Int) % (p2 : Int) = (r : Int) := by rw [hr]; simp
  have eL2 : (u : Int).tmod (p2 : Int) = (r : Int) := by rw [Int.tmod_eq_emod_of_nonneg (by omega)]; exact eL
  have hE := hid e
  have g1 : p1 ≤ 2147483648 := by omega
  have g21h := hid g21
  clear hr e g21
  go_enter Try.func11, Try.ntmps11
  go_wp2_with fail
  refine (power_any n p2 q2 _ (by omega)).mono ?_
  rintro e w2 ⟨rfl, rfl⟩
  have n2 : ¬ (p2 = 0) := by omega
  go_wp2_with fail
  refine (power_any m p1 q1 _ (by omega)).mono ?_
  rintro e w3 ⟨rfl, rfl⟩
  by_cases cr : (p1 : Int) ≤ (r : Int)
  · have hE2 := hE.out
    rw [if_pos (by omega)] at hE2
    have hE3 := hid hE2
    clear hE2
    go_wp2_with fail
    refine (power_any n p2 q2 _ (by omega)).mono ?_
    rintro e w4 ⟨rfl, rfl⟩
    have hb1 := g21h.out
    have f1 : (r : Int) - (p2 : Int) < 0 := by omega
    have f2 : -2147483648 ≤ (r : Int) - (p2 : Int) := by omega
    clear hb1
    go_wp2_with fail
    go_ret
    exact ⟨ret_int (by rw [hE3.out]), rfl⟩
  · have hE2 := hE.out
    rw [if_neg (by omega)] at hE2
    have hE3 := hid hE2
    clear hE2
    go_wp2_with fail
    go_ret
    exact ⟨ret_int (by rw [hE3.out]), rfl⟩

end Go.Proofs.Ytefcbfhhehogdaa
