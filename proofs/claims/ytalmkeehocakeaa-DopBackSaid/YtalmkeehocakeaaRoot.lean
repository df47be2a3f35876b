/- What each function of package root comes to: contracts, by walking their text. -/
import Derived.Test.YtalmkeehocakeaaRootMath
namespace Go.Proofs.Ytalmkeehocakeaa
open Go.ChangeShapes Go.WideShapes Go.ChangeAt Go.RowKit
set_option linter.unusedVariables false

theorem pow_32 (j : Nat) (h : j ≤ 32) : 2 ^ j ≤ 4294967296 := by
  have := Nat.pow_le_pow_right (show 0 < 2 by decide) h
  simpa using this

set_option maxHeartbeats 1000000 in
theorem sqrt_nat (n : Nat) (w : World) (h : n ≤ 18446744073709551615) :
    Calls Try.prog 46 #[.int .u64 n] w fun e w' => e = .returned (.int .u32 (sqrtS n)) ∧ w' = w := by
  have HL := hid (sqrtS_lt n (by omega))
  go_enter Try.func46, Try.ntmps46
  go_wp2
  go_step3
  go_wp2
  go_step3
  go_wp2
  go_loop [3, 4] (fun r b => ∃ (i j p : Nat), j ≤ 32 ∧ r = .int .u64 i ∧ b = .int .u64 p ∧ p = 2 ^ j ∧ i + p ≤ 4294967296 ∧ rt j i n = sqrtS n) (fun _ b => (intOf b).toNat)
  case atStart => exact ⟨0, 32, 4294967296, by omega, rfl, rfl, rfl, by omega, rfl⟩
  case round =>
    obtain ⟨i, j, p, hj, rfl, rfl, hp, hi, hr⟩ := hrel
    have HR := hid hr
    have HP := hid hp
    clear hr hp
    cases j with
    | zero =>
      obtain rfl : p = 1 := HP.out
      go_wp2
      go_ret
      exact ⟨ret_int (by rw [← HR.out]; rfl), rfl⟩
    | succ j =>
      obtain ⟨q, hq⟩ : ∃ q, q = 2 ^ j := ⟨_, rfl⟩
      have hpq : p = q + q := by rw [HP.out, hq, Nat.pow_succ]; omega
      have hq0 : 0 < q := by rw [hq]; exact Nat.pow_pos (by decide)
      obtain rfl : p = q + q := hpq
      have hqe : Go.RowKit.Hid (q = 2 ^ j) := hq
      clear hq HP
      have hdiv : ((q : Int) + (q : Int)) / 2 = (q : Int) := by omega
      have hqz : ((q : Int) == 0) = false := by simp; omega
      have ht : ((i : Int) + (q : Int)) * ((i : Int) + (q : Int)) = (((i + q) * (i + q) : Nat) : Int) := by simp
      have hb : (i + q) * (i + q) ≤ 4294967295 * 4294967295 := Nat.mul_le_mul (by omega) (by omega)
      generalize HT : (i + q) * (i + q) = t at *
      have hti : Go.RowKit.Hid (t = (i + q) * (i + q)) := hid HT.symm
      clear HT
      by_cases hc : n < t
      · go_wp2
        go_round
        case rel => exact ⟨i, j, q, by omega, rfl, by rw [hdiv], hqe.out, by omega, by rw [← HR.out]; exact (rt_no j i n (by rw [← hqe.out, ← hti.out]; omega)).symm⟩
        case measure => simp [intOf]; omega
      · go_wp2
        go_round
        case rel => exact ⟨i + q, j, q, by omega, by go_num, by rw [hdiv], hqe.out, by omega, by rw [← HR.out, hqe.out]; exact (rt_yes j i n (by rw [← hqe.out, ← hti.out]; omega)).symm⟩
        case measure => simp [intOf]; omega

theorem sqrt_any (n : Int) (w : World) (h0 : 0 ≤ n) (h : n ≤ 18446744073709551615) :
    Calls Try.prog 46 #[.int .u64 n] w fun e w' => e = .returned (.int .u32 (sqrtS n.toNat)) ∧ w' = w := by
  obtain ⟨k, rfl⟩ := Int.eq_ofNat_of_zero_le h0
  exact sqrt_nat k w (by omega)

theorem near_any (n : Nat) (w : World) (h : n ≤ 18446744073709551615) :
    Calls Try.prog 32 #[.int .u64 n] w fun e w' => e = .returned (.int .u64 (nearS n)) ∧ w' = w := by
  have hl := sqrtS_lt n (by omega)
  obtain ⟨hs1, hs2⟩ := sqrtS_spec n (by omega)
  clear hs2
  have HN : Go.RowKit.Hid (nearS n = if sqrtS n < n - sqrtS n * sqrtS n then sqrtS n + 1 else sqrtS n) := rfl
  go_enter Try.func32, Try.ntmps32
  go_wp2_with fail
  refine (sqrt_nat n _ h).mono ?_
  rintro e w1 ⟨rfl, rfl⟩
  generalize sqrtS n = s at *
  have ht : (s : Int) * (s : Int) = ((s * s : Nat) : Int) := by simp
  generalize HT : s * s = t at *
  have HT2 := hid HT
  clear HT
  by_cases hc : s < n - t
  · have hc2 : (s : Int) < (n : Int) - (t : Int) := by omega
    go_wp2
    go_ret
    exact ⟨ret_int (by rw [HN.out, if_pos hc]; rfl), rfl⟩
  · have hc2 : ¬ (s : Int) < (n : Int) - (t : Int) := by omega
    go_wp2
    go_ret
    exact ⟨ret_int (by rw [HN.out, if_neg hc]), rfl⟩

theorem sq_nat (x : Int) (h1 : -2147483648 ≤ x) (h2 : x ≤ 2147483647) : ∃ X : Nat, x * x = (X : Int) ∧ X ≤ 4611686018427387904 := by
  have h3 : (x * x) = ((x.natAbs * x.natAbs : Nat) : Int) := by rw [Int.natCast_mul]; exact (Int.natAbs_mul_self' x).symm
  exact ⟨_, h3, Nat.mul_le_mul (show x.natAbs ≤ 2147483648 by omega) (show x.natAbs ≤ 2147483648 by omega)⟩

set_option maxHeartbeats 1000000 in
theorem rsqrt_nat (n : Nat) (w : World) (h : n ≤ 18446744073709551615) :
    Calls Try.prog 47 #[.int .u64 n] w fun e w' => e = .returned (.int .u32 (sqrtS n)) ∧ w' = w := by
  have HL := hid (sqrtS_lt n (by omega))
  go_enter Try.func47, Try.ntmps47
  go_wp2
  go_loop [3, 4] (fun r b => ∃ (i j p : Nat), j ≤ 32 ∧ r = .int .u64 i ∧ b = .int .u64 p ∧ p = 2 ^ j / 2 ∧ i + 2 ^ j ≤ 4294967296 ∧ rt j i n = sqrtS n) (fun _ b => (intOf b).toNat)
  case atStart => exact ⟨0, 32, 2147483648, by omega, rfl, rfl, rfl, by omega, rfl⟩
  case round =>
    obtain ⟨i, j, p, hj, rfl, rfl, hp, hi, hr⟩ := hrel
    have HR := hid hr
    have HP := hid hp
    clear hr hp
    cases j with
    | zero =>
      obtain rfl : p = 0 := HP.out
      have hl : i < 4294967296 := by omega
      clear hi
      go_wp2
      go_ret
      exact ⟨ret_int (by rw [← HR.out]; rfl), rfl⟩
    | succ j =>
      have hpq : p = 2 ^ j := by rw [HP.out, Nat.pow_succ]; omega
      have hq0 : 0 < p := by rw [hpq]; exact Nat.pow_pos (by decide)
      rw [Nat.pow_succ, ← hpq] at hi
      have hqe := hid hpq
      clear hpq HP
      have ht : ((i : Int) + (p : Int)) * ((i : Int) + (p : Int)) = (((i + p) * (i + p) : Nat) : Int) := by simp
      have hb : (i + p) * (i + p) ≤ 4294967295 * 4294967295 := Nat.mul_le_mul (by omega) (by omega)
      generalize HT : (i + p) * (i + p) = t at *
      have hti : Go.RowKit.Hid (t = (i + p) * (i + p)) := hid HT.symm
      clear HT
      by_cases hc : n < t
      · go_wp2
        go_round
        case rel => exact ⟨i, j, p / 2, by omega, rfl, by go_num, by rw [hqe.out], by rw [← hqe.out]; omega, by rw [← HR.out]; exact (rt_no j i n (by rw [← hqe.out, ← hti.out]; omega)).symm⟩
        case measure => simp [intOf]; omega
      · go_wp2
        go_round
        case rel => exact ⟨i + p, j, p / 2, by omega, by go_num, by go_num, by rw [hqe.out], by rw [← hqe.out]; omega, by rw [← HR.out, hqe.out]; exact (rt_yes j i n (by rw [← hqe.out, ← hti.out]; omega)).symm⟩
        case measure => simp [intOf]; omega

theorem rnear_any (n : Nat) (w : World) (h : n ≤ 18446744073709551615) :
    Calls Try.prog 33 #[.int .u64 n] w fun e w' => e = .returned (.int .u64 (nearS n)) ∧ w' = w := by
  have hl := sqrtS_lt n (by omega)
  obtain ⟨hs1, hs2⟩ := sqrtS_spec n (by omega)
  clear hs2
  have HN : Go.RowKit.Hid (nearS n = if sqrtS n < n - sqrtS n * sqrtS n then sqrtS n + 1 else sqrtS n) := rfl
  go_enter Try.func33, Try.ntmps33
  go_wp2_with fail
  refine (rsqrt_nat n _ h).mono ?_
  rintro e w1 ⟨rfl, rfl⟩
  generalize sqrtS n = s at *
  have ht : (s : Int) * (s : Int) = ((s * s : Nat) : Int) := by simp
  generalize HT : s * s = t at *
  have HT2 := hid HT
  clear HT
  by_cases hc : s < n - t
  · have hc2 : (s : Int) < (n : Int) - (t : Int) := by omega
    go_wp2
    go_ret
    exact ⟨ret_int (by rw [HN.out, if_pos hc]; rfl), rfl⟩
  · have hc2 : ¬ (s : Int) < (n : Int) - (t : Int) := by omega
    go_wp2
    go_ret
    exact ⟨ret_int (by rw [HN.out, if_neg hc]), rfl⟩

end Go.Proofs.Ytalmkeehocakeaa
