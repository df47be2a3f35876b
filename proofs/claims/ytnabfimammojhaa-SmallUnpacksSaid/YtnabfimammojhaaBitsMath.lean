/- Bits of a word: plain numbers. -/
import Derived.Test.YtnabfimammojhaaBits
namespace Go.Proofs.Ytnabfimammojhaa
open Go.RowKit
set_option linter.unusedVariables false

theorem tb_high {x k i : Nat} (h : x < 2 ^ k) (hi : k ≤ i) : x.testBit i = false :=
  Nat.testBit_lt_two_pow (Nat.lt_of_lt_of_le h (Nat.pow_le_pow_right (by omega) hi))
theorem tb_mul (x a i : Nat) : (x * 2 ^ a).testBit i = (decide (a ≤ i) && x.testBit (i - a)) := by
  rw [← Nat.shiftLeft_eq, Nat.testBit_shiftLeft]
theorem put_sum (x a n v : Nat) (hv : v < 2 ^ n) : x / 2 ^ (a + n) * 2 ^ (a + n) + v * 2 ^ a + x % 2 ^ a = (x / 2 ^ (a + n) * 2 ^ (a + n) ||| v * 2 ^ a) ||| x % 2 ^ a := by
  have hL : x % 2 ^ a < 2 ^ a := Nat.mod_lt _ (Nat.two_pow_pos a)
  have hV : v * 2 ^ a < 2 ^ (a + n) := by
    rw [Nat.pow_add, Nat.mul_comm]; exact Nat.mul_lt_mul_of_pos_left hv (Nat.two_pow_pos a)
  have e1 : x / 2 ^ (a + n) * 2 ^ (a + n) ||| v * 2 ^ a = x / 2 ^ (a + n) * 2 ^ (a + n) + v * 2 ^ a := by
    rw [nat_join (a + n) _ _ (Nat.mul_mod_left _ _) hV]
  rw [e1, nat_join a _ _ ?_ hL]
  rw [Nat.pow_add, Nat.mul_comm (2 ^ a) (2 ^ n), ← Nat.mul_assoc, ← Nat.add_mul]
  exact Nat.mul_mod_left _ _
theorem put_bits (x a n v : Nat) (hx : x < 2 ^ 32) (h : a + n ≤ 32) (hv : v < 2 ^ n) :
    (x &&& (4294967295 - (2 ^ n - 1) * 2 ^ a)) ||| v * 2 ^ a = x / 2 ^ (a + n) * 2 ^ (a + n) + v * 2 ^ a + x % 2 ^ a := by
  rw [put_sum x a n v hv]
  have hk : (2 ^ n - 1) * 2 ^ a < 2 ^ 32 := by
    have h1 : 2 ^ n * 2 ^ a ≤ 2 ^ 32 := by rw [← Nat.pow_add]; exact Nat.pow_le_pow_right (by omega) (by omega)
    have h2 : (2 ^ n - 1) * 2 ^ a < 2 ^ n * 2 ^ a := Nat.mul_lt_mul_of_pos_right (by have := Nat.two_pow_pos n; omega) (Nat.two_pow_pos a)
    omega
  have e : 4294967295 - (2 ^ n - 1) * 2 ^ a = 2 ^ 32 - ((2 ^ n - 1) * 2 ^ a + 1) := by omega
  refine Nat.eq_of_testBit_eq fun i => ?_
  rw [e, Nat.testBit_or, Nat.testBit_and, Nat.testBit_two_pow_sub_succ hk, tb_mul, tb_mul, Nat.testBit_two_pow_sub_one, Nat.testBit_or, Nat.testBit_or, tb_mul, tb_mul, Nat.testBit_div_two_pow, Nat.testBit_mod_two_pow]
  by_cases h1 : i < a
  · have a1 : ¬ a ≤ i := by omega
    have a2 : ¬ a + n ≤ i := by omega
    have a3 : i < 32 := by omega
    simp [h1, a1, a2, a3]
  · have a1 : a ≤ i := by omega
    by_cases h2 : i - a < n
    · have a2 : ¬ a + n ≤ i := by omega
      simp [h1, a1, a2, h2]
    · have a2 : a + n ≤ i := by omega
      have a4 : v.testBit (i - a) = false := tb_high hv (by omega)
      have a5 : i - (a + n) + (a + n) = i := by omega
      by_cases h3 : i < 32
      · simp [h1, a1, a2, h2, h3, a4, a5]
      · have a6 := tb_high hx (show 32 ≤ i by omega)
        simp [h1, a1, a2, h2, h3, a4, a5, a6]

end Go.Proofs.Ytnabfimammojhaa
