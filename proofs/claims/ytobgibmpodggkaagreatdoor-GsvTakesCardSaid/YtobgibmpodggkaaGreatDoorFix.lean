/- What each function of package fix comes to: contracts, by walking their text. -/
import Derived.Test.YtobgibmpodggkaaGreatDoorKA
namespace Go.Proofs.YtobgibmpodggkaaGreatDoor
open Go.ChangeShapes Go.WideShapes Go.ChangeAt Go.RowKit

theorem wrapU64_neg (n : Int) (h1 : -9223372036854775808 ≤ n) (h : n < 0) : IntKind.u64.wrap (-IntKind.u64.wrap n) = ↑n.natAbs := by
  simp [IntKind.wrap, IntKind.bits, IntKind.signed]
  omega

theorem wrap64_neg (q : Nat) (h1 : q ≤ 9223372036854775808) : wrap64 (IntKind.u64.wrap (-(q : Int))) = -(q : Int) := by
  simp [IntKind.wrap, IntKind.bits, IntKind.signed, wrap64]
  omega

/-- a by b, to the nearest -/
def qn (a b : Nat) : Nat := if b - a % b ≤ a % b then a / b + 1 else a / b
def overS (n d : Int) : Int := if d = 0 then 0 else if n < 0 ∧ ¬ d < 0 ∨ ¬ n < 0 ∧ d < 0 then -(qn n.natAbs d.natAbs : Int) else if qn n.natAbs d.natAbs ≤ 9223372036854775807 then (qn n.natAbs d.natAbs : Int) else 9223372036854775807

theorem qn_le (a b : Nat) (h : a ≤ 9223372036854775808) (hb : 0 < b) : qn a b ≤ 9223372036854775808 := by
  unfold qn
  have h1 : a / b ≤ a := Nat.div_le_self a b
  split
  · rename_i hc
    have h2 := Nat.mod_lt a hb
    by_cases h1b : b = 1
    · subst h1b; simp [Nat.mod_one] at hc
    · have : a / b ≤ a / 2 := Nat.div_le_div_left (by omega) (by omega)
      omega
  · omega

def pow2 (k : Nat) : Int := ((2 ^ k : Nat) : Int)
theorem pow2_zero : pow2 0 = 1 := rfl
theorem pow2_succ (k : Nat) : pow2 (k + 1) = pow2 k + pow2 k := by unfold pow2; rw [Nat.pow_succ]; omega
theorem pow2_pos (k : Nat) : 1 ≤ pow2 k := by unfold pow2; have := Nat.pow_pos (n := k) (show 0 < 2 by decide); omega
theorem pow2_mono (a b : Nat) (h : a ≤ b) : pow2 a ≤ pow2 b := by unfold pow2; exact Int.ofNat_le.2 (Nat.pow_le_pow_right (by decide) h)
theorem pow2_62 : pow2 62 = 4611686018427387904 := by decide +kernel
theorem pow2_30 : pow2 30 = 1073741824 := by decide +kernel
theorem pow2_le (k : Nat) (h : k ≤ 62) : pow2 k ≤ 4611686018427387904 := by rw [← pow2_62]; exact pow2_mono _ _ h

def clampS (n : Int) : Int := if 2147483647 < n then 2147483647 else if n < -2147483648 then -2147483648 else n
def clampB (n : Int) : Bool := decide (2147483647 < n ∨ n < -2147483648)
def clampV (n : Int) : Value := .tuple #[.int .i32 (clampS n), .bool (clampB n)]
theorem clampV_hi (n : Int) (h : 2147483647 < n) : clampV n = .tuple #[.int .i32 2147483647, .bool true] := by
  simp [clampV, clampS, clampB, h]
theorem clampV_lo (n : Int) (h : n < -2147483648) : clampV n = .tuple #[.int .i32 (-2147483648), .bool true] := by
  simp [clampV, clampS, clampB, h]; omega
theorem clampV_in (n : Int) (h : ¬ 2147483647 < n) (h' : ¬ n < -2147483648) : clampV n = .tuple #[.int .i32 n, .bool false] := by
  simp only [clampV, clampS, clampB]; rw [if_neg h, if_neg h', decide_eq_false (by omega)]

theorem clampV_def (n : Int) : clampV n = .tuple #[.int .i32 (clampS n), .bool (clampB n)] := rfl

theorem over_bd (n d : Int) (h1 : -9223372036854775808 ≤ n) (h2 : n ≤ 9223372036854775807) : -9223372036854775808 ≤ overS n d ∧ overS n d ≤ 9223372036854775807 := by
  unfold overS
  split
  · omega
  · have := qn_le n.natAbs d.natAbs (by omega) (by omega)
    split
    · omega
    · split <;> omega

def bnd (n hi : Int) : Nat := (max 0 (min n hi)).toNat
theorem bnd_cast (n hi : Int) : ((bnd n hi : Nat) : Int) = max 0 (min n hi) := by unfold bnd; omega
theorem bnd62 (n : Int) : bnd n 62 ≤ 62 := by unfold bnd; omega
theorem bnd30 (n : Int) : bnd n 30 ≤ 30 := by unfold bnd; omega
theorem bnd_bnd (n : Int) : bnd (bnd n 30) 62 = bnd n 30 := by unfold bnd; omega
def roundS (n frac : Int) : Int := overS n (pow2 (bnd frac 62))

theorem mul_bd (a b : Int) (h1 : -2147483648 ≤ a) (h2 : a ≤ 2147483647) (h3 : -2147483648 ≤ b) (h4 : b ≤ 2147483647) : -4611686018427387904 ≤ a * b ∧ a * b ≤ 4611686018427387904 := by
  have ha : a.natAbs ≤ 2147483648 := by omega
  have hb : b.natAbs ≤ 2147483648 := by omega
  have hm : (a * b).natAbs ≤ 2147483648 * 2147483648 := by rw [Int.natAbs_mul]; exact Nat.mul_le_mul ha hb
  omega

def beyondS (a : Int) : Int := if 0 < a then 2147483647 else if a < 0 then -2147483648 else 0
def divV (a b f : Int) : Value := if b = 0 then .tuple #[.int .i32 (beyondS a), .bool true] else clampV (overS (a * pow2 (bnd f 30)) b)

end Go.Proofs.YtobgibmpodggkaaGreatDoor
