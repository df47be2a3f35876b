/- Whole roots, in plain numbers. -/
import Derived.Test.YtpdpcdifnlellaaGreatKA
namespace Go.Proofs.YtpdpcdifnlellaaGreat

def rt : Nat → Nat → Nat → Nat
  | 0, r, _ => r
  | j + 1, r, n => if (r + 2 ^ j) * (r + 2 ^ j) ≤ n then rt j (r + 2 ^ j) n else rt j r n
theorem rt_yes (j r n : Nat) (h : (r + 2 ^ j) * (r + 2 ^ j) ≤ n) : rt (j + 1) r n = rt j (r + 2 ^ j) n := if_pos h
theorem rt_no (j r n : Nat) (h : ¬ (r + 2 ^ j) * (r + 2 ^ j) ≤ n) : rt (j + 1) r n = rt j r n := if_neg h
def sqrtS (n : Nat) : Nat := rt 32 0 n

theorem rt_spec (j : Nat) : ∀ (r n : Nat), r * r ≤ n → n < (r + 2 ^ j) * (r + 2 ^ j) → rt j r n * rt j r n ≤ n ∧ n < (rt j r n + 1) * (rt j r n + 1) := by
  induction j with
  | zero => intro r n h1 h2; simpa [rt] using And.intro h1 h2
  | succ j ih =>
    intro r n h1 h2
    by_cases h : (r + 2 ^ j) * (r + 2 ^ j) ≤ n
    · rw [rt_yes j r n h]
      refine ih _ _ h ?_
      have : r + 2 ^ j + 2 ^ j = r + 2 ^ (j + 1) := by rw [Nat.pow_succ]; omega
      rw [this]; exact h2
    · rw [rt_no j r n h]
      exact ih _ _ h1 (by omega)

theorem sqrtS_spec (n : Nat) (h : n < 18446744073709551616) : sqrtS n * sqrtS n ≤ n ∧ n < (sqrtS n + 1) * (sqrtS n + 1) :=
  rt_spec 32 0 n (Nat.zero_le _) (by simpa using h)
theorem sq_lt {a b : Nat} (h : a * a < b * b) : a < b := by
  apply Nat.lt_of_not_le; intro hh; have := Nat.mul_le_mul hh hh; omega
theorem sqrtS_lt (n : Nat) (h : n < 18446744073709551616) : sqrtS n < 4294967296 := by
  have := (sqrtS_spec n h).1
  exact sq_lt (by omega)
theorem sqrtS_mono (a b : Nat) (hab : a ≤ b) (h : b < 18446744073709551616) : sqrtS a ≤ sqrtS b := by
  have h1 := (sqrtS_spec a (by omega)).1
  have h2 := (sqrtS_spec b h).2
  have : sqrtS a < sqrtS b + 1 := sq_lt (by omega)
  omega
def nearS (n : Nat) : Nat := if sqrtS n < n - sqrtS n * sqrtS n then sqrtS n + 1 else sqrtS n

/-- The squares of all together, cut. -/
def sqs : List Int → Nat → Nat
  | [], s => s
  | x :: r, s => if 18446744073709551615 - s < (x * x).toNat then 18446744073709551615 else sqs r (s + (x * x).toNat)
theorem sqs_le (l : List Int) : ∀ s, s ≤ 18446744073709551615 → sqs l s ≤ 18446744073709551615 := by
  induction l with
  | nil => intro s h; exact h
  | cons x r ih => intro s h; unfold sqs; split
                   · omega
                   · exact ih _ (by omega)
theorem sqs_from (l : List Int) : ∀ s, s ≤ 18446744073709551615 → s ≤ sqs l s := by
  induction l with
  | nil => intro s h; exact Nat.le_refl _
  | cons x r ih => intro s h; unfold sqs; split
                   · exact h
                   · exact Nat.le_trans (by omega) (ih _ (by omega))
theorem sqs_more (l : List Int) (x : Int) : ∀ s, s ≤ 18446744073709551615 → sqs l s ≤ sqs (l ++ [x]) s := by
  induction l with
  | nil => intro s h; exact sqs_from [x] s h
  | cons y r ih => intro s h; show sqs (y :: r) s ≤ sqs (y :: (r ++ [x])) s; unfold sqs; split
                   · exact Nat.le_refl _
                   · exact ih _ (by omega)
def lengthS (l : List Int) : Nat := sqrtS (sqs l 0)
theorem drop_step (l : List Int) (k : Nat) (h : k < l.length) : l.drop k = l.getD k 0 :: l.drop (k + 1) := by
  rw [List.drop_eq_getElem_cons h]; simp [h]

end Go.Proofs.YtpdpcdifnlellaaGreat
