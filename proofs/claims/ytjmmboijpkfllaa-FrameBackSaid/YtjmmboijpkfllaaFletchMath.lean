/- Fletcher's sums, in plain numbers. -/
import Derived.Test.YtjmmboijpkfllaaKA
namespace Go.Proofs.Ytjmmboijpkfllaa

def flS : Int → Int → List Int → Int × Int
  | a, b, [] => (a, b)
  | a, b, c :: r => flS ((a + c) % 256) ((b + (a + c)) % 256) r
theorem flS_cons (a b c : Int) (r : List Int) : flS a b (c :: r) = flS ((a + c) % 256) ((b + (a + c)) % 256) r := rfl
theorem flS_append (l m : List Int) : ∀ a b, flS a b (l ++ m) = flS (flS a b l).1 (flS a b l).2 m := by
  induction l with
  | nil => intro a b; rfl
  | cons c r ih => intro a b; exact ih _ _
theorem flS_bd (l : List Int) : ∀ a b, 0 ≤ a ∧ a ≤ 255 → 0 ≤ b ∧ b ≤ 255 → (0 ≤ (flS a b l).1 ∧ (flS a b l).1 ≤ 255) ∧ 0 ≤ (flS a b l).2 ∧ (flS a b l).2 ≤ 255 := by
  induction l with
  | nil => intro a b h1 h2; exact ⟨h1, h2⟩
  | cons c r ih => intro a b _ _; exact ih _ _ (by omega) (by omega)
theorem drop_step (l : List Int) (k : Nat) (h : k < l.length) : l.drop k = l.getD k 0 :: l.drop (k + 1) := by
  rw [List.drop_eq_getElem_cons h]; simp [h]

end Go.Proofs.Ytjmmboijpkfllaa
