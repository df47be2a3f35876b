/- Package rec: reader: next, grown. -/
import Derived.Test.YtkpncailoekjpaaRec5
import Derived.Deep.DeepCutAuto
namespace Go.Proofs.Ytkpncailoekjpaa
open Go.ChangeShapes Go.WideShapes Go.ChangeAt Go.RowKit
set_option linter.unusedVariables false
set_option linter.unusedSimpArgs false

/-- The next number, at most hi, of some bytes. -/
def nxS (bs : List Int) (at_ : Nat) (e : Int) (hi : Nat) : Nat × Nat × Int :=
  if e ≠ 0 then (0, at_, e) else if (takeS (bs.drop at_) 0 0).2.2 ≠ 0 then (0, at_, ((takeS (bs.drop at_) 0 0).2.2 : Int)) else if hi < (takeS (bs.drop at_) 0 0).1 then (0, at_, 5) else ((takeS (bs.drop at_) 0 0).1, at_ + (takeS (bs.drop at_) 0 0).2.1, 0)
/-- v, and as much as the next number says. -/
def grS (bs : List Int) (at_ : Nat) (e : Int) (v : Int) : Int × Nat × Int :=
  if (nxS bs at_ e 18446744073709551615).2.2 ≠ 0 then (0, (nxS bs at_ e 18446744073709551615).2.1, (nxS bs at_ e 18446744073709551615).2.2) else
  if zagS (nxS bs at_ e 18446744073709551615).1 = 0 ∨ 2147483647 - v < zagS (nxS bs at_ e 18446744073709551615).1 ∨ zagS (nxS bs at_ e 18446744073709551615).1 < -2147483648 - v then (0, (nxS bs at_ e 18446744073709551615).2.1, 5) else
  (v + zagS (nxS bs at_ e 18446744073709551615).1, (nxS bs at_ e 18446744073709551615).2.1, 0)
theorem nxS_bd {bs : List Int} (hz : ∀ x ∈ bs, (Lit.int .u8 x).wf = true) {at_ : Nat} {e : Int} {hi : Nat} (hat : at_ ≤ bs.length) (hh : hi ≤ 18446744073709551615) (he : 0 ≤ e ∧ e ≤ 9) : (nxS bs at_ e hi).1 ≤ hi ∧ (nxS bs at_ e hi).2.1 ≤ bs.length ∧ (0 ≤ (nxS bs at_ e hi).2.2 ∧ (nxS bs at_ e hi).2.2 ≤ 9) ∧ at_ ≤ (nxS bs at_ e hi).2.1 := by
  have h1 := takeS_err (bs.drop at_) 0 0
  have h2 := takeS_ok (bs.drop at_) (bytes_bd (fun x hx => hz x (List.mem_of_mem_drop hx)))
  rw [List.length_drop] at h2
  unfold nxS
  generalize takeS (bs.drop at_) 0 0 = q at *
  by_cases c1 : e ≠ 0
  · rw [if_pos c1]; exact ⟨by simp, hat, he, Nat.le_refl _⟩
  · rw [if_neg c1]
    by_cases c2 : q.2.2 ≠ 0
    · rw [if_pos c2]; exact ⟨by simp, hat, by dsimp only; omega, Nat.le_refl _⟩
    · rw [if_neg c2]
      have h3 := h2 (Decidable.not_not.1 c2)
      by_cases c3 : hi < q.1
      · rw [if_pos c3]; exact ⟨by simp, hat, by simp, Nat.le_refl _⟩
      · rw [if_neg c3]; exact ⟨by dsimp only; omega, by dsimp only; omega, by simp, by dsimp only; omega⟩
theorem Only.rf (p : Nat) (U : World) : Only p U U := ⟨rfl, rfl, rfl, rfl, fun _ _ => rfl⟩
theorem Only.rd {p : Nat} {U V : World} (h : Only p U.drew V) : Only p U V := ⟨h.os, h.tape, h.output, h.size, h.block⟩
end Go.Proofs.Ytkpncailoekjpaa
