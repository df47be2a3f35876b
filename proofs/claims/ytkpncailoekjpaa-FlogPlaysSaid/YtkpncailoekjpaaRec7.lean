/- Package rec: TakeDelta. -/
import Derived.Test.YtkpncailoekjpaaRec6
import Derived.Deep.DeepCutAuto
namespace Go.Proofs.Ytkpncailoekjpaa
open Go.ChangeShapes Go.WideShapes Go.ChangeAt Go.RowKit
set_option linter.unusedVariables false
set_option linter.unusedSimpArgs false

theorem and1_u64 (n : Int) : bits .and .u64 n 1 = n % 2 := by
  have h1 : (BitVec.ofInt 64 1).toNat = 2 ^ 1 - 1 := by decide
  have key : (BitVec.ofInt 64 n &&& BitVec.ofInt 64 1).toNat = (n % ((2 ^ 64 : Nat) : Int)).toNat % 2 ^ 1 := by
    rw [BitVec.toNat_and, BitVec.toNat_ofInt, h1, Nat.and_two_pow_sub_one_eq_mod]
  show IntKind.u64.wrap ((BitVec.ofInt 64 n &&& BitVec.ofInt 64 1).toNat : Nat) = n % 2
  rw [key, IntKind.wrap_u64]
  omega
/-- The numbers behind the first k places; how far it was read; the error. -/
def tdL (bs a : List Int) (mask n0 : Nat) (e0 : Int) : Nat → List Int × Nat × Int
  | 0 => (a, n0, e0)
  | k + 1 => if mask / 2 ^ k % 2 = 1 then ((tdL bs a mask n0 e0 k).1.set k (grS bs (tdL bs a mask n0 e0 k).2.1 (tdL bs a mask n0 e0 k).2.2 (a.getD k 0)).1, (grS bs (tdL bs a mask n0 e0 k).2.1 (tdL bs a mask n0 e0 k).2.2 (a.getD k 0)).2.1, (grS bs (tdL bs a mask n0 e0 k).2.1 (tdL bs a mask n0 e0 k).2.2 (a.getD k 0)).2.2) else tdL bs a mask n0 e0 k
theorem tdL_on {bs a : List Int} {mask n0 : Nat} {e0 : Int} {k : Nat} {v : List Int} {n : Nat} {e : Int} (h : tdL bs a mask n0 e0 k = (v, n, e)) (hb : mask / 2 ^ k % 2 = 1) : tdL bs a mask n0 e0 (k + 1) = (v.set k (grS bs n e (a.getD k 0)).1, (grS bs n e (a.getD k 0)).2.1, (grS bs n e (a.getD k 0)).2.2) := by
  show (if _ then _ else _) = _
  rw [if_pos hb, h]
theorem tdL_off {bs a : List Int} {mask n0 : Nat} {e0 : Int} {k : Nat} {v : List Int} {n : Nat} {e : Int} (h : tdL bs a mask n0 e0 k = (v, n, e)) (hb : ¬ mask / 2 ^ k % 2 = 1) : tdL bs a mask n0 e0 (k + 1) = (v, n, e) := by
  show (if _ then _ else _) = _
  rw [if_neg hb, h]
def takD (t : Int) (a bs : List Int) : (Int × List Int) × Int × Int :=
  if (tdL bs a (nxS bs (nxS bs 0 0 4294967295).2.1 (nxS bs 0 0 4294967295).2.2 4095).1 (nxS bs (nxS bs 0 0 4294967295).2.1 (nxS bs 0 0 4294967295).2.2 4095).2.1 (nxS bs (nxS bs 0 0 4294967295).2.1 (nxS bs 0 0 4294967295).2.2 4095).2.2 12).2.2 ≠ 0 then ((0, zer12), 0, (tdL bs a (nxS bs (nxS bs 0 0 4294967295).2.1 (nxS bs 0 0 4294967295).2.2 4095).1 (nxS bs (nxS bs 0 0 4294967295).2.1 (nxS bs 0 0 4294967295).2.2 4095).2.1 (nxS bs (nxS bs 0 0 4294967295).2.1 (nxS bs 0 0 4294967295).2.2 4095).2.2 12).2.2)
  else (((t + ((nxS bs 0 0 4294967295).1 : Nat)) % 4294967296, (tdL bs a (nxS bs (nxS bs 0 0 4294967295).2.1 (nxS bs 0 0 4294967295).2.2 4095).1 (nxS bs (nxS bs 0 0 4294967295).2.1 (nxS bs 0 0 4294967295).2.2 4095).2.1 (nxS bs (nxS bs 0 0 4294967295).2.1 (nxS bs 0 0 4294967295).2.2 4095).2.2 12).1), ((tdL bs a (nxS bs (nxS bs 0 0 4294967295).2.1 (nxS bs 0 0 4294967295).2.2 4095).1 (nxS bs (nxS bs 0 0 4294967295).2.1 (nxS bs 0 0 4294967295).2.2 4095).2.1 (nxS bs (nxS bs 0 0 4294967295).2.1 (nxS bs 0 0 4294967295).2.2 4095).2.2 12).2.1 : Nat), 0)
theorem takD_at {t : Int} {a bs : List Int} {u1 n1 m2 n2 n : Nat} {e1 e2 e : Int} {v : List Int} (h1 : nxS bs 0 0 4294967295 = (u1, n1, e1)) (h2 : nxS bs n1 e1 4095 = (m2, n2, e2)) (h3 : tdL bs a m2 n2 e2 12 = (v, n, e)) : takD t a bs = if e ≠ 0 then ((0, zer12), 0, e) else (((t + (u1 : Nat)) % 4294967296, v), (n : Int), 0) := by
  unfold takD
  rw [h1]
  dsimp only
  rw [h2]
  dsimp only
  rw [h3]
theorem rx_only {p : Nat} {U W : World} (h : Only p U W) : RX (some p) U W := ⟨Nat.le_of_eq h.size.symm, fun k _ hk => h.block k (fun e => hk (by rw [e]))⟩
theorem grS_bd {bs : List Int} (hz : ∀ x ∈ bs, (Lit.int .u8 x).wf = true) {at_ : Nat} {e v : Int} (hat : at_ ≤ bs.length) (he : 0 ≤ e ∧ e ≤ 9) : (grS bs at_ e v).2.1 ≤ bs.length ∧ (0 ≤ (grS bs at_ e v).2.2 ∧ (grS bs at_ e v).2.2 ≤ 9) ∧ at_ ≤ (grS bs at_ e v).2.1 := by
  have h := nxS_bd (hi := 18446744073709551615) hz hat (Nat.le_refl _) he
  unfold grS
  generalize nxS bs at_ e 18446744073709551615 = q at *
  split
  · exact ⟨h.2.1, h.2.2.1, h.2.2.2⟩
  · split
    · exact ⟨h.2.1, by simp, h.2.2.2⟩
    · exact ⟨h.2.1, by simp, h.2.2.2⟩
end Go.Proofs.Ytkpncailoekjpaa
