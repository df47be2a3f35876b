/- Package rec: lengths, errors. -/
import Derived.Test.YtkpncailoekjpaaRec8
import Derived.Deep.DeepCutAuto
namespace Go.Proofs.Ytkpncailoekjpaa
open Go.ChangeShapes Go.WideShapes Go.ChangeAt Go.RowKit
set_option linter.unusedVariables false
set_option linter.unusedSimpArgs false

theorem takK_len (bs : List Int) : (takK bs).1.2.length = 12 := by
  unfold takK; split <;> simp [zer12]
theorem takK_e (bs : List Int) : 0 ≤ (takK bs).2.2 ∧ (takK bs).2.2 ≤ 9 := by
  unfold takK; split <;> simp
theorem tdL_len {bs a : List Int} (ha : a.length = 12) (mask n0 : Nat) (e0 : Int) : ∀ k, (tdL bs a mask n0 e0 k).1.length = 12
  | 0 => ha
  | k + 1 => by
    have h := tdL_len (bs := bs) ha mask n0 e0 k
    show (if _ then _ else _ : List Int × Nat × Int).1.length = 12
    split
    · dsimp only; rw [List.length_set]; exact h
    · exact h
theorem tdL_bd {bs a : List Int} (hz : ∀ x ∈ bs, (Lit.int .u8 x).wf = true) {mask n0 : Nat} {e0 : Int} (hn : n0 ≤ bs.length) (he : 0 ≤ e0 ∧ e0 ≤ 9) : ∀ k, (tdL bs a mask n0 e0 k).2.1 ≤ bs.length ∧ (0 ≤ (tdL bs a mask n0 e0 k).2.2 ∧ (tdL bs a mask n0 e0 k).2.2 ≤ 9) ∧ n0 ≤ (tdL bs a mask n0 e0 k).2.1
  | 0 => ⟨hn, he, Nat.le_refl _⟩
  | k + 1 => by
    have h := tdL_bd (a := a) (mask := mask) hz hn he k
    obtain ⟨⟨v, n, e⟩, hq⟩ : ∃ q, tdL bs a mask n0 e0 k = q := ⟨_, rfl⟩
    rw [hq] at h
    by_cases hb : mask / 2 ^ k % 2 = 1
    · rw [tdL_on hq hb]
      have g := grS_bd (v := a.getD k 0) hz h.1 h.2.1
      exact ⟨g.1, g.2.1, Nat.le_trans h.2.2 g.2.2⟩
    · rw [tdL_off hq hb]; exact h
theorem takD_len (t : Int) {a : List Int} (ha : a.length = 12) (bs : List Int) : (takD t a bs).1.2.length = 12 := by
  unfold takD
  split
  · rfl
  · exact tdL_len ha _ _ _ _
theorem takD_e (t : Int) (a : List Int) {bs : List Int} (hz : ∀ x ∈ bs, (Lit.int .u8 x).wf = true) : 0 ≤ (takD t a bs).2.2 ∧ (takD t a bs).2.2 ≤ 9 := by
  have b1 := nxS_bd (bs := bs) (at_ := 0) (e := 0) (hi := 4294967295) hz (Nat.zero_le _) (by omega) (by omega)
  have b2 := nxS_bd (hi := 4095) hz b1.2.1 (by omega) b1.2.2.1
  have b3 := tdL_bd (a := a) (mask := (nxS bs (nxS bs 0 0 4294967295).2.1 (nxS bs 0 0 4294967295).2.2 4095).1) hz b2.2.1 b2.2.2.1 12
  unfold takD
  split
  · exact b3.2.1
  · simp
theorem takD_bad {t : Int} {a bs : List Int} (h : (takD t a bs).2.2 ≠ 0) : takD t a bs = ((0, zer12), 0, (takD t a bs).2.2) := by
  unfold takD at *
  split
  · rfl
  · rename_i c
    rw [if_neg c] at h
    simp at h

end Go.Proofs.Ytkpncailoekjpaa
