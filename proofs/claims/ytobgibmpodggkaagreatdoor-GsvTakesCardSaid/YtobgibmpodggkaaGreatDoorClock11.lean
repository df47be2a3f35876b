/- The papers' Take. -/
import Derived.Test.YtobgibmpodggkaaGreatDoorClock10
import Derived.Deep.DeepCutAuto
namespace Go.Proofs.YtobgibmpodggkaaGreatDoor
open Go.ChangeShapes Go.WideShapes Go.ChangeAt Go.RowKit
set_option linter.unusedVariables false

theorem prS_six (a b c d e f : Nat) : okAll (prS [a, b, c, d, e, f]) = dAll [a, b, c, d, e, f] ∧ (dAll [a, b, c, d, e, f] = true → gN (prS [a, b, c, d, e, f]) 0 = pairN a b ∧ gN (prS [a, b, c, d, e, f]) 1 = pairN c d ∧ gN (prS [a, b, c, d, e, f]) 2 = pairN e f) := by
  unfold dAll
  simp only [List.all_cons, List.all_nil, Bool.and_true]
  cases h1 : (dgB a && dgB b)
  · rw [prS_no _ h1]
    rw [← Bool.and_assoc, h1]
    exact ⟨rfl, fun h => by simp at h⟩
  · rw [prS_yes _ h1, ← Bool.and_assoc (dgB a), h1]
    cases h2 : (dgB c && dgB d)
    · rw [prS_no _ h2, ← Bool.and_assoc (dgB c), h2]
      exact ⟨rfl, fun h => by simp at h⟩
    · rw [prS_yes _ h2, ← Bool.and_assoc (dgB c), h2]
      cases h3 : (dgB e && dgB f)
      · rw [prS_no _ h3]
        exact ⟨rfl, fun h => by simp at h⟩
      · rw [prS_yes _ h3]
        exact ⟨rfl, fun _ => ⟨rfl, rfl, rfl⟩⟩
theorem six_of {l : List Nat} (h : 6 ≤ l.length) : ∃ a b c d e f r, l = a :: b :: c :: d :: e :: f :: r ∧ r.length = l.length - 6 := by
  match l, h with
  | a :: b :: c :: d :: e :: f :: r, _ => exact ⟨a, b, c, d, e, f, r, rfl, by simp⟩
  | [a, b, c, d, e], h => simp at h
  | [a, b, c, d], h => simp at h
  | [a, b, c], h => simp at h
  | [a, b], h => simp at h
  | [a], h => simp at h
  | [], h => simp at h
theorem dAll_six {a b c d e f : Nat} (h : dAll [a, b, c, d, e, f] = true) : dgB a = true ∧ dgB b = true ∧ dgB c = true ∧ dgB d = true ∧ dgB e = true ∧ dgB f = true := by
  unfold dAll at h
  simpa using h
theorem sb_from (s : ByteArray) (i : Nat) : sb (s.extract i s.size) = (sb s).drop i := by rw [sb_extract, List.take_of_length_le (by rw [sb_len]; exact Nat.le_refl _)]
theorem pair_bd {a b : Nat} (ha : dgB a = true) (hb : dgB b = true) : 0 ≤ pairN a b ∧ pairN a b ≤ 99 := by
  have h1 := dg_bd ha
  have h2 := dg_bd hb
  unfold pairN; omega
end Go.Proofs.YtobgibmpodggkaaGreatDoor
