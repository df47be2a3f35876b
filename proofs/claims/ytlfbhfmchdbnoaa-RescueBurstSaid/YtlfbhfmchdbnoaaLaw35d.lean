/- The laws of layer 35: BlockBurst. -/
import Derived.Test.YtlfbhfmchdbnoaaLaw35
import Derived.Test.YtlfbhfmchdbnoaaLaw05
import Derived.Deep.DeepCutAuto
namespace Go.Proofs.Ytlfbhfmchdbnoaa
open Go.ChangeShapes Go.WideShapes Go.ChangeAt Go.RowKit
set_option linter.unusedVariables false
set_option linter.unusedSimpArgs false

theorem numL_inj : ∀ {s t : List Int}, (∀ c ∈ s, 0 ≤ c ∧ c ≤ 255) → (∀ c ∈ t, 0 ≤ c ∧ c ≤ 255) → s.length = t.length → numL s = numL t → s = t
  | [], [], _, _, _, _ => rfl
  | [], _ :: _, _, _, h, _ => by simp at h
  | _ :: _, [], _, _, h, _ => by simp at h
  | x :: s, y :: t, hs, ht, hl, hn => by
    have h1 := hs x (by simp)
    have h2 := ht y (by simp)
    unfold numL at hn
    have h3 : x = y := by omega
    have h4 : numL s = numL t := by omega
    rw [h3, numL_inj (fun c hc => hs c (by simp [hc])) (fun c hc => ht c (by simp [hc])) (by simpa using hl) h4]
theorem putB_seal {no : Int} {l : List En} {L : List Int} (h : putB no l = (L, 0)) (hl : ∀ x ∈ l, EnOk x) : ∃ Z, L = crcSeal Z ∧ (∀ m ∈ Z, 0 ≤ m ∧ m ≤ 255) ∧ crcF 65535 L = 0 := by
  unfold putB at h
  split at h
  · split at h
    · cases h
    · have h1 : L = blockB no l := (congrArg Prod.fst h).symm
      refine ⟨fill (hdr no l.length ++ entS (0, zer12) l), h1, ?_, ?_⟩
      · refine bytes_bd (fill_wf (fun z hz => ?_))
        rcases List.mem_append.1 hz with hz | hz
        · exact hdr_wf _ _ z hz
        · exact entS_wf l _ stK0.2.2 hl z hz
      · rw [h1]
        refine crc_seal_zero _ (bytes_bd (fill_wf (fun z hz => ?_)))
        rcases List.mem_append.1 hz with hz | hz
        · exact hdr_wf _ _ z hz
        · exact entS_wf l _ stK0.2.2 hl z hz
  · cases h
end Go.Proofs.Ytlfbhfmchdbnoaa
