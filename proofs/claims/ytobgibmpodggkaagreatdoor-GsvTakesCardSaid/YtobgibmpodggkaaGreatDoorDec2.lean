/- Package decim: digits behind the point, Put. -/
import Derived.Test.YtobgibmpodggkaaGreatDoorDec
import Derived.Deep.DeepCutAuto
namespace Go.Proofs.YtobgibmpodggkaaGreatDoor
open Go.ChangeShapes Go.WideShapes Go.ChangeAt Go.RowKit
set_option linter.unusedVariables false
set_option linter.unusedSimpArgs false

set_option maxRecDepth 100000 in
set_option maxHeartbeats 2000000 in
theorem behind_any (a F : Nat) (w : World) (hT : Tab w) (hF : F ≤ 6) (ha : a < 10 ^ F) : Calls Tryz.prog 53 #[.int .i64 a, .int .i64 F] w fun e w' => e = .returned (.string (nb (behV F a))) ∧ After w w' := by
  have h6 : (10 : Nat) ^ F ≤ 10 ^ 6 := Nat.pow_le_pow_right (by decide) hF
  have ha6 : a < 1000000 := by omega
  by_cases h0 : a = 0
  case pos =>
    subst h0
    have e : nb (behV F 0) = ⟨#[]⟩ := rfl
    rw [e]
    clear e ha h6
    go_enter Tryz.func53, Tryz.ntmps53
    go_wp2_with fail
    go_ret
    exact ⟨rfl, After.refl _⟩
  have h1 : 1 ≤ F := by
    refine Nat.one_le_iff_ne_zero.2 fun h => ?_
    subst h; simp at ha; exact h0 ha
  have kP := hid (padded_any a F w hT (by omega) (by omega) (by omega))
  rw [padV_eq ha h1] at kP
  have hb : nb (behV F a) = ⟨#[46]⟩ ++ nb (behN F a) := by
    unfold behV; rw [if_neg h0, show 46 :: behN F a = [46] ++ behN F a from rfl, nb_app]; rfl
  rw [hb]
  have hbs := nb_size (behN F a)
  have hbl := behN_len F a
  have hts := nb_size (dgt F a)
  rw [dgt_len] at hts
  have kT := hid (fun U => (show Calls Tryz.prog 60 #[.string (nb (dgt F a)), .string ⟨#[48]⟩] U (fun e w' => e = .returned (.string (nb (behN F a))) ∧ w' = U) from by
    have h := Tryz.strings_TrimRight_one (nb (dgt F a)) 48 (by decide) U (by omega)
    rw [← Lib.trimRightS_one, trim_is] at h
    exact h))
  generalize nb (dgt F a) = T at *
  generalize nb (behN F a) = B at *
  have kA := hid (fun U => tadd (P := Tryz.prog) ⟨#[46]⟩ B (by show 1 + B.size ≤ _; omega) U)
  have hne : (a : Int) ≠ 0 := by omega
  clear hb hbs hbl hts ha h6 hT h1
  go_enter Tryz.func53, Tryz.ntmps53
  go_wp2_with fail
  refine (kP.out).mono ?_
  rintro e V ⟨rfl, hA⟩
  replace hA := hid hA
  go_wp2_with fail
  refine (kT.out _).mono ?_
  rintro e V2 ⟨rfl, rfl⟩
  have kB := kA.out V2
  go_wp2_with fail
  go_ret
  exact ⟨rfl, hA.out⟩
theorem digit_str (c : Nat) (z : Int) (hz : z = c) (hc : c < 256) (w : World) : (convert 83 9 (.slice (some ⟨w.heap.size, 0, none⟩) 1 1)).run Tryz.prog (w.alloc (.cells #[.int .u8 z] 5)) = .ok (.string (nb [c])) (w.alloc (.cells #[.int .u8 z] 5)) := by
  subst hz
  have h := (Row.sl (show Row .u8 5 (w.alloc (.cells #[.int .u8 (c : Int)] 5)) w.heap.size [(c : Int)] from (alloc_new w _).2.2) (by show 1 ≤ maxLen; unfold maxLen; omega)).text (P := Tryz.prog) 83 9 5 Tryz.underlying83 Tryz.underlying5 Tryz.underlying9
  exact h
end Go.Proofs.YtobgibmpodggkaaGreatDoor
