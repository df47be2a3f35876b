/- Package decim: digits behind the point, Put. -/
import Derived.Test.YtobgibmpodggkaaDoorDec
import Derived.Deep.DeepCutAuto
namespace Go.Proofs.YtobgibmpodggkaaDoor
open Go.ChangeShapes Go.WideShapes Go.ChangeAt Go.RowKit
set_option linter.unusedVariables false
set_option linter.unusedSimpArgs false

set_option maxRecDepth 100000 in
set_option maxHeartbeats 2000000 in
theorem behind_any (a F : Nat) (w : World) (hT : Tab w) (hF : F ≤ 6) (ha : a < 10 ^ F) : Calls Tryd.prog 58 #[.int .i64 a, .int .i64 F] w fun e w' => e = .returned (.string (nb (behV F a))) ∧ After w w' := by
  have h6 : (10 : Nat) ^ F ≤ 10 ^ 6 := Nat.pow_le_pow_right (by decide) hF
  have ha6 : a < 1000000 := by omega
  by_cases h0 : a = 0
  case pos =>
    subst h0
    have e : nb (behV F 0) = ⟨#[]⟩ := rfl
    rw [e]
    clear e ha h6
    go_enter Tryd.func58, Tryd.ntmps58
    go_wp2_with fail
    go_ret
    exact ⟨rfl, After.refl _⟩
  have h1 : 1 ≤ F := by
    refine Nat.one_le_iff_ne_zero.2 fun h => ?_
    subst h; simp at ha; exact h0 ha
  have kP := hid (padded_any a F w hT (by omega) (by omega) (by omega))
  rw [padV_eq ha h1] at kP
  have hb : nb (behV F a) = ⟨#[46]⟩ ++ nb (behN F a) := by
    unfold behV; rw [if_neg h0, show 46 :: behN F a = [46] ++ behN F a from rfl, nb_app]; rfl
  rw [hb]
  have hbs := nb_size (behN F a)
  have hbl := behN_len F a
  have hts := nb_size (dgt F a)
  rw [dgt_len] at hts
  have kT := hid (fun U => (show Calls Tryd.prog 65 #[.string (nb (dgt F a)), .string ⟨#[48]⟩] U (fun e w' => e = .returned (.string (nb (behN F a))) ∧ w' = U) from by
    have h := Tryd.strings_TrimRight_one (nb (dgt F a)) 48 (by decide) U (by omega)
    rw [← Lib.trimRightS_one, trim_is] at h
    exact h))
  generalize nb (dgt F a) = T at *
  generalize nb (behN F a) = B at *
  have kA := hid (fun U => tadd (P := Tryd.prog) ⟨#[46]⟩ B (by show 1 + B.size ≤ _; omega) U)
  have hne : (a : Int) ≠ 0 := by omega
  clear hb hbs hbl hts ha h6 hT h1
  go_enter Tryd.func58, Tryd.ntmps58
  go_wp2_with fail
  refine (kP.out).mono ?_
  rintro e V ⟨rfl, hA⟩
  replace hA := hid hA
  go_wp2_with fail
  refine (kT.out _).mono ?_
  rintro e V2 ⟨rfl, rfl⟩
  have kB := kA.out V2
  go_wp2_with fail
  go_ret
  exact ⟨rfl, hA.out⟩
theorem digit_str (c : Nat) (z : Int) (hz : z = c) (hc : c < 256) (w : World) : (convert 90 9 (.slice (some ⟨w.heap.size, 0, none⟩) 1 1)).run Tryd.prog (w.alloc (.cells #[.int .u8 z] 5)) = .ok (.string (nb [c])) (w.alloc (.cells #[.int .u8 z] 5)) := by
  subst hz
  have h := (Row.sl (show Row .u8 5 (w.alloc (.cells #[.int .u8 (c : Int)] 5)) w.heap.size [(c : Int)] from (alloc_new w _).2.2) (by show 1 ≤ maxLen; unfold maxLen; omega)).text (P := Tryd.prog) 90 9 5 Tryd.underlying90 Tryd.underlying5 Tryd.underlying9
  exact h
set_option maxRecDepth 100000 in
set_option maxHeartbeats 2000000 in
theorem rdigits_any (a least : Nat) (w : World) (ha : a < 10000000000000000000) (ha2 : a ≤ 9223372036854775807) (hl : least ≤ 20) : Calls Tryd.prog 50 #[.int .i64 a, .int .i64 least] w fun e w' => e = .returned (.string (nb (digV a least))) ∧ After w w' := by
  have hn : nd a ≤ 19 := nd_le (by simpa using ha)
  obtain ⟨K, hK⟩ : ∃ K, max least (nd a) = K := ⟨_, rfl⟩
  have hK20 : K ≤ 20 := by omega
  have hout := hid (show nb (digV a least) = nb (dgt K a) by unfold digV; rw [hK])
  rw [hout.out]
  replace hout := hid hout
  go_enter Tryd.func50, Tryd.ntmps50
  go_wp2_with fail
  go_loopw [0, 5] (fun x s wr => ∃ j : Nat, j ≤ K ∧ x = .int .i64 ((a / 10 ^ j : Nat) : Int) ∧ s = .string (nb (dgt j a)) ∧ After w wr) (fun _ s _ => K - (match s with | .string b => b.size | _ => 0))
  case atStart => exact ⟨0, Nat.zero_le _, by simp, rfl, After.refl _⟩
  case round =>
    obtain ⟨j, hj, rfl, rfl, hA⟩ := hrel
    have hsz := nb_size (dgt j a)
    rw [dgt_len] at hsz
    have hcons := dgt_cons j a
    have hiff := nd_lt_iff a j
    have hdd : a / 10 ^ j / 10 = a / 10 ^ (j + 1) := by rw [Nat.div_div_eq_div_mul, Nat.pow_succ]
    have hle : a / 10 ^ j ≤ 9223372036854775807 := Nat.le_trans (Nat.div_le_self _ _) ha2
    obtain ⟨X, hX⟩ : ∃ X, a / 10 ^ j = X := ⟨_, rfl⟩
    rw [hX] at hcons hiff hdd hle ⊢
    by_cases hlt : j < K
    case neg =>
      obtain rfl : j = K := by omega
      obtain rfl : X = 0 := by
        have : ¬ j < nd a := by omega
        have := mt hiff.1 this
        omega
      have hge : ¬ ((j : Int) < least) := by omega
      have hs2 : ((nb (dgt j a)).size : Int) = j := by omega
      obtain ⟨T, hTT⟩ : ∃ T, nb (dgt j a) = T := ⟨_, rfl⟩
      rw [hTT] at hs2 ⊢
      replace hTT := hid hTT
      replace hA := hid hA
      clear hcons hiff hdd hX hsz
      go_wp2_with fail
      go_ret
      exact ⟨by rw [hTT.out]; rfl, hA.out⟩
    have hs2 : ((nb (dgt j a)).size : Int) = j := by omega
    have hbig : (dgt (j + 1) a) = [48 + X % 10] ++ dgt j a := hcons
    have hnb : nb (dgt (j + 1) a) = nb [48 + X % 10] ++ nb (dgt j a) := by rw [hbig, nb_app]
    have hsz1 : (nb (dgt (j + 1) a)).size = j + 1 := by rw [nb_size, dgt_len]
    have kc := digit_str (48 + X % 10) (48 + ((X % 10 : Nat) : Int)) (by omega) (by omega) wr
    have hs1 : (nb [48 + X % 10]).size = 1 := nb_size _
    have kA := fun U => tadd (P := Tryd.prog) (nb [48 + X % 10]) (nb (dgt j a)) (by omega) U
    have kA2 := kA (wr.alloc (.cells #[.int .u8 (48 + ((X % 10 : Nat) : Int))] 5))
    rw [← hnb] at kA2
    have er : ((X : Int)).tmod 10 = ((X % 10 : Nat) : Int) := by rw [Int.tmod_eq_emod_of_nonneg (by omega)]; simp
    have eq : ((X : Int)).tdiv 10 = ((X / 10 : Nat) : Int) := by rw [Int.tdiv_eq_ediv_of_nonneg (by omega)]; simp
    rw [hdd] at eq
    obtain ⟨T2, hT2⟩ : ∃ T2, nb (dgt (j + 1) a) = T2 := ⟨_, rfl⟩
    rw [hT2] at hnb hsz1 kA2
    replace hT2 := hid hT2
    generalize nb [48 + X % 10] = T1 at *
    generalize nb (dgt j a) = T at *
    obtain ⟨c, hc⟩ : ∃ c, X % 10 = c := ⟨_, rfl⟩
    have hc10 : c < 10 := by omega
    rw [hc] at er kc kA2
    obtain ⟨Y, hY⟩ : ∃ Y, a / 10 ^ (j + 1) = Y := ⟨_, rfl⟩
    rw [hY] at eq
    have hYle : Y ≤ X := by rw [← hY, ← hdd]; exact Nat.div_le_self _ _
    have w1 : IntKind.u8.wrap (48 + (c : Int)) = 48 + (c : Int) := by rw [IntKind.wrap_u8] <;> omega
    have hA2 := hid (bthen hA (alloc_new wr (.cells #[.int .u8 (48 + (c : Int))] 5)).2.1)
    have hj1 := hid (show j + 1 ≤ K by omega)
    have hYr := hid (show (Y : Int) = ((a / 10 ^ (j + 1) : Nat) : Int) by rw [hY])
    have hcase : (0 < (X : Int)) ∨ ((X : Int) = 0 ∧ (j : Int) < least) := by
      by_cases h : 0 < X
      · exact .inl (by omega)
      · refine .inr ⟨by omega, ?_⟩
        have := mt hiff.2 h
        omega
    clear hcons hbig hnb hiff hdd hX hsz hc hY hA kA
    have hm := hid hsz1
    rcases hcase with h0 | ⟨h0, h1⟩
    · go_wp2_with fail
      go_roundw
      case rel => exact ⟨j + 1, hj1.out, by rw [← hYr.out], by rw [hT2.out], hA2.out⟩
      case measure => simp only; have := hm.out; omega
    · rw [h0] at er eq ⊢
      go_wp2_with fail
      go_roundw
      case rel => exact ⟨j + 1, hj1.out, by rw [← hYr.out], by rw [hT2.out], hA2.out⟩
      case measure => simp only; have := hm.out; omega

end Go.Proofs.YtobgibmpodggkaaDoor
