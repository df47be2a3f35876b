/- Package decim: powers, columns, digits. -/
import Derived.Test.YtobgibmpodggkaaDoorStr
import Derived.Test.YtobgibmpodggkaaDoorDecM
import Derived.Test.YtobgibmpodggkaaDoorKB
import Derived.Test.YtobgibmpodggkaaDoorShelf
import Derived.Lib.SmallJoins
import Derived.Lib.AppendIntMem
import Derived.Deep.DeepCutAuto
namespace Go.Proofs.YtobgibmpodggkaaDoor
open Go.ChangeShapes Go.WideShapes Go.ChangeAt Go.RowKit
set_option linter.unusedVariables false
set_option linter.unusedSimpArgs false

/-- The library's table of the powers of ten lies there. -/
def Tab (w : World) : Prop := Lib.TabIs Tryd.prog w "internal/strconv.uint64pow10" .u64 Lib.pow10Tab
theorem Tab.on {w w' : World} (h : Tab w) (hb : After w w') : Tab w' := by
  obtain ⟨g, hg⟩ := Option.isSome_iff_exists.1 (show (Tryd.prog.globalNamed "internal/strconv.uint64pow10").isSome = true by kernel_rfl)
  exact Joins.tab_stays hg h hb (Nat.le_refl _)
theorem after_grow {w : World} {k : Nat} {os : Array Obj} : After w (Sort.grow (w.drewN k) os) := Lib.below_grow _ w (Nat.le_refl _) k os
theorem power10_any (k : Nat) (hk : k ≤ 18) (w : World) : Calls Tryd.prog 56 #[.int .i64 k] w fun e w' => e = .returned (.int .i64 (p10 k)) ∧ w' = w := by
  go_enter Tryd.func56, Tryd.ntmps56
  go_wp2
  go_loop [3, 5] (fun p i => ∃ j : Nat, j ≤ k ∧ i = .int .i64 j ∧ p = .int .i64 (p10 j)) (fun _ i => k - (intOf i).toNat)
  case atStart => exact ⟨0, Nat.zero_le _, rfl, rfl⟩
  case round =>
    obtain ⟨j, hj, rfl, rfl⟩ := hrel
    have hp := p10_pos j
    by_cases hlt : j < k
    · have hs := p10_le (k := j + 1) (by omega)
      rw [p10_succ] at hs
      go_wp2
      go_round
      case rel => exact ⟨j + 1, by omega, by go_num, by first | (rw [p10_succ]; done) | (rw [p10_succ, Int.mul_comm]; done) | (rw [p10_succ]; go_num)⟩
      case measure => simp [intOf]; omega
    · go_wp2
      go_ret
      exact ⟨by rw [show k = j from by omega]; rfl, rfl⟩
theorem rten_any (k : Nat) (hk : k ≤ 18) (w : World) : Calls Tryd.prog 60 #[.int .i64 k] w fun e w' => e = .returned (.int .i64 (p10 k)) ∧ w' = w := by
  go_enter Tryd.func60, Tryd.ntmps60
  go_wp2
  go_loop [3, 4] (fun p i => ∃ j : Nat, j ≤ k ∧ i = .int .i64 j ∧ p = .int .i64 (p10 j)) (fun _ i => k - (intOf i).toNat)
  case atStart => exact ⟨0, Nat.zero_le _, rfl, rfl⟩
  case round =>
    obtain ⟨j, hj, rfl, rfl⟩ := hrel
    have hp := p10_pos j
    by_cases hlt : j < k
    · have hs := p10_le (k := j + 1) (by omega)
      rw [p10_succ] at hs
      go_wp2
      go_round
      case rel => exact ⟨j + 1, by omega, by go_num, by first | (rw [p10_succ]; done) | (rw [p10_succ, Int.mul_comm]; done) | (rw [p10_succ]; go_num)⟩
      case measure => simp [intOf]; omega
    · go_wp2
      go_ret
      exact ⟨by rw [show k = j from by omega]; rfl, rfl⟩
set_option maxRecDepth 100000 in
set_option maxHeartbeats 2000000 in
theorem right23_any (W M F lo hi : Int) (hb : (-9223372036854775808 ≤ lo ∧ lo ≤ 9223372036854775807) ∧ (-9223372036854775808 ≤ hi ∧ hi ≤ 9223372036854775807)) (w : World) : Calls Tryd.prog 54 #[.agg #[.int .i64 W, .int .i64 M, .int .i64 F, .int .i64 lo, .int .i64 hi]] w fun e w' => e = .returned (.bool (rightC W M F lo hi)) ∧ After w w' := by
  by_cases c0 : 1 ≤ W
  case neg =>
    rw [rightC_no fun h => c0 h.1]
    clear hb
    go_enter Tryd.func54, Tryd.ntmps54
    go_wp2_with fail
    go_ret
    exact ⟨rfl, (alloc_new _ _).2.1⟩
  by_cases c1 : W ≤ M
  case neg =>
    rw [rightC_no fun h => c1 h.2.1]
    clear hb
    go_enter Tryd.func54, Tryd.ntmps54
    go_wp2_with fail
    go_ret
    exact ⟨rfl, (alloc_new _ _).2.1⟩
  by_cases c2 : M ≤ 12
  case neg =>
    rw [rightC_no fun h => c2 h.2.2.1]
    clear hb
    go_enter Tryd.func54, Tryd.ntmps54
    go_wp2_with fail
    go_ret
    exact ⟨rfl, (alloc_new _ _).2.1⟩
  by_cases c3 : 0 ≤ F
  case neg =>
    rw [rightC_no fun h => c3 h.2.2.2.1]
    clear hb
    go_enter Tryd.func54, Tryd.ntmps54
    go_wp2_with fail
    go_ret
    exact ⟨rfl, (alloc_new _ _).2.1⟩
  by_cases c4 : F ≤ 6
  case neg =>
    rw [rightC_no fun h => c4 h.2.2.2.2.1]
    clear hb
    go_enter Tryd.func54, Tryd.ntmps54
    go_wp2_with fail
    go_ret
    exact ⟨rfl, (alloc_new _ _).2.1⟩
  by_cases c5 : lo ≤ hi
  case neg =>
    rw [rightC_no fun h => c5 h.2.2.2.2.2.1]
    clear hb
    go_enter Tryd.func54, Tryd.ntmps54
    go_wp2_with fail
    go_ret
    exact ⟨rfl, (alloc_new _ _).2.1⟩
  obtain ⟨k, hk⟩ : ∃ k : Nat, M + F = k := ⟨(M + F).toNat, by omega⟩
  have hk18 : k ≤ 18 := by omega
  have ek : (M + F).toNat = k := by omega
  have hp := p10_pos k
  have hp2 := p10_le hk18
  have wk : IntKind.i64.wrap (M + F) = k := by rw [IntKind.wrap_i64] <;> omega
  have kp := hid (fun U => power10_any k hk18 U)
  obtain ⟨T, hT⟩ : ∃ T, p10 k = T := ⟨_, rfl⟩
  by_cases c6 : -T < lo
  case neg =>
    rw [rightC_no fun h => c6 (by have := h.2.2.2.2.2.2.1; rw [ek, hT] at this; exact this)]
    rw [hT] at kp hp hp2
    have wt : IntKind.i64.wrap (-T) = -T := by rw [IntKind.wrap_i64] <;> omega
    clear hb hT ek hk
    go_enter Tryd.func54, Tryd.ntmps54
    go_wp2_with fail
    refine (kp.out _).mono ?_
    rintro e V ⟨rfl, rfl⟩
    go_wp2_with fail
    all_goals go_ret
    all_goals exact ⟨ret_bool (by first | (simp; done) | (simp; omega)), (alloc_new _ _).2.1⟩
  by_cases c7 : hi < T
  case neg =>
    rw [rightC_no fun h => c7 (by have := h.2.2.2.2.2.2.2; rw [ek, hT] at this; exact this)]
    rw [hT] at kp hp hp2
    have wt : IntKind.i64.wrap (-T) = -T := by rw [IntKind.wrap_i64] <;> omega
    clear hb hT ek hk
    go_enter Tryd.func54, Tryd.ntmps54
    go_wp2_with fail
    refine (kp.out _).mono ?_
    rintro e V ⟨rfl, rfl⟩
    go_wp2_with fail
    all_goals go_ret
    all_goals exact ⟨ret_bool (by first | (simp; done) | (simp; omega)), (alloc_new _ _).2.1⟩
  rw [rightC_is.2 ⟨c0, c1, c2, c3, c4, c5, by rw [ek, hT]; exact c6, by rw [ek, hT]; exact c7⟩]
  rw [hT] at kp hp hp2
  have wt : IntKind.i64.wrap (-T) = -T := by rw [IntKind.wrap_i64] <;> omega
  have d1 : -T < hi := by omega
  have d2 : lo < T := by omega
  clear hb hT ek hk
  go_enter Tryd.func54, Tryd.ntmps54
  go_wp2_with fail
  refine (kp.out _).mono ?_
  rintro e V ⟨rfl, rfl⟩
  go_wp2_with fail
  all_goals go_ret
  all_goals exact ⟨ret_bool (by first | (simp; done) | (simp; omega)), (alloc_new _ _).2.1⟩
set_option maxRecDepth 100000 in
set_option maxHeartbeats 2000000 in
theorem rright23_any (W M F lo hi : Int) (hb : (-9223372036854775808 ≤ lo ∧ lo ≤ 9223372036854775807) ∧ (-9223372036854775808 ≤ hi ∧ hi ≤ 9223372036854775807)) (w : World) : Calls Tryd.prog 59 #[.agg #[.int .i64 W, .int .i64 M, .int .i64 F, .int .i64 lo, .int .i64 hi]] w fun e w' => e = .returned (.bool (rightC W M F lo hi)) ∧ After w w' := by
  by_cases c0 : 1 ≤ W
  case neg =>
    rw [rightC_no fun h => c0 h.1]
    clear hb
    go_enter Tryd.func59, Tryd.ntmps59
    go_wp2_with fail
    go_ret
    exact ⟨rfl, (alloc_new _ _).2.1⟩
  by_cases c1 : W ≤ M
  case neg =>
    rw [rightC_no fun h => c1 h.2.1]
    clear hb
    go_enter Tryd.func59, Tryd.ntmps59
    go_wp2_with fail
    go_ret
    exact ⟨rfl, (alloc_new _ _).2.1⟩
  by_cases c2 : M ≤ 12
  case neg =>
    rw [rightC_no fun h => c2 h.2.2.1]
    clear hb
    go_enter Tryd.func59, Tryd.ntmps59
    go_wp2_with fail
    go_ret
    exact ⟨rfl, (alloc_new _ _).2.1⟩
  by_cases c3 : 0 ≤ F
  case neg =>
    rw [rightC_no fun h => c3 h.2.2.2.1]
    clear hb
    go_enter Tryd.func59, Tryd.ntmps59
    go_wp2_with fail
    go_ret
    exact ⟨rfl, (alloc_new _ _).2.1⟩
  by_cases c4 : F ≤ 6
  case neg =>
    rw [rightC_no fun h => c4 h.2.2.2.2.1]
    clear hb
    go_enter Tryd.func59, Tryd.ntmps59
    go_wp2_with fail
    go_ret
    exact ⟨rfl, (alloc_new _ _).2.1⟩
  by_cases c5 : lo ≤ hi
  case neg =>
    rw [rightC_no fun h => c5 h.2.2.2.2.2.1]
    clear hb
    go_enter Tryd.func59, Tryd.ntmps59
    go_wp2_with fail
    go_ret
    exact ⟨rfl, (alloc_new _ _).2.1⟩
  obtain ⟨k, hk⟩ : ∃ k : Nat, M + F = k := ⟨(M + F).toNat, by omega⟩
  have hk18 : k ≤ 18 := by omega
  have ek : (M + F).toNat = k := by omega
  have hp := p10_pos k
  have hp2 := p10_le hk18
  have wk : IntKind.i64.wrap (M + F) = k := by rw [IntKind.wrap_i64] <;> omega
  have kp := hid (fun U => rten_any k hk18 U)
  obtain ⟨T, hT⟩ : ∃ T, p10 k = T := ⟨_, rfl⟩
  by_cases c6 : -T < lo
  case neg =>
    rw [rightC_no fun h => c6 (by have := h.2.2.2.2.2.2.1; rw [ek, hT] at this; exact this)]
    rw [hT] at kp hp hp2
    have wt : IntKind.i64.wrap (-T) = -T := by rw [IntKind.wrap_i64] <;> omega
    clear hb hT ek hk
    go_enter Tryd.func59, Tryd.ntmps59
    go_wp2_with fail
    refine (kp.out _).mono ?_
    rintro e V ⟨rfl, rfl⟩
    go_wp2_with fail
    all_goals go_ret
    all_goals exact ⟨ret_bool (by first | (simp; done) | (simp; omega)), (alloc_new _ _).2.1⟩
  by_cases c7 : hi < T
  case neg =>
    rw [rightC_no fun h => c7 (by have := h.2.2.2.2.2.2.2; rw [ek, hT] at this; exact this)]
    rw [hT] at kp hp hp2
    have wt : IntKind.i64.wrap (-T) = -T := by rw [IntKind.wrap_i64] <;> omega
    clear hb hT ek hk
    go_enter Tryd.func59, Tryd.ntmps59
    go_wp2_with fail
    refine (kp.out _).mono ?_
    rintro e V ⟨rfl, rfl⟩
    go_wp2_with fail
    all_goals go_ret
    all_goals exact ⟨ret_bool (by first | (simp; done) | (simp; omega)), (alloc_new _ _).2.1⟩
  rw [rightC_is.2 ⟨c0, c1, c2, c3, c4, c5, by rw [ek, hT]; exact c6, by rw [ek, hT]; exact c7⟩]
  rw [hT] at kp hp hp2
  have wt : IntKind.i64.wrap (-T) = -T := by rw [IntKind.wrap_i64] <;> omega
  have d1 : -T < hi := by omega
  have d2 : lo < T := by omega
  clear hb hT ek hk
  go_enter Tryd.func59, Tryd.ntmps59
  go_wp2_with fail
  refine (kp.out _).mono ?_
  rintro e V ⟨rfl, rfl⟩
  go_wp2_with fail
  all_goals go_ret
  all_goals exact ⟨ret_bool (by first | (simp; done) | (simp; omega)), (alloc_new _ _).2.1⟩
set_option maxRecDepth 100000 in
set_option maxHeartbeats 2000000 in
theorem missing_any (is : Bool) (n lo hi : Int) (w : World) : Calls Tryd.prog 55 #[.agg #[.bool is, .int .i64 n], .int .i64 lo, .int .i64 hi] w fun e w' => e = .returned (.tuple #[.bool (missE is n lo hi == 0 && !is), .int .i64 (missE is n lo hi)]) ∧ After w w' := by
  cases is
  · by_cases h : n = 0
    · have e : missE false n lo hi = 0 := by unfold missE; rw [if_neg (by simp [h])]
      rw [e]
      subst h
      go_enter Tryd.func55, Tryd.ntmps55
      go_wp2_with fail
      go_ret2
      exact ⟨rfl, (alloc_new _ _).2.1⟩
    · have e : missE false n lo hi = 5 := by unfold missE; rw [if_pos (by simp [h])]
      rw [e]
      go_enter Tryd.func55, Tryd.ntmps55
      go_wp2_with fail
      go_ret2
      exact ⟨rfl, (alloc_new _ _).2.1⟩
  · by_cases h1 : n < lo
    · have e : missE true n lo hi = 5 := by unfold missE; rw [if_pos (by simp [h1])]
      rw [e]
      go_enter Tryd.func55, Tryd.ntmps55
      go_wp2_with fail
      go_ret2
      exact ⟨rfl, (alloc_new _ _).2.1⟩
    · by_cases h2 : hi < n
      · have e : missE true n lo hi = 5 := by unfold missE; rw [if_pos (by simp [h2])]
        rw [e]
        go_enter Tryd.func55, Tryd.ntmps55
        go_wp2_with fail
        go_ret2
        exact ⟨rfl, (alloc_new _ _).2.1⟩
      · have e : missE true n lo hi = 0 := by unfold missE; rw [if_neg (by simp; omega)]
        rw [e]
        go_enter Tryd.func55, Tryd.ntmps55
        go_wp2_with fail
        go_ret2
        exact ⟨rfl, (alloc_new _ _).2.1⟩
set_option maxRecDepth 100000 in
set_option maxHeartbeats 2000000 in
theorem padded_any (a d : Nat) (w : World) (hT : Tab w) (ha : a < 10000000000000000000) (ha2 : a ≤ 9223372036854775807) (hd : d ≤ 20) : Calls Tryd.prog 57 #[.int .i64 a, .int .i64 d] w fun e w' => e = .returned (.string (nb (padV a d))) ∧ After w w' := by
  have kF := hid ((Tryd.strconv_FormatInt_10 (a : Int) (by omega) (by omega) w hT))
  rw [itoa_is] at kF
  have hn : Lib.nDigits a ≤ 19 := by
    have h0 := Lib.nDigits_pos a
    have h1 : nd a ≤ 19 := nd_le (by simpa using ha)
    unfold nd at h1
    split at h1
    · rename_i h; subst h; rw [Lib.nDigits_small (by decide)]; omega
    · exact h1
  have hs := nb_size (dgt (Lib.nDigits a) a)
  rw [dgt_len] at hs
  have hpad := hid (padV_is a d)
  obtain ⟨k, hk⟩ : ∃ k, Lib.nDigits a = k := ⟨_, rfl⟩
  rw [hk] at kF hn hs hpad
  obtain ⟨T, hTx⟩ : ∃ T, nb (dgt k a) = T := ⟨_, rfl⟩
  rw [hTx] at kF hs
  obtain ⟨c, hc⟩ : ∃ c, d - k = c := ⟨_, rfl⟩
  rw [hc] at hpad
  have kR := hid (fun U => (show Calls Tryd.prog 64 #[.string ⟨#[48]⟩, .int .i64 (c : Int)] U (fun e w' => e = .returned (.string (nb (List.replicate c 48))) ∧ After U w') from rep_is c ▸ Tryd.strings_Repeat ⟨#[48]⟩ c U (by omega) (by show 1 * c ≤ _; omega)))
  have hR := nb_size (List.replicate c 48)
  rw [List.length_replicate] at hR
  have hout : nb (List.replicate c 48) ++ T = nb (padV a d) := by rw [← hTx, ← nb_app, hpad.out]
  rw [← hout]
  generalize nb (List.replicate c 48) = RR at *
  have kA := hid (fun U => tadd (P := Tryd.prog) RR T (by omega) U)
  replace hs := hid hs
  replace hR := hid hR
  clear hTx hout hT ha ha2 hpad hk
  go_enter Tryd.func57, Tryd.ntmps57
  go_wp2_with fail
  refine (kF.out).mono ?_
  rintro e V ⟨rfl, kk, os, rfl⟩
  have hA := hid (after_grow (w := w) (k := kk) (os := os))
  generalize Sort.grow (w.drewN kk) os = V at hA ⊢
  have hs2 : (T.size : Int) = k := by have := hs.out; omega
  have em : max (0 : Int) ((d : Int) - k) = c := by omega
  have wc : IntKind.i64.wrap ((d : Int) - k) = (d : Int) - k := by rw [IntKind.wrap_i64] <;> omega
  go_wp2_with fail
  refine (kR.out _).mono ?_
  rintro e V2 ⟨rfl, hA2⟩
  replace hA := hid (bthen hA.out hA2)
  have kB := kA.out V2
  go_wp2_with fail
  go_ret
  exact ⟨rfl, hA.out⟩

end Go.Proofs.YtobgibmpodggkaaDoor
