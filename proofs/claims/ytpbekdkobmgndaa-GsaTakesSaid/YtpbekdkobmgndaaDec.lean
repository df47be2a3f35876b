/- Package decim: powers, columns, digits. -/
import Derived.Test.YtpbekdkobmgndaaStr
import Derived.Test.YtpbekdkobmgndaaDecM
import Derived.Test.YtpbekdkobmgndaaKB
import Derived.Test.YtpbekdkobmgndaaShelf
import Derived.Lib.SmallJoins
import Derived.Lib.AppendIntMem
import Derived.Deep.DeepCutAuto
namespace Go.Proofs.Ytpbekdkobmgndaa
open Go.ChangeShapes Go.WideShapes Go.ChangeAt Go.RowKit
set_option linter.unusedVariables false
set_option linter.unusedSimpArgs false

/-- The library's table of the powers of ten lies there. -/
def Tab (w : World) : Prop := Lib.TabIs Try.prog w "internal/strconv.uint64pow10" .u64 Lib.pow10Tab
theorem after_grow {w : World} {k : Nat} {os : Array Obj} : After w (Sort.grow (w.drewN k) os) := Lib.below_grow _ w (Nat.le_refl _) k os
theorem power10_any (k : Nat) (hk : k ≤ 18) (w : World) : Calls Try.prog 39 #[.int .i64 k] w fun e w' => e = .returned (.int .i64 (p10 k)) ∧ w' = w := by
  go_enter Try.func39, Try.ntmps39
  go_wp2
  go_loop [3, 5] (fun p i => ∃ j : Nat, j ≤ k ∧ i = .int .i64 j ∧ p = .int .i64 (p10 j)) (fun _ i => k - (intOf i).toNat)
  case atStart => exact ⟨0, Nat.zero_le _, rfl, rfl⟩
  case round =>
    obtain ⟨j, hj, rfl, rfl⟩ := hrel
    have hp := p10_pos j
    by_cases hlt : j < k
    · have hs := p10_le (k := j + 1) (by omega)
      rw [p10_succ] at hs
      go_wp2
      go_round
      case rel => exact ⟨j + 1, by omega, by go_num, by first | (rw [p10_succ]; done) | (rw [p10_succ, Int.mul_comm]; done) | (rw [p10_succ]; go_num)⟩
      case measure => simp [intOf]; omega
    · go_wp2
      go_ret
      exact ⟨by rw [show k = j from by omega]; rfl, rfl⟩
theorem rten_any (k : Nat) (hk : k ≤ 18) (w : World) : Calls Try.prog 41 #[.int .i64 k] w fun e w' => e = .returned (.int .i64 (p10 k)) ∧ w' = w := by
  go_enter Try.func41, Try.ntmps41
  go_wp2
  go_loop [3, 4] (fun p i => ∃ j : Nat, j ≤ k ∧ i = .int .i64 j ∧ p = .int .i64 (p10 j)) (fun _ i => k - (intOf i).toNat)
  case atStart => exact ⟨0, Nat.zero_le _, rfl, rfl⟩
  case round =>
    obtain ⟨j, hj, rfl, rfl⟩ := hrel
    have hp := p10_pos j
    by_cases hlt : j < k
    · have hs := p10_le (k := j + 1) (by omega)
      rw [p10_succ] at hs
      go_wp2
      go_round
      case rel => exact ⟨j + 1, by omega, by go_num, by first | (rw [p10_succ]; done) | (rw [p10_succ, Int.mul_comm]; done) | (rw [p10_succ]; go_num)⟩
      case measure => simp [intOf]; omega
    · go_wp2
      go_ret
      exact ⟨by rw [show k = j from by omega]; rfl, rfl⟩
set_option maxRecDepth 100000 in
set_option maxHeartbeats 2000000 in
theorem right23_any (W M F lo hi : Int) (hb : (-9223372036854775808 ≤ lo ∧ lo ≤ 9223372036854775807) ∧ (-9223372036854775808 ≤ hi ∧ hi ≤ 9223372036854775807)) (w : World) : Calls Try.prog 35 #[.agg #[.int .i64 W, .int .i64 M, .int .i64 F, .int .i64 lo, .int .i64 hi]] w fun e w' => e = .returned (.bool (rightC W M F lo hi)) ∧ After w w' := by
  by_cases c0 : 1 ≤ W
  case neg =>
    rw [rightC_no fun h => c0 h.1]
    clear hb
    go_enter Try.func35, Try.ntmps35
    go_wp2_with fail
    go_ret
    exact ⟨rfl, (alloc_new _ _).2.1⟩
  by_cases c1 : W ≤ M
  case neg =>
    rw [rightC_no fun h => c1 h.2.1]
    clear hb
    go_enter Try.func35, Try.ntmps35
    go_wp2_with fail
    go_ret
    exact ⟨rfl, (alloc_new _ _).2.1⟩
  by_cases c2 : M ≤ 12
  case neg =>
    rw [rightC_no fun h => c2 h.2.2.1]
    clear hb
    go_enter Try.func35, Try.ntmps35
    go_wp2_with fail
    go_ret
    exact ⟨rfl, (alloc_new _ _).2.1⟩
  by_cases c3 : 0 ≤ F
  case neg =>
    rw [rightC_no fun h => c3 h.2.2.2.1]
    clear hb
    go_enter Try.func35, Try.ntmps35
    go_wp2_with fail
    go_ret
    exact ⟨rfl, (alloc_new _ _).2.1⟩
  by_cases c4 : F ≤ 6
  case neg =>
    rw [rightC_no fun h => c4 h.2.2.2.2.1]
    clear hb
    go_enter Try.func35, Try.ntmps35
    go_wp2_with fail
    go_ret
    exact ⟨rfl, (alloc_new _ _).2.1⟩
  by_cases c5 : lo ≤ hi
  case neg =>
    rw [rightC_no fun h => c5 h.2.2.2.2.2.1]
    clear hb
    go_enter Try.func35, Try.ntmps35
    go_wp2_with fail
    go_ret
    exact ⟨rfl, (alloc_new _ _).2.1⟩
  obtain ⟨k, hk⟩ : ∃ k : Nat, M + F = k := ⟨(M + F).toNat, by omega⟩
  have hk18 : k ≤ 18 := by omega
  have ek : (M + F).toNat = k := by omega
  have hp := p10_pos k
  have hp2 := p10_le hk18
  have wk : IntKind.i64.wrap (M + F) = k := by rw [IntKind.wrap_i64] <;> omega
  have kp := hid (fun U => power10_any k hk18 U)
  obtain ⟨T, hT⟩ : ∃ T, p10 k = T := ⟨_, rfl⟩
  by_cases c6 : -T < lo
  case neg =>
    rw [rightC_no fun h => c6 (by have := h.2.2.2.2.2.2.1; rw [ek, hT] at this; exact this)]
    rw [hT] at kp hp hp2
    have wt : IntKind.i64.wrap (-T) = -T := by rw [IntKind.wrap_i64] <;> omega
    clear hb hT ek hk
    go_enter Try.func35, Try.ntmps35
    go_wp2_with fail
    refine (kp.out _).mono ?_
    rintro e V ⟨rfl, rfl⟩
    go_wp2_with fail
    all_goals go_ret
    all_goals exact ⟨ret_bool (by first | (simp; done) | (simp; omega)), (alloc_new _ _).2.1⟩
  by_cases c7 : hi < T
  case neg =>
    rw [rightC_no fun h => c7 (by have := h.2.2.2.2.2.2.2; rw [ek, hT] at this; exact this)]
    rw [hT] at kp hp hp2
    have wt : IntKind.i64.wrap (-T) = -T := by rw [IntKind.wrap_i64] <;> omega
    clear hb hT ek hk
    go_enter Try.func35, Try.ntmps35
    go_wp2_with fail
    refine (kp.out _).mono ?_
    rintro e V ⟨rfl, rfl⟩
    go_wp2_with fail
    all_goals go_ret
    all_goals exact ⟨ret_bool (by first | (simp; done) | (simp; omega)), (alloc_new _ _).2.1⟩
  rw [rightC_is.2 ⟨c0, c1, c2, c3, c4, c5, by rw [ek, hT]; exact c6, by rw [ek, hT]; exact c7⟩]
  rw [hT] at kp hp hp2
  have wt : IntKind.i64.wrap (-T) = -T := by rw [IntKind.wrap_i64] <;> omega
  have d1 : -T < hi := by omega
  have d2 : lo < T := by omega
  clear hb hT ek hk
  go_enter Try.func35, Try.ntmps35
  go_wp2_with fail
  refine (kp.out _).mono ?_
  rintro e V ⟨rfl, rfl⟩
  go_wp2_with fail
  all_goals go_ret
  all_goals exact ⟨ret_bool (by first | (simp; done) | (simp; omega)), (alloc_new _ _).2.1⟩
set_option maxRecDepth 100000 in
set_option maxHeartbeats 2000000 in
theorem rright23_any (W M F lo hi : Int) (hb : (-9223372036854775808 ≤ lo ∧ lo ≤ 9223372036854775807) ∧ (-9223372036854775808 ≤ hi ∧ hi ≤ 9223372036854775807)) (w : World) : Calls Try.prog 37 #[.agg #[.int .i64 W, .int .i64 M, .int .i64 F, .int .i64 lo, .int .i64 hi]] w fun e w' => e = .returned (.bool (rightC W M F lo hi)) ∧ After w w' := by
  by_cases c0 : 1 ≤ W
  case neg =>
    rw [rightC_no fun h => c0 h.1]
    clear hb
    go_enter Try.func37, Try.ntmps37
    go_wp2_with fail
    go_ret
    exact ⟨rfl, (alloc_new _ _).2.1⟩
  by_cases c1 : W ≤ M
  case neg =>
    rw [rightC_no fun h => c1 h.2.1]
    clear hb
    go_enter Try.func37, Try.ntmps37
    go_wp2_with fail
    go_ret
    exact ⟨rfl, (alloc_new _ _).2.1⟩
  by_cases c2 : M ≤ 12
  case neg =>
    rw [rightC_no fun h => c2 h.2.2.1]
    clear hb
    go_enter Try.func37, Try.ntmps37
    go_wp2_with fail
    go_ret
    exact ⟨rfl, (alloc_new _ _).2.1⟩
  by_cases c3 : 0 ≤ F
  case neg =>
    rw [rightC_no fun h => c3 h.2.2.2.1]
    clear hb
    go_enter Try.func37, Try.ntmps37
    go_wp2_with fail
    go_ret
    exact ⟨rfl, (alloc_new _ _).2.1⟩
  by_cases c4 : F ≤ 6
  case neg =>
    rw [rightC_no fun h => c4 h.2.2.2.2.1]
    clear hb
    go_enter Try.func37, Try.ntmps37
    go_wp2_with fail
    go_ret
    exact ⟨rfl, (alloc_new _ _).2.1⟩
  by_cases c5 : lo ≤ hi
  case neg =>
    rw [rightC_no fun h => c5 h.2.2.2.2.2.1]
    clear hb
    go_enter Try.func37, Try.ntmps37
    go_wp2_with fail
    go_ret
    exact ⟨rfl, (alloc_new _ _).2.1⟩
  obtain ⟨k, hk⟩ : ∃ k : Nat, M + F = k := ⟨(M + F).toNat, by omega⟩
  have hk18 : k ≤ 18 := by omega
  have ek : (M + F).toNat = k := by omega
  have hp := p10_pos k
  have hp2 := p10_le hk18
  have wk : IntKind.i64.wrap (M + F) = k := by rw [IntKind.wrap_i64] <;> omega
  have kp := hid (fun U => rten_any k hk18 U)
  obtain ⟨T, hT⟩ : ∃ T, p10 k = T := ⟨_, rfl⟩
  by_cases c6 : -T < lo
  case neg =>
    rw [rightC_no fun h => c6 (by have := h.2.2.2.2.2.2.1; rw [ek, hT] at this; exact this)]
    rw [hT] at kp hp hp2
    have wt : IntKind.i64.wrap (-T) = -T := by rw [IntKind.wrap_i64] <;> omega
    clear hb hT ek hk
    go_enter Try.func37, Try.ntmps37
    go_wp2_with fail
    refine (kp.out _).mono ?_
    rintro e V ⟨rfl, rfl⟩
    go_wp2_with fail
    all_goals go_ret
    all_goals exact ⟨ret_bool (by first | (simp; done) | (simp; omega)), (alloc_new _ _).2.1⟩
  by_cases c7 : hi < T
  case neg =>
    rw [rightC_no fun h => c7 (by have := h.2.2.2.2.2.2.2; rw [ek, hT] at this; exact this)]
    rw [hT] at kp hp hp2
    have wt : IntKind.i64.wrap (-T) = -T := by rw [IntKind.wrap_i64] <;> omega
    clear hb hT ek hk
    go_enter Try.func37, Try.ntmps37
    go_wp2_with fail
    refine (kp.out _).mono ?_
    rintro e V ⟨rfl, rfl⟩
    go_wp2_with fail
    all_goals go_ret
    all_goals exact ⟨ret_bool (by first | (simp; done) | (simp; omega)), (alloc_new _ _).2.1⟩
  rw [rightC_is.2 ⟨c0, c1, c2, c3, c4, c5, by rw [ek, hT]; exact c6, by rw [ek, hT]; exact c7⟩]
  rw [hT] at kp hp hp2
  have wt : IntKind.i64.wrap (-T) = -T := by rw [IntKind.wrap_i64] <;> omega
  have d1 : -T < hi := by omega
  have d2 : lo < T := by omega
  clear hb hT ek hk
  go_enter Try.func37, Try.ntmps37
  go_wp2_with fail
  refine (kp.out _).mono ?_
  rintro e V ⟨rfl, rfl⟩
  go_wp2_with fail
  all_goals go_ret
  all_goals exact ⟨ret_bool (by first | (simp; done) | (simp; omega)), (alloc_new _ _).2.1⟩
end Go.Proofs.Ytpbekdkobmgndaa
