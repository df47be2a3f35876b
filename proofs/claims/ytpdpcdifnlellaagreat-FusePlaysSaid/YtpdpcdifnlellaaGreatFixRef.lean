/- What each function of the document's answers for layer 1 comes to: contracts, by walking their text. -/
import Derived.Test.YtpdpcdifnlellaaGreatFix
namespace Go.Proofs.YtpdpcdifnlellaaGreat
open Go.ChangeShapes Go.WideShapes Go.ChangeAt Go.RowKit

theorem rfar_any (n : Int) (w : World) (h1 : -9223372036854775808 ≤ n) (h2 : n ≤ 9223372036854775807) :
    Calls Tryz.prog 78 #[.int .i64 n] w fun e w' => e = .returned (.int .u64 n.natAbs) ∧ w' = w := by
  by_cases h : n < 0
  · go_enter Tryz.func78, Tryz.ntmps78
    go_wp2
    go_ret
    exact ⟨ret_int (by omega), rfl⟩
  · go_enter Tryz.func78, Tryz.ntmps78
    go_wp2
    go_ret
    exact ⟨ret_int (by omega), rfl⟩

set_option maxHeartbeats 2000000 in
theorem rover_any (n d : Int) (w : World) (h1 : -9223372036854775808 ≤ n) (h2 : n ≤ 9223372036854775807) (h3 : -9223372036854775808 ≤ d) (h4 : d ≤ 9223372036854775807) :
    Calls Tryz.prog 53 #[.int .i64 n, .int .i64 d] w fun e w' => e = .returned (.int .i64 (overS n d)) ∧ w' = w := by
  by_cases h : d = 0
  · subst h
    go_enter Tryz.func53, Tryz.ntmps53
    go_wp2
    go_ret
    exact ⟨ret_int rfl, rfl⟩
  · have hd0 : 0 < d.natAbs := by omega
    have hq0 := qn_le n.natAbs d.natAbs (by omega) hd0
    have HS : Go.RowKit.Hid (overS n d = if n < 0 ∧ ¬ d < 0 ∨ ¬ n < 0 ∧ d < 0 then -(qn n.natAbs d.natAbs : Int) else if qn n.natAbs d.natAbs ≤ 9223372036854775807 then (qn n.natAbs d.natAbs : Int) else 9223372036854775807) := if_neg h
    have ha0 : n.natAbs ≤ 9223372036854775808 := by omega
    have hb0 : d.natAbs ≤ 9223372036854775808 := by omega
    have ha1 : Go.RowKit.Hid (n.natAbs = n.natAbs) := rfl
    by_cases hn : n < 0 <;> by_cases hdn : d < 0
    all_goals
      first
        | have hE : (decide (n < 0) == decide (d < 0)) = true := by simp [hn, hdn]
        | have hE : (decide (n < 0) == decide (d < 0)) = false := by simp [hn, hdn]
      go_enter Tryz.func53, Tryz.ntmps53
      go_wp2_with fail
      refine (rfar_any _ _ h1 h2).mono ?_
      rintro e w' ⟨rfl, rfl⟩
      go_wp2_with fail
      refine (rfar_any _ _ h3 h4).mono ?_
      rintro e w' ⟨rfl, rfl⟩
      clear ha1
      have hm := Nat.mod_lt n.natAbs hd0
      have hdv : n.natAbs / d.natAbs ≤ n.natAbs := Nat.div_le_self n.natAbs d.natAbs
      have HQ : Go.RowKit.Hid (qn n.natAbs d.natAbs = if d.natAbs - n.natAbs % d.natAbs ≤ n.natAbs % d.natAbs then n.natAbs / d.natAbs + 1 else n.natAbs / d.natAbs) := rfl
      generalize n.natAbs = a at *
      generalize d.natAbs = b at *
      have eq1 : (a : Int) / (b : Int) = ((a / b : Nat) : Int) := rfl
      have er1 : (a : Int) % (b : Int) = ((a % b : Nat) : Int) := rfl
      generalize a / b = q at *
      generalize a % b = r at *
      have hbi : (b : Int) ≠ 0 := by omega
      have hr1 := hid er1
      have he1 := hid eq1
      have hq2 := hid hq0
      clear hq0
      by_cases c1 : (b : Int) - r ≤ r <;> by_cases c2 : q = 0
      all_goals
        have hq3 := hq2.out
        rw [HQ.out] at hq3
        first | rw [if_pos (by omega)] at hq3 | rw [if_neg (by omega)] at hq3
        try subst c2
        try rw [show ((0 : Nat) : Int) = 0 from rfl]
        go_wp2_with fail
        all_goals
          go_ret
          refine ⟨ret_int ?_, rfl⟩
          have e1 := HS.out
          have e2 := HQ.out
          have e3 := hq2.out
          have e4 := hr1.out
          have e5 := he1.out
          clear HS HQ hq2 hr1 he1
          first
            | rw [if_pos (by omega)] at e1
            | rw [if_neg (by omega)] at e1
          rw [e1]
          clear e1
          (repeat' split at e2) <;> (repeat' split) <;> omega

theorem rpower_nat (k : Nat) (hk : k ≤ 62) (w : World) :
    Calls Tryz.prog 79 #[.int .i64 k] w fun e w' => e = .returned (.int .i64 (pow2 k)) ∧ w' = w := by
  go_enter Tryz.func79, Tryz.ntmps79
  go_wp2
  go_loop [3, 4] (fun p i => ∃ j : Nat, j ≤ k ∧ i = .int .i64 j ∧ p = .int .i64 (pow2 j)) (fun _ i => k - (intOf i).toNat)
  case atStart => exact ⟨0, Nat.zero_le _, rfl, rfl⟩
  case round =>
    obtain ⟨j, hj, rfl, rfl⟩ := hrel
    have hp := pow2_pos j
    by_cases hlt : j < k
    · have hs := pow2_le (j + 1) (by omega)
      rw [pow2_succ] at hs
      go_wp2
      go_round
      case rel => exact ⟨j + 1, by omega, by go_num, by rw [pow2_succ]; go_num⟩
      case measure => simp [intOf]; omega
    · go_wp2
      go_ret
      exact ⟨by rw [show k = j from by omega]; rfl, rfl⟩

theorem rpower_any (n : Int) (h0 : 0 ≤ n) (hk : n ≤ 62) (w : World) :
    Calls Tryz.prog 79 #[.int .i64 n] w fun e w' => e = .returned (.int .i64 (pow2 n.toNat)) ∧ w' = w := by
  obtain ⟨k, rfl⟩ := Int.eq_ofNat_of_zero_le h0
  exact rpower_nat k (by omega) w

theorem bnd_lo (f hi : Int) (h : f < 0) : bnd f hi = 0 := by unfold bnd; omega
theorem bnd_hi62 (f : Int) (h : 62 < f) : bnd f 62 = 62 := by unfold bnd; omega
theorem bnd_hi30 (f : Int) (h : 30 < f) : bnd f 30 = 30 := by unfold bnd; omega
theorem bnd_in (f hi : Int) (h : ¬ f < 0) (h' : ¬ hi < f) : bnd f hi = f.toNat := by unfold bnd; omega

theorem rround_any (n f : Int) (w : World) (h1 : -9223372036854775808 ≤ n) (h2 : n ≤ 9223372036854775807) :
    Calls Tryz.prog 56 #[.int .i64 n, .int .i64 f] w fun e w' => e = .returned (.int .i64 (roundS n f)) ∧ w' = w := by
  have hp := hid (pow2_le (bnd f 62) (bnd62 f))
  have hq := hid (pow2_pos (bnd f 62))
  by_cases c1 : f < 0
  · have hb := hid (bnd_lo f 62 c1)
    go_enter Tryz.func56, Tryz.ntmps56
    go_wp2_with fail
    refine (rpower_any _ (by omega) (by omega) _).mono ?_
    rintro e w' ⟨rfl, rfl⟩
    have hp1 := hp.out
    have hq1 := hq.out
    rw [hb.out] at hp1 hq1
    go_wp2_with fail
    refine (rover_any n (pow2 0) _ h1 h2 (by omega) (by omega)).mono ?_
    rintro e w' ⟨rfl, rfl⟩
    go_wp2_with fail
    go_ret
    exact ⟨by unfold roundS; rw [hb.out]; rfl, rfl⟩
  · by_cases c2 : 62 < f
    · have hb := hid (bnd_hi62 f c2)
      go_enter Tryz.func56, Tryz.ntmps56
      go_wp2_with fail
      refine (rpower_any _ (by omega) (by omega) _).mono ?_
      rintro e w' ⟨rfl, rfl⟩
      have hp1 := hp.out
      have hq1 := hq.out
      rw [hb.out] at hp1 hq1
      go_wp2_with fail
      refine (rover_any n (pow2 62) _ h1 h2 (by omega) (by omega)).mono ?_
      rintro e w' ⟨rfl, rfl⟩
      go_wp2_with fail
      go_ret
      exact ⟨by unfold roundS; rw [hb.out]; rfl, rfl⟩
    · have hb := hid (bnd_in f 62 c1 c2)
      go_enter Tryz.func56, Tryz.ntmps56
      go_wp2_with fail
      refine (rpower_any _ (by omega) (by omega) _).mono ?_
      rintro e w' ⟨rfl, rfl⟩
      have hp1 := hp.out
      have hq1 := hq.out
      rw [hb.out] at hp1 hq1
      go_wp2_with fail
      refine (rover_any n _ _ h1 h2 (by omega) (by omega)).mono ?_
      rintro e w' ⟨rfl, rfl⟩
      go_wp2_with fail
      go_ret
      exact ⟨by unfold roundS; rw [hb.out]; rfl, rfl⟩

theorem rclamp_any (x : Int) (w : World) (h1 : -9223372036854775808 ≤ x) (h2 : x ≤ 9223372036854775807) :
    Calls Tryz.prog 55 #[.int .i64 x] w fun e w' => e = .returned (clampV x) ∧ w' = w := by
  by_cases c1 : 2147483647 < x
  · have HV := hid (clampV_hi x c1)
    go_enter Tryz.func55, Tryz.ntmps55
    go_wp2
    go_ret2
    exact ⟨by rw [HV.out]; rfl, rfl⟩
  · by_cases c2 : x < -2147483648
    · have HV := hid (clampV_lo x c2)
      go_enter Tryz.func55, Tryz.ntmps55
      go_wp2
      go_ret2
      exact ⟨by rw [HV.out]; rfl, rfl⟩
    · have HV := hid (clampV_in x c1 c2)
      go_enter Tryz.func55, Tryz.ntmps55
      go_wp2
      go_ret2
      exact ⟨by rw [HV.out]; rfl, rfl⟩

end Go.Proofs.YtpdpcdifnlellaaGreat
