/- The laws of layer 1, walked: each returns true, whatever the numbers are. -/
import Derived.Test.YtgmmpginffpjeaaFixKnows
namespace Go.Proofs.Ytgmmpginffpjeaa
open Go.ChangeShapes Go.WideShapes Go.ChangeAt Go.RowKit
set_option linter.unusedVariables false

theorem law_FixTells (a0 a1 a2 : Int) (w0 : (Lit.int .i64 a0).wf = true) (w1 : (Lit.int .i64 a1).wf = true) (w2 : (Lit.int .i64 a2).wf = true) (w : World) :
    Calls Try.prog 3 #[.int .i64 a0, .int .i64 a1, .int .i64 a2] w fun e w' => e = .returned (.bool true) ∧ Below w.heap.size w w' := by
  obtain ⟨b1, b2⟩ := bounds_i64 w0
  obtain ⟨b3, b4⟩ := bounds_i64 w1
  go_enter Try.func3, Try.ntmps3
  go_wp2_with fail
  refine (clamp_any _ _ b1 b2).mono ?_
  rintro e v1 ⟨rfl, hb1⟩
  rw [clampV_def]
  go_wp2_with fail
  refine (rclamp_any _ _ b1 b2).mono ?_
  rintro e v2 ⟨rfl, rfl⟩
  rw [clampV_def]
  go_wp2_with fail
  refine (over_any _ _ _ b1 b2 b3 b4).mono ?_
  rintro e v2 ⟨rfl, k, rfl⟩
  go_wp2_with fail
  refine (rover_any _ _ _ b1 b2 b3 b4).mono ?_
  rintro e v2 ⟨rfl, rfl⟩
  go_wp2_with fail
  refine (round_any _ _ _ b1 b2).mono ?_
  rintro e v2 ⟨rfl, k, rfl⟩
  go_wp2_with fail
  refine (rround_any _ _ _ b1 b2).mono ?_
  rintro e v2 ⟨rfl, rfl⟩
  go_wp2_with fail
  refine (knows01_any _).mono ?_
  rintro e v3 ⟨rfl, hb3⟩
  go_wp2_with fail
  go_ret
  exact ⟨rfl, bthen hb1 (bthen (bdrewN (Below.refl _ _) _) hb3)⟩

theorem right_any (n i : Int) (h1 : -9223372036854775808 ≤ i) (h2 : i ≤ 9223372036854775807) (hn : n = clampS i) (w : World) :
    Calls Try.prog 26 #[.int .i32 n, .bool (clampB i), .int .i64 i] w fun e w' => e = .returned (.bool true) ∧ w' = w := by
  by_cases c1 : 2147483647 < i
  · have e1 : clampS i = 2147483647 := if_pos c1
    have e2 : clampB i = true := by unfold clampB; exact decide_eq_true (by omega)
    rw [e2]
    obtain rfl : n = 2147483647 := by rw [hn, e1]
    clear e1 e2 hn
    go_enter Try.func26, Try.ntmps26
    go_wp2
    go_ret
    exact ⟨rfl, rfl⟩
  · by_cases c2 : i < -2147483648
    · have e1 : clampS i = -2147483648 := by unfold clampS; rw [if_neg c1, if_pos c2]
      have e2 : clampB i = true := by unfold clampB; exact decide_eq_true (by omega)
      rw [e2]
      obtain rfl : n = -2147483648 := by rw [hn, e1]
      clear e1 e2 hn
      go_enter Try.func26, Try.ntmps26
      go_wp2
      go_ret
      exact ⟨rfl, rfl⟩
    · have e1 : clampS i = i := by unfold clampS; rw [if_neg c1, if_neg c2]
      have e2 : clampB i = false := by unfold clampB; exact decide_eq_false (by omega)
      rw [e2]
      obtain rfl : n = i := by rw [hn, e1]
      clear e1 e2 hn
      go_enter Try.func26, Try.ntmps26
      go_wp2
      go_ret
      exact ⟨by simp, rfl⟩

theorem qn_one (a : Nat) : qn a 1 = a := by unfold qn; simp [Nat.mod_one]
theorem round_zero (n : Int) (h1 : -9223372036854775808 ≤ n) (h2 : n ≤ 9223372036854775807) : roundS n ((bnd 0 30 : Nat) : Int) = n := by
  have h : pow2 (bnd ((bnd 0 30 : Nat) : Int) 62) = 1 := by decide +kernel
  unfold roundS
  rw [h]
  unfold overS
  rw [if_neg (by decide), show Int.natAbs 1 = 1 from rfl, qn_one]
  split
  · omega
  · split <;> omega

theorem law_FixCut (a0 a1 : Int) (w0 : (Lit.int .i32 a0).wf = true) (w1 : (Lit.int .i32 a1).wf = true) (w : World) :
    Calls Try.prog 6 #[.int .i32 a0, .int .i32 a1] w fun e w' => e = .returned (.bool true) ∧ Below w.heap.size w w' := by
  obtain ⟨b1, b2⟩ := bounds_i32 w0
  obtain ⟨b3, b4⟩ := bounds_i32 w1
  obtain ⟨m1, m2⟩ := mul_bd a0 a1 b1 b2 b3 b4
  have hr := hid (round_zero (a0 * a1) (by omega) (by omega))
  go_enter Try.func6, Try.ntmps6
  go_wp2_with fail
  refine (add_any _ _ _ b1 b2 b3 b4).mono ?_
  rintro e v1 ⟨rfl, hb1⟩
  rw [clampV_def]
  go_wp2_with fail
  refine (sub_any _ _ _ b1 b2 b3 b4).mono ?_
  rintro e v2 ⟨rfl, hb2⟩
  rw [clampV_def]
  go_wp2_with fail
  refine (mul_any _ _ _ _ b1 b2 b3 b4).mono ?_
  rintro e v3 ⟨rfl, hb3⟩
  rw [hr.out, clampV_def]
  go_wp2_with fail
  refine (right_any _ _ (by omega) (by omega) rfl _).mono ?_
  rintro e v4 ⟨rfl, rfl⟩
  go_wp2_with fail
  refine (right_any _ _ (by omega) (by omega) rfl _).mono ?_
  rintro e v5 ⟨rfl, rfl⟩
  go_wp2_with fail
  refine (right_any _ _ (by omega) (by omega) rfl _).mono ?_
  rintro e v6 ⟨rfl, rfl⟩
  go_wp2_with fail
  refine (knows01_any _).mono ?_
  rintro e v7 ⟨rfl, hb7⟩
  go_wp2_with fail
  go_ret
  exact ⟨rfl, bthen hb1 (bthen hb2 (bthen hb3 hb7))⟩

theorem divV_def (a b f : Int) : ∃ x y, divV a b f = .tuple #[.int .i32 x, .bool y] := by
  unfold divV; split
  · exact ⟨_, _, rfl⟩
  · exact ⟨_, _, rfl⟩

set_option maxHeartbeats 1000000 in
theorem law_FixOps (a0 a1 a2 : Int) (w0 : (Lit.int .i32 a0).wf = true) (w1 : (Lit.int .i32 a1).wf = true) (w2 : (Lit.int .i64 a2).wf = true) (w : World) :
    Calls Try.prog 4 #[.int .i32 a0, .int .i32 a1, .int .i64 a2] w fun e w' => e = .returned (.bool true) ∧ Below w.heap.size w w' := by
  obtain ⟨b1, b2⟩ := bounds_i32 w0
  obtain ⟨b3, b4⟩ := bounds_i32 w1
  obtain ⟨x, y, hd⟩ := divV_def a0 a1 a2
  have HD := hid hd
  clear hd
  go_enter Try.func4, Try.ntmps4
  go_wp2_with fail
  refine (add_any _ _ _ b1 b2 b3 b4).mono ?_
  rintro e v1 ⟨rfl, hb1⟩
  rw [clampV_def]
  go_wp2_with fail
  refine (sub_any _ _ _ b1 b2 b3 b4).mono ?_
  rintro e v2 ⟨rfl, hb2⟩
  rw [clampV_def]
  go_wp2_with fail
  refine (neg_any _ _ b1 b2).mono ?_
  rintro e v3 ⟨rfl, hb3⟩
  rw [clampV_def]
  go_wp2_with fail
  refine (abs_any _ _ b1 b2).mono ?_
  rintro e v4 ⟨rfl, hb4⟩
  rw [clampV_def]
  go_wp2_with fail
  refine (mul_any _ _ _ _ b1 b2 b3 b4).mono ?_
  rintro e v5 ⟨rfl, hb5⟩
  rw [clampV_def]
  go_wp2_with fail
  refine (div_any _ _ _ _ b1 b2 b3 b4).mono ?_
  rintro e v6 ⟨rfl, hb6⟩
  rw [HD.out]
  go_wp2_with fail
  refine (radd_any _ _ _ b1 b2 b3 b4).mono ?_
  rintro e v7 ⟨rfl, rfl⟩
  rw [clampV_def]
  go_wp2_with fail
  refine (rsub_any _ _ _ b1 b2 b3 b4).mono ?_
  rintro e v7 ⟨rfl, rfl⟩
  rw [clampV_def]
  go_wp2_with fail
  refine (rneg_any _ _ b1 b2).mono ?_
  rintro e v7 ⟨rfl, rfl⟩
  rw [clampV_def]
  go_wp2_with fail
  refine (rabs_any _ _ b1 b2).mono ?_
  rintro e v7 ⟨rfl, rfl⟩
  rw [clampV_def]
  go_wp2_with fail
  refine (rmul_any _ _ _ _ b1 b2 b3 b4).mono ?_
  rintro e v7 ⟨rfl, rfl⟩
  rw [clampV_def]
  go_wp2_with fail
  refine (rdiv_any _ _ _ _ b1 b2 b3 b4).mono ?_
  rintro e v7 ⟨rfl, rfl⟩
  rw [HD.out]
  go_wp2_with fail
  refine (knows01_any _).mono ?_
  rintro e v8 ⟨rfl, hb8⟩
  go_wp2_with fail
  go_ret
  exact ⟨rfl, bthen hb1 (bthen hb2 (bthen hb3 (bthen hb4 (bthen hb5 (bthen hb6 hb8)))))⟩

theorem qn_self (a b : Nat) (hb : 0 < b) : qn a b ≤ a := by
  unfold qn
  by_cases h1 : b = 1
  · subst h1; simp [Nat.mod_one]
  · have h2 : a / b ≤ a / 2 := Nat.div_le_div_left (by omega) (by omega)
    by_cases h0 : a < b
    · rw [Nat.div_eq_of_lt h0, Nat.mod_eq_of_lt h0]; split <;> omega
    · split <;> omega

theorem qn_near (a b : Nat) (hb : 0 < b) : 2 * (qn a b * b) ≤ 2 * a + b ∧ 2 * a ≤ 2 * (qn a b * b) + b := by
  have h := Nat.div_add_mod a b
  have hm := Nat.mod_lt a hb
  have hc : b * (a / b) = a / b * b := Nat.mul_comm _ _
  unfold qn
  split
  · rw [Nat.add_mul]; omega
  · omega

theorem overS_same (n d : Int) (hd : ¬ d = 0) (hs : ¬ (n < 0 ∧ ¬ d < 0 ∨ ¬ n < 0 ∧ d < 0)) (hb : qn n.natAbs d.natAbs ≤ 9223372036854775807) : overS n d = (qn n.natAbs d.natAbs : Int) := by
  unfold overS; rw [if_neg hd, if_neg hs, if_pos hb]
theorem overS_diff (n d : Int) (hd : ¬ d = 0) (hs : n < 0 ∧ ¬ d < 0 ∨ ¬ n < 0 ∧ d < 0) : overS n d = -(qn n.natAbs d.natAbs : Int) := by
  unfold overS; rw [if_neg hd, if_pos hs]

theorem over_pos (n d : Int) (h0 : 0 ≤ n) (h1 : n ≤ 1099511627776) (h2 : 0 < d) : overS n d = (qn n.natAbs d.natAbs : Int) ∧ overS (-n) d = -(qn n.natAbs d.natAbs : Int) := by
  have hq := qn_self n.natAbs d.natAbs (by omega)
  refine ⟨overS_same _ _ (by omega) (by omega) (by omega), ?_⟩
  by_cases hn : n = 0
  · subst hn
    have h3 := overS_same 0 d (by omega) (by omega) (by omega)
    have h4 : qn (Int.natAbs 0) d.natAbs = 0 := by have : Int.natAbs 0 = 0 := rfl; omega
    rw [h4] at h3 ⊢
    simpa using h3
  · have := overS_diff (-n) d (by omega) (by omega)
    rw [Int.natAbs_neg] at this
    exact this

theorem over_negd (n d : Int) (h0 : -1099511627776 ≤ n) (h1 : n ≤ 1099511627776) (h2 : d < 0) : overS (-n) (-d) = overS n d := by
  have hq := qn_self n.natAbs d.natAbs (by omega)
  by_cases hn : n < 0
  · rw [overS_same n d (by omega) (by omega) (by omega), overS_same (-n) (-d) (by omega) (by omega) (by rw [Int.natAbs_neg, Int.natAbs_neg]; omega), Int.natAbs_neg, Int.natAbs_neg]
  · by_cases hz : n = 0
    · subst hz
      have h4 : qn (Int.natAbs 0) d.natAbs = 0 := by have : Int.natAbs 0 = 0 := rfl; omega
      rw [overS_diff 0 d (by omega) (by omega), overS_same (-0) (-d) (by omega) (by omega) (by rw [Int.natAbs_neg, Int.natAbs_neg]; omega), Int.natAbs_neg, Int.natAbs_neg, h4]
      rfl
    · rw [overS_diff n d (by omega) (by omega), overS_diff (-n) (-d) (by omega) (by omega), Int.natAbs_neg, Int.natAbs_neg]

theorem over_small (n d : Int) (h0 : -1099511627776 ≤ n) (h1 : n ≤ 1099511627776) (hd : d ≠ 0) : -1099511627776 ≤ overS n d ∧ overS n d ≤ 1099511627776 := by
  have hq := qn_self n.natAbs d.natAbs (by omega)
  by_cases hs : n < 0 ∧ ¬ d < 0 ∨ ¬ n < 0 ∧ d < 0
  · rw [overS_diff n d hd hs]; omega
  · rw [overS_same n d hd hs (by omega)]; omega

def NearOk (n d : Int) (w : World) : Prop := Calls Try.prog 5 #[.int .i64 n, .int .i64 d] w fun e w' => e = .returned (.bool true) ∧ Below w.heap.size w w'

theorem near_out (n d : Int) (w : World) (b1 : -9223372036854775808 ≤ n) (b2 : n ≤ 9223372036854775807) (b3 : -9223372036854775808 ≤ d) (b4 : d ≤ 9223372036854775807)
    (h : 1099511627776 < n ∨ n < -1099511627776 ∨ 1099511627776 < d ∨ d < -1099511627776 ∨ d = 0) : NearOk n d w := by
  unfold NearOk
  by_cases c1 : 1099511627776 < n
  · go_enter Try.func5, Try.ntmps5
    go_wp2_with (go_at_call 13; refine (knows01_any _).mono ?_; rintro e w1 ⟨rfl, hb1⟩)
    go_ret
    exact ⟨rfl, hb1⟩
  by_cases c2 : n < -1099511627776
  · go_enter Try.func5, Try.ntmps5
    go_wp2_with (go_at_call 13; refine (knows01_any _).mono ?_; rintro e w1 ⟨rfl, hb1⟩)
    go_ret
    exact ⟨rfl, hb1⟩
  by_cases c3 : 1099511627776 < d
  · go_enter Try.func5, Try.ntmps5
    go_wp2_with (go_at_call 13; refine (knows01_any _).mono ?_; rintro e w1 ⟨rfl, hb1⟩)
    go_ret
    exact ⟨rfl, hb1⟩
  by_cases c4 : d < -1099511627776
  · go_enter Try.func5, Try.ntmps5
    go_wp2_with (go_at_call 13; refine (knows01_any _).mono ?_; rintro e w1 ⟨rfl, hb1⟩)
    go_ret
    exact ⟨rfl, hb1⟩
  obtain rfl : d = 0 := by omega
  go_enter Try.func5, Try.ntmps5
  go_wp2_with (go_at_call 13; refine (knows01_any _).mono ?_; rintro e w1 ⟨rfl, hb1⟩)
  go_ret
  exact ⟨rfl, hb1⟩

theorem near_negd (n d : Int) (w : World) (b1 : -1099511627776 ≤ n) (b2 : n ≤ 1099511627776) (b3 : -1099511627776 ≤ d) (b4 : d < 0) : NearOk n d w := by
  unfold NearOk
  have hs := over_small n d b1 b2 (by omega)
  have HE := hid (over_negd n d b1 b2 b4)
  obtain ⟨s1, s2⟩ := hs
  have hd0 : (d == 0) = false := by simp; omega
  go_enter Try.func5, Try.ntmps5
  go_wp2_with fail
  refine (knows01_any _).mono ?_
  rintro e w1 ⟨rfl, hb1⟩
  go_wp2_with fail
  refine (over_any _ _ _ (by omega) (by omega) (by omega) (by omega)).mono ?_
  rintro e w2 ⟨rfl, k, rfl⟩
  go_wp2_with fail
  refine (over_any _ _ _ (by omega) (by omega) (by omega) (by omega)).mono ?_
  rintro e w3 ⟨rfl, k2, rfl⟩
  rw [HE.out]
  go_wp2_with fail
  go_ret
  exact ⟨by simp, bdrewN hb1 _⟩

theorem near_parts (n d : Int) (m : Nat) (b1 : 0 ≤ n) (b2 : n ≤ 1099511627776) (b3 : 0 < d) (n1 : 2 * (m * d.natAbs) ≤ 2 * n.natAbs + d.natAbs) (n2 : 2 * n.natAbs ≤ 2 * (m * d.natAbs) + d.natAbs) :
    0 ≤ (m : Int) / 2 * d ∧ (m : Int) / 2 * d ≤ n + d ∧ 0 ≤ ((m : Int) - (m : Int) / 2) * d ∧ ((m : Int) - (m : Int) / 2) * d ≤ n + d ∧
    n - (m : Int) / 2 * d - ((m : Int) - (m : Int) / 2) * d ≤ d / 2 ∧ -(d / 2) ≤ n - (m : Int) / 2 * d - ((m : Int) - (m : Int) / 2) * d := by
  have h1 : 0 ≤ (m : Int) / 2 * d := Int.mul_nonneg (by omega) (by omega)
  have h2 : 0 ≤ ((m : Int) - (m : Int) / 2) * d := Int.mul_nonneg (by omega) (by omega)
  have h3 : (m : Int) / 2 * d + ((m : Int) - (m : Int) / 2) * d = (m : Int) * d := by rw [← Int.add_mul]; congr 1; omega
  have h4 : ((m * d.natAbs : Nat) : Int) = (m : Int) * d := by rw [Int.natCast_mul, Int.natAbs_of_nonneg (by omega)]
  omega

theorem near_parts_neg (n d : Int) (m : Nat) (b1 : n < 0) (b2 : -1099511627776 ≤ n) (b3 : 0 < d) (n1 : 2 * (m * d.natAbs) ≤ 2 * (-n).natAbs + d.natAbs) (n2 : 2 * (-n).natAbs ≤ 2 * (m * d.natAbs) + d.natAbs) :
    (-((m : Int) / 2)) * d ≤ 0 ∧ n - d ≤ (-((m : Int) / 2)) * d ∧ (-(m : Int) + (m : Int) / 2) * d ≤ 0 ∧ n - d ≤ (-(m : Int) + (m : Int) / 2) * d ∧
    n - (-((m : Int) / 2)) * d - (-(m : Int) + (m : Int) / 2) * d ≤ d / 2 ∧ -(d / 2) ≤ n - (-((m : Int) / 2)) * d - (-(m : Int) + (m : Int) / 2) * d := by
  obtain ⟨A1, A2, A3, A4, A5, A6⟩ := near_parts (-n) d m (by omega) (by omega) b3 n1 n2
  have e1 : (-((m : Int) / 2)) * d = -((m : Int) / 2 * d) := Int.neg_mul _ _
  have e2 : (-(m : Int) + (m : Int) / 2) * d = -(((m : Int) - (m : Int) / 2) * d) := by rw [← Int.neg_mul]; congr 1; omega
  rw [e1, e2]
  omega

theorem near_pos (n d : Int) (w : World) (b1 : 0 ≤ n) (b2 : n ≤ 1099511627776) (b3 : 0 < d) (b4 : d ≤ 1099511627776) : NearOk n d w := by
  unfold NearOk
  obtain ⟨q1, q2⟩ := over_pos n d b1 b2 b3
  obtain ⟨n1, n2⟩ := qn_near n.natAbs d.natAbs (by omega)
  have hq := qn_self n.natAbs d.natAbs (by omega)
  generalize qn n.natAbs d.natAbs = m at *
  have HE1 := hid q1
  have HE2 := hid q2
  clear q1 q2
  obtain ⟨A1, A2, A3, A4, A5, A6⟩ := near_parts n d m b1 b2 b3 n1 n2
  clear n1 n2
  have hdt : d.tdiv 2 = d / 2 := Int.tdiv_eq_ediv_of_nonneg (by omega)
  have hd0 : (d == 0) = false := by simp; omega
  go_enter Try.func5, Try.ntmps5
  go_wp2_with fail
  refine (knows01_any _).mono ?_
  rintro e w1 ⟨rfl, hb1⟩
  go_wp2_with fail
  refine (over_any _ _ _ (by omega) (by omega) (by omega) (by omega)).mono ?_
  rintro e w2 ⟨rfl, k, rfl⟩
  rw [HE1.out]
  go_wp2_with fail
  refine (over_any _ _ _ (by omega) (by omega) (by omega) (by omega)).mono ?_
  rintro e w2 ⟨rfl, k2, rfl⟩
  rw [HE2.out]
  go_wp2_with fail
  go_ret
  exact ⟨by simp, bdrewN hb1 _⟩

theorem near_neg (n d : Int) (w : World) (b1 : n < 0) (b2 : -1099511627776 ≤ n) (b3 : 0 < d) (b4 : d ≤ 1099511627776) : NearOk n d w := by
  unfold NearOk
  obtain ⟨q1, q2⟩ := over_pos (-n) d (by omega) (by omega) b3
  obtain ⟨n1, n2⟩ := qn_near (-n).natAbs d.natAbs (by omega)
  have hq := qn_self (-n).natAbs d.natAbs (by omega)
  rw [Int.neg_neg] at q2
  generalize qn (-n).natAbs d.natAbs = m at *
  have HE1 := hid q1
  have HE2 := hid q2
  clear q1 q2
  obtain ⟨A1, A2, A3, A4, A5, A6⟩ := near_parts_neg n d m b1 b2 b3 n1 n2
  clear n1 n2
  have hdt : d.tdiv 2 = d / 2 := Int.tdiv_eq_ediv_of_nonneg (by omega)
  have hmt : (m : Int).tdiv 2 = (m : Int) / 2 := Int.tdiv_eq_ediv_of_nonneg (by omega)
  have hd0 : (d == 0) = false := by simp; omega
  go_enter Try.func5, Try.ntmps5
  go_wp2_with fail
  refine (knows01_any _).mono ?_
  rintro e w1 ⟨rfl, hb1⟩
  go_wp2_with fail
  refine (over_any _ _ _ (by omega) (by omega) (by omega) (by omega)).mono ?_
  rintro e w2 ⟨rfl, k, rfl⟩
  rw [HE2.out]
  go_wp2_with fail
  refine (over_any _ _ _ (by omega) (by omega) (by omega) (by omega)).mono ?_
  rintro e w2 ⟨rfl, k2, rfl⟩
  rw [HE1.out]
  go_wp2_with fail
  go_ret
  exact ⟨by simp, bdrewN hb1 _⟩

theorem law_FixNear (a0 a1 : Int) (w0 : (Lit.int .i64 a0).wf = true) (w1 : (Lit.int .i64 a1).wf = true) (w : World) :
    Calls Try.prog 5 #[.int .i64 a0, .int .i64 a1] w fun e w' => e = .returned (.bool true) ∧ Below w.heap.size w w' := by
  obtain ⟨b1, b2⟩ := bounds_i64 w0
  obtain ⟨b3, b4⟩ := bounds_i64 w1
  by_cases h : 1099511627776 < a0 ∨ a0 < -1099511627776 ∨ 1099511627776 < a1 ∨ a1 < -1099511627776 ∨ a1 = 0
  · exact near_out a0 a1 w b1 b2 b3 b4 h
  · by_cases hd : a1 < 0
    · exact near_negd a0 a1 w (by omega) (by omega) (by omega) hd
    · by_cases hn : a0 < 0
      · exact near_neg a0 a1 w hn (by omega) (by omega) (by omega)
      · exact near_pos a0 a1 w (by omega) (by omega) (by omega) (by omega)

end Go.Proofs.Ytgmmpginffpjeaa
