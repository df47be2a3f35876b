/- What each function of package root comes to: contracts, by walking their text. -/
import Derived.Test.YtpdpcdifnlellaaGreatRootMath
namespace Go.Proofs.YtpdpcdifnlellaaGreat
open Go.ChangeShapes Go.WideShapes Go.ChangeAt Go.RowKit
set_option linter.unusedVariables false

theorem pow_32 (j : Nat) (h : j ≤ 32) : 2 ^ j ≤ 4294967296 := by
  have := Nat.pow_le_pow_right (show 0 < 2 by decide) h
  simpa using this

set_option maxHeartbeats 1000000 in
theorem sqrt_nat (n : Nat) (w : World) (h : n ≤ 18446744073709551615) :
    Calls Tryz.prog 73 #[.int .u64 n] w fun e w' => e = .returned (.int .u32 (sqrtS n)) ∧ w' = w := by
  have HL := hid (sqrtS_lt n (by omega))
  go_enter Tryz.func73, Tryz.ntmps73
  go_wp2
  go_step3
  go_wp2
  go_step3
  go_wp2
  go_loop [3, 4] (fun r b => ∃ (i j p : Nat), j ≤ 32 ∧ r = .int .u64 i ∧ b = .int .u64 p ∧ p = 2 ^ j ∧ i + p ≤ 4294967296 ∧ rt j i n = sqrtS n) (fun _ b => (intOf b).toNat)
  case atStart => exact ⟨0, 32, 4294967296, by omega, rfl, rfl, rfl, by omega, rfl⟩
  case round =>
    obtain ⟨i, j, p, hj, rfl, rfl, hp, hi, hr⟩ := hrel
    have HR := hid hr
    have HP := hid hp
    clear hr hp
    cases j with
    | zero =>
      obtain rfl : p = 1 := HP.out
      go_wp2
      go_ret
      exact ⟨ret_int (by rw [← HR.out]; rfl), rfl⟩
    | succ j =>
      obtain ⟨q, hq⟩ : ∃ q, q = 2 ^ j := ⟨_, rfl⟩
      have hpq : p = q + q := by rw [HP.out, hq, Nat.pow_succ]; omega
      have hq0 : 0 < q := by rw [hq]; exact Nat.pow_pos (by decide)
      obtain rfl : p = q + q := hpq
      have hqe : Go.RowKit.Hid (q = 2 ^ j) := hq
      clear hq HP
      have hdiv : ((q : Int) + (q : Int)) / 2 = (q : Int) := by omega
      have hqz : ((q : Int) == 0) = false := by simp; omega
      have ht : ((i : Int) + (q : Int)) * ((i : Int) + (q : Int)) = (((i + q) * (i + q) : Nat) : Int) := by simp
      have hb : (i + q) * (i + q) ≤ 4294967295 * 4294967295 := Nat.mul_le_mul (by omega) (by omega)
      generalize HT : (i + q) * (i + q) = t at *
      have hti : Go.RowKit.Hid (t = (i + q) * (i + q)) := hid HT.symm
      clear HT
      by_cases hc : n < t
      · go_wp2
        go_round
        case rel => exact ⟨i, j, q, by omega, rfl, by rw [hdiv], hqe.out, by omega, by rw [← HR.out]; exact (rt_no j i n (by rw [← hqe.out, ← hti.out]; omega)).symm⟩
        case measure => simp [intOf]; omega
      · go_wp2
        go_round
        case rel => exact ⟨i + q, j, q, by omega, by go_num, by rw [hdiv], hqe.out, by omega, by rw [← HR.out, hqe.out]; exact (rt_yes j i n (by rw [← hqe.out, ← hti.out]; omega)).symm⟩
        case measure => simp [intOf]; omega

theorem sqrt_any (n : Int) (w : World) (h0 : 0 ≤ n) (h : n ≤ 18446744073709551615) :
    Calls Tryz.prog 73 #[.int .u64 n] w fun e w' => e = .returned (.int .u32 (sqrtS n.toNat)) ∧ w' = w := by
  obtain ⟨k, rfl⟩ := Int.eq_ofNat_of_zero_le h0
  exact sqrt_nat k w (by omega)

theorem sq_nat (x : Int) (h1 : -2147483648 ≤ x) (h2 : x ≤ 2147483647) : ∃ X : Nat, x * x = (X : Int) ∧ X ≤ 4611686018427387904 := by
  have h3 : (x * x) = ((x.natAbs * x.natAbs : Nat) : Int) := by rw [Int.natCast_mul]; exact (Int.natAbs_mul_self' x).symm
  exact ⟨_, h3, Nat.mul_le_mul (show x.natAbs ≤ 2147483648 by omega) (show x.natAbs ≤ 2147483648 by omega)⟩

set_option maxHeartbeats 1000000 in
theorem squares_any (a : Option Addr) (cap : Nat) (zs : List Int) (w : World) (hl : zs.length ≤ 1000) (hr : Rd .i32 w a zs) (hz : ∀ n ∈ zs, (Lit.int .i32 n).wf = true) :
    Calls Tryz.prog 74 #[.slice a zs.length cap] w fun e w' => e = .returned (.int .u64 (sqs zs 0)) ∧ w' = w := by
  go_enter Tryz.func74, Tryz.ntmps74
  go_wp2
  go_loop [3, 9] (fun s i => ∃ (k m : Nat), k ≤ zs.length ∧ i = .int .i64 k ∧ s = .int .u64 m ∧ m ≤ 18446744073709551615 ∧ sqs (zs.drop k) m = sqs zs 0) (fun _ i => zs.length - (intOf i).toNat)
  case atStart => exact ⟨0, 0, Nat.zero_le _, rfl, rfl, by omega, rfl⟩
  case round =>
    obtain ⟨k, m, hk, rfl, rfl, hm, hs⟩ := hrel
    have HS := hid hs
    clear hs
    by_cases hlt : k < zs.length
    · obtain ⟨b, off, rfl, hc⟩ := hr k hlt
      have HD := hid (drop_step zs k hlt)
      have hb := bounds_i32 (hz _ (List.getElem_mem hlt))
      have he : zs.getD k 0 = zs[k] := by simp [hlt]
      rw [← he] at hb
      generalize zs.getD k 0 = x at *
      clear he hr hz
      obtain ⟨X, hX, hXl⟩ := sq_nat x hb.1 hb.2
      have HQ : Go.RowKit.Hid (sqs (x :: zs.drop (k + 1)) m = if 18446744073709551615 - m < X then 18446744073709551615 else sqs (zs.drop (k + 1)) (m + X)) := by
        show _ = _
        rw [sqs, hX]; rfl
      obtain ⟨hb1, hb2⟩ := hb
      by_cases hc2 : 18446744073709551615 - m < X
      · have hc3 : (18446744073709551615 : Int) - m < X := by omega
        go_wp2
        go_ret
        exact ⟨ret_int (by rw [← HS.out, HD.out, HQ.out, if_pos hc2]; rfl), rfl⟩
      · have hc3 : ¬ (18446744073709551615 : Int) - m < X := by omega
        go_wp2
        go_round
        case rel => exact ⟨k + 1, m + X, by omega, by go_num, by go_num, by omega, by rw [← HS.out, HD.out, HQ.out, if_neg hc2]⟩
        case measure => simp [intOf]; omega
    · go_wp2
      go_ret
      exact ⟨ret_int (by rw [← HS.out, show k = zs.length from by omega, List.drop_length]; rfl), rfl⟩

set_option maxHeartbeats 1000000 in
theorem rsquares_any (a : Option Addr) (cap : Nat) (zs : List Int) (w : World) (hl : zs.length ≤ 1000) (hr : Rd .i32 w a zs) (hz : ∀ n ∈ zs, (Lit.int .i32 n).wf = true) :
    Calls Tryz.prog 77 #[.slice a zs.length cap] w fun e w' => e = .returned (.int .u64 (sqs zs 0)) ∧ ∃ k, w' = w.drewN k := by
  go_enter Tryz.func77, Tryz.ntmps77
  go_wp2
  go_loopw [3, 4] (fun s i wr => ∃ (k m nq : Nat), wr = w.drewN nq ∧ k ≤ zs.length ∧ i = .int .i64 k ∧ s = .int .u64 m ∧ m ≤ 18446744073709551615 ∧ sqs (zs.drop k) m = sqs zs 0) (fun _ i _ => zs.length - (intOf i).toNat)
  case atStart => exact ⟨0, 0, 0, rfl, Nat.zero_le _, rfl, rfl, by omega, rfl⟩
  case round =>
    obtain ⟨k, m, nq, rfl, hk, rfl, rfl, hm, hs⟩ := hrel
    have HS := hid hs
    clear hs
    by_cases hlt : k < zs.length
    · obtain ⟨b, off, rfl, hc⟩ := hr k hlt
      have HD := hid (drop_step zs k hlt)
      have hb := bounds_i32 (hz _ (List.getElem_mem hlt))
      have he : zs.getD k 0 = zs[k] := by simp [hlt]
      rw [← he] at hb
      generalize zs.getD k 0 = x at *
      clear he hr hz
      obtain ⟨X, hX, hXl⟩ := sq_nat x hb.1 hb.2
      have HQ : Go.RowKit.Hid (sqs (x :: zs.drop (k + 1)) m = if 18446744073709551615 - m < X then 18446744073709551615 else sqs (zs.drop (k + 1)) (m + X)) := by
        show _ = _
        rw [sqs, hX]; rfl
      obtain ⟨hb1, hb2⟩ := hb
      by_cases hc2 : 18446744073709551615 - m < X
      · have hc3 : (18446744073709551615 : Int) - m < X := by omega
        go_wp2
        go_quiet (fail)
        go_wp2
        go_ret
        exact ⟨ret_int (by rw [← HS.out, HD.out, HQ.out, if_pos hc2]; rfl), _, rfl⟩
      · have hc3 : ¬ (18446744073709551615 : Int) - m < X := by omega
        go_wp2
        go_quiet (fail)
        go_wp2
        go_roundw
        case rel => exact ⟨k + 1, m + X, _, rfl, by omega, by go_num, by go_num, by omega, by rw [← HS.out, HD.out, HQ.out, if_neg hc2]⟩
        case measure => simp [intOf]; omega
    · go_wp2
      go_ret
      exact ⟨ret_int (by rw [← HS.out, show k = zs.length from by omega, List.drop_length]; rfl), _, rfl⟩

set_option maxHeartbeats 1000000 in
theorem rsqrt_nat (n : Nat) (w : World) (h : n ≤ 18446744073709551615) :
    Calls Tryz.prog 76 #[.int .u64 n] w fun e w' => e = .returned (.int .u32 (sqrtS n)) ∧ w' = w := by
  have HL := hid (sqrtS_lt n (by omega))
  go_enter Tryz.func76, Tryz.ntmps76
  go_wp2
  go_loop [3, 4] (fun r b => ∃ (i j p : Nat), j ≤ 32 ∧ r = .int .u64 i ∧ b = .int .u64 p ∧ p = 2 ^ j / 2 ∧ i + 2 ^ j ≤ 4294967296 ∧ rt j i n = sqrtS n) (fun _ b => (intOf b).toNat)
  case atStart => exact ⟨0, 32, 2147483648, by omega, rfl, rfl, rfl, by omega, rfl⟩
  case round =>
    obtain ⟨i, j, p, hj, rfl, rfl, hp, hi, hr⟩ := hrel
    have HR := hid hr
    have HP := hid hp
    clear hr hp
    cases j with
    | zero =>
      obtain rfl : p = 0 := HP.out
      have hl : i < 4294967296 := by omega
      clear hi
      go_wp2
      go_ret
      exact ⟨ret_int (by rw [← HR.out]; rfl), rfl⟩
    | succ j =>
      have hpq : p = 2 ^ j := by rw [HP.out, Nat.pow_succ]; omega
      have hq0 : 0 < p := by rw [hpq]; exact Nat.pow_pos (by decide)
      rw [Nat.pow_succ, ← hpq] at hi
      have hqe := hid hpq
      clear hpq HP
      have ht : ((i : Int) + (p : Int)) * ((i : Int) + (p : Int)) = (((i + p) * (i + p) : Nat) : Int) := by simp
      have hb : (i + p) * (i + p) ≤ 4294967295 * 4294967295 := Nat.mul_le_mul (by omega) (by omega)
      generalize HT : (i + p) * (i + p) = t at *
      have hti : Go.RowKit.Hid (t = (i + p) * (i + p)) := hid HT.symm
      clear HT
      by_cases hc : n < t
      · go_wp2
        go_round
        case rel => exact ⟨i, j, p / 2, by omega, rfl, by go_num, by rw [hqe.out], by rw [← hqe.out]; omega, by rw [← HR.out]; exact (rt_no j i n (by rw [← hqe.out, ← hti.out]; omega)).symm⟩
        case measure => simp [intOf]; omega
      · go_wp2
        go_round
        case rel => exact ⟨i + p, j, p / 2, by omega, by go_num, by go_num, by rw [hqe.out], by rw [← hqe.out]; omega, by rw [← HR.out, hqe.out]; exact (rt_yes j i n (by rw [← hqe.out, ← hti.out]; omega)).symm⟩
        case measure => simp [intOf]; omega

theorem length_any (a : Option Addr) (cap : Nat) (zs : List Int) (w : World) (hl : zs.length ≤ 1000) (hr : Rd .i32 w a zs) (hz : ∀ n ∈ zs, (Lit.int .i32 n).wf = true) :
    Calls Tryz.prog 41 #[.slice a zs.length cap] w fun e w' => e = .returned (.int .u32 (lengthS zs)) ∧ w' = w := by
  have hq := hid (sqs_le zs 0 (by omega))
  go_enter Tryz.func41, Tryz.ntmps41
  go_wp2_with fail
  refine (squares_any a cap zs _ hl hr hz).mono ?_
  rintro e w1 ⟨rfl, rfl⟩
  go_wp2_with fail
  refine (sqrt_nat _ _ hq.out).mono ?_
  rintro e w1 ⟨rfl, rfl⟩
  go_wp2_with fail
  go_ret
  exact ⟨rfl, rfl⟩

theorem rlength_any (a : Option Addr) (cap : Nat) (zs : List Int) (w : World) (hl : zs.length ≤ 1000) (hr : Rd .i32 w a zs) (hz : ∀ n ∈ zs, (Lit.int .i32 n).wf = true) :
    Calls Tryz.prog 51 #[.slice a zs.length cap] w fun e w' => e = .returned (.int .u32 (lengthS zs)) ∧ ∃ k, w' = w.drewN k := by
  have hq := hid (sqs_le zs 0 (by omega))
  go_enter Tryz.func51, Tryz.ntmps51
  go_wp2_with fail
  refine (rsquares_any a cap zs _ hl hr hz).mono ?_
  rintro e w1 ⟨rfl, k, rfl⟩
  go_wp2_with fail
  refine (rsqrt_nat _ _ hq.out).mono ?_
  rintro e w1 ⟨rfl, rfl⟩
  go_wp2_with fail
  go_ret
  exact ⟨rfl, k, rfl⟩

end Go.Proofs.YtpdpcdifnlellaaGreat
