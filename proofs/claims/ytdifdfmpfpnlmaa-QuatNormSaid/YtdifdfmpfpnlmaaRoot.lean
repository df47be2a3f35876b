/- What each function of package root comes to: contracts, by walking their text. -/
import Derived.Test.YtdifdfmpfpnlmaaRootMath
namespace Go.Proofs.Ytdifdfmpfpnlmaa
open Go.ChangeShapes Go.WideShapes Go.ChangeAt Go.RowKit
set_option linter.unusedVariables false

theorem pow_32 (j : Nat) (h : j ≤ 32) : 2 ^ j ≤ 4294967296 := by
  have := Nat.pow_le_pow_right (show 0 < 2 by decide) h
  simpa using this

theorem sq_nat (x : Int) (h1 : -2147483648 ≤ x) (h2 : x ≤ 2147483647) : ∃ X : Nat, x * x = (X : Int) ∧ X ≤ 4611686018427387904 := by
  have h3 : (x * x) = ((x.natAbs * x.natAbs : Nat) : Int) := by rw [Int.natCast_mul]; exact (Int.natAbs_mul_self' x).symm
  exact ⟨_, h3, Nat.mul_le_mul (show x.natAbs ≤ 2147483648 by omega) (show x.natAbs ≤ 2147483648 by omega)⟩

set_option maxHeartbeats 1000000 in
theorem squares_any (a : Option Addr) (cap : Nat) (zs : List Int) (w : World) (hl : zs.length ≤ 1000) (hr : Rd .i32 w a zs) (hz : ∀ n ∈ zs, (Lit.int .i32 n).wf = true) :
    Calls Try.prog 25 #[.slice a zs.length cap] w fun e w' => e = .returned (.int .u64 (sqs zs 0)) ∧ w' = w := by
  go_enter Try.func25, Try.ntmps25
  go_wp2
  go_loop [3, 9] (fun s i => ∃ (k m : Nat), k ≤ zs.length ∧ i = .int .i64 k ∧ s = .int .u64 m ∧ m ≤ 18446744073709551615 ∧ sqs (zs.drop k) m = sqs zs 0) (fun _ i => zs.length - (intOf i).toNat)
  case atStart => exact ⟨0, 0, Nat.zero_le _, rfl, rfl, by omega, rfl⟩
  case round =>
    obtain ⟨k, m, hk, rfl, rfl, hm, hs⟩ := hrel
    have HS := hid hs
    clear hs
    by_cases hlt : k < zs.length
    · obtain ⟨b, off, rfl, hc⟩ := hr k hlt
      have HD := hid (drop_step zs k hlt)
      have hb := bounds_i32 (hz _ (List.getElem_mem hlt))
      have he : zs.getD k 0 = zs[k] := by simp [hlt]
      rw [← he] at hb
      generalize zs.getD k 0 = x at *
      clear he hr hz
      obtain ⟨X, hX, hXl⟩ := sq_nat x hb.1 hb.2
      have HQ : Go.RowKit.Hid (sqs (x :: zs.drop (k + 1)) m = if 18446744073709551615 - m < X then 18446744073709551615 else sqs (zs.drop (k + 1)) (m + X)) := by
        show _ = _
        rw [sqs, hX]; rfl
      obtain ⟨hb1, hb2⟩ := hb
      by_cases hc2 : 18446744073709551615 - m < X
      · have hc3 : (18446744073709551615 : Int) - m < X := by omega
        go_wp2
        go_ret
        exact ⟨ret_int (by rw [← HS.out, HD.out, HQ.out, if_pos hc2]; rfl), rfl⟩
      · have hc3 : ¬ (18446744073709551615 : Int) - m < X := by omega
        go_wp2
        go_round
        case rel => exact ⟨k + 1, m + X, by omega, by go_num, by go_num, by omega, by rw [← HS.out, HD.out, HQ.out, if_neg hc2]⟩
        case measure => simp [intOf]; omega
    · go_wp2
      go_ret
      exact ⟨ret_int (by rw [← HS.out, show k = zs.length from by omega, List.drop_length]; rfl), rfl⟩

set_option maxHeartbeats 1000000 in
theorem rsquares_any (a : Option Addr) (cap : Nat) (zs : List Int) (w : World) (hl : zs.length ≤ 1000) (hr : Rd .i32 w a zs) (hz : ∀ n ∈ zs, (Lit.int .i32 n).wf = true) :
    Calls Try.prog 26 #[.slice a zs.length cap] w fun e w' => e = .returned (.int .u64 (sqs zs 0)) ∧ ∃ k, w' = w.drewN k := by
  go_enter Try.func26, Try.ntmps26
  go_wp2
  go_loopw [3, 4] (fun s i wr => ∃ (k m nq : Nat), wr = w.drewN nq ∧ k ≤ zs.length ∧ i = .int .i64 k ∧ s = .int .u64 m ∧ m ≤ 18446744073709551615 ∧ sqs (zs.drop k) m = sqs zs 0) (fun _ i _ => zs.length - (intOf i).toNat)
  case atStart => exact ⟨0, 0, 0, rfl, Nat.zero_le _, rfl, rfl, by omega, rfl⟩
  case round =>
    obtain ⟨k, m, nq, rfl, hk, rfl, rfl, hm, hs⟩ := hrel
    have HS := hid hs
    clear hs
    by_cases hlt : k < zs.length
    · obtain ⟨b, off, rfl, hc⟩ := hr k hlt
      have HD := hid (drop_step zs k hlt)
      have hb := bounds_i32 (hz _ (List.getElem_mem hlt))
      have he : zs.getD k 0 = zs[k] := by simp [hlt]
      rw [← he] at hb
      generalize zs.getD k 0 = x at *
      clear he hr hz
      obtain ⟨X, hX, hXl⟩ := sq_nat x hb.1 hb.2
      have HQ : Go.RowKit.Hid (sqs (x :: zs.drop (k + 1)) m = if 18446744073709551615 - m < X then 18446744073709551615 else sqs (zs.drop (k + 1)) (m + X)) := by
        show _ = _
        rw [sqs, hX]; rfl
      obtain ⟨hb1, hb2⟩ := hb
      by_cases hc2 : 18446744073709551615 - m < X
      · have hc3 : (18446744073709551615 : Int) - m < X := by omega
        go_wp2
        go_quiet (fail)
        go_wp2
        go_ret
        exact ⟨ret_int (by rw [← HS.out, HD.out, HQ.out, if_pos hc2]; rfl), _, rfl⟩
      · have hc3 : ¬ (18446744073709551615 : Int) - m < X := by omega
        go_wp2
        go_quiet (fail)
        go_wp2
        go_roundw
        case rel => exact ⟨k + 1, m + X, _, rfl, by omega, by go_num, by go_num, by omega, by rw [← HS.out, HD.out, HQ.out, if_neg hc2]⟩
        case measure => simp [intOf]; omega
    · go_wp2
      go_ret
      exact ⟨ret_int (by rw [← HS.out, show k = zs.length from by omega, List.drop_length]; rfl), _, rfl⟩

end Go.Proofs.Ytdifdfmpfpnlmaa
