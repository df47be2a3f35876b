/- The reference of package octet: half, FitsU, FitsI, Bytes. -/
import Derived.Test.YtekilpmmadhpoaaOctet18
namespace Go.Proofs.Ytekilpmmadhpoaa
open Go.ChangeShapes Go.WideShapes Go.ChangeAt Go.RowKit Go.Shelf
set_option linter.unusedVariables false

def hf (k : Nat) : Int := 128 * 256 ^ (k - 1)
theorem hf_up (k : Nat) (h : 1 ≤ k) : hf k * 256 = hf (k + 1) := by
  obtain ⟨j, rfl⟩ : ∃ j, k = j + 1 := ⟨k - 1, by omega⟩
  unfold hf
  simp only [Nat.add_sub_cancel]
  rw [Int.pow_succ, Int.mul_assoc]
theorem hf_le (k : Nat) (h : k ≤ 8) : 0 ≤ hf k ∧ hf k ≤ 9223372036854775808 := by
  obtain rfl | rfl | rfl | rfl | rfl | rfl | rfl | rfl | rfl : k = 0 ∨ k = 1 ∨ k = 2 ∨ k = 3 ∨ k = 4 ∨ k = 5 ∨ k = 6 ∨ k = 7 ∨ k = 8 := by omega
  all_goals decide +kernel
theorem hf_two (k : Nat) (h : 1 ≤ k) : 2 * hf k = 256 ^ k := by
  obtain ⟨j, rfl⟩ : ∃ j, k = j + 1 := ⟨k - 1, by omega⟩
  unfold hf
  rw [Int.pow_succ]
  simp only [Nat.add_sub_cancel]
  omega
theorem hf_7 (k : Nat) (h : k ≤ 7) : hf k ≤ 36028797018963968 := by
  obtain rfl | rfl | rfl | rfl | rfl | rfl | rfl | rfl : k = 0 ∨ k = 1 ∨ k = 2 ∨ k = 3 ∨ k = 4 ∨ k = 5 ∨ k = 6 ∨ k = 7 := by omega
  all_goals decide +kernel
set_option maxHeartbeats 1000000 in
theorem half_any (n : Nat) (h1 : 1 ≤ n) (h8 : n ≤ 8) (w : World) : Calls Try.prog 47 #[.int .i64 (n : Int)] w fun e w' => e = .returned (.int .u64 (hf n)) ∧ w' = w := by
  go_enter Try.func47, Try.ntmps47
  go_wp2_with fail
  go_loopw [3, 4] (fun h i wr => ∃ k : Nat, 1 ≤ k ∧ k ≤ n ∧ h = .int .u64 (hf k) ∧ i = .int .i64 k ∧ wr = w) (fun _ i _ => n - (intOf i).toNat)
  case atStart => exact ⟨1, by omega, h1, rfl, rfl, rfl⟩
  case round =>
    obtain ⟨k, hk1, hk, rfl, rfl, rfl⟩ := hrel
    by_cases hlt : (k : Int) < n
    case neg =>
      obtain rfl : k = n := by omega
      go_wp2_with fail
      go_ret
      exact ⟨rfl, rfl⟩
    have hu := hid (hf_up k hk1)
    have hb := hf_le (k + 1) (by omega)
    rw [← hu.out] at hb
    generalize hf k = p at *
    have hw : IntKind.u64.wrap (p * 256) = p * 256 := by simp [IntKind.wrap, IntKind.bits, IntKind.signed]; omega
    go_wp2_with omega
    go_roundw
    case rel => exact ⟨k + 1, by omega, by omega, by rw [hu.out], by simp, trivial⟩
    case measure => simp only [intOf]; omega

theorem bytesL_up (u : Int) (k : Nat) : bytesL u (k + 1) = bytesL u k ++ [u / 2 ^ (8 * k) % 256] := by
  unfold bytesL
  rw [lowL_next, List.map_append]; rfl
set_option maxHeartbeats 1000000 in
theorem rbytes_any (n : Nat) (hn : n ≤ 8) (u : Nat) (hu1 : u ≤ 18446744073709551615) (w : World) : Calls Try.prog 32 #[.int .i64 (n : Int), .int .u64 (u : Int)] w (BytesOk w (bytesL u n)) := by
  go_enter Try.func32, Try.ntmps32
  go_wp2_with fail
  go_loopw [1, 5, 6] (fun x v i wr => ∃ (m k : Nat) (a : Option Addr) (cap : Nat), k ≤ n ∧ i = .int .i64 k ∧ x = .int .u64 m ∧ m ≤ 18446744073709551615 ∧ Hid (m = u / 256 ^ k) ∧ v = .slice a (bytesL u k).length cap ∧ Own .u8 5 wr w.heap.size (.slice a (bytesL u k).length cap) (bytesL u k) ∧ Below w.heap.size w wr) (fun _ _ i _ => n - (intOf i).toNat)
  case atStart => exact ⟨u, 0, none, 0, by omega, rfl, rfl, hu1, hid (by simp), rfl, Own.nil _ _ _ _, Below.refl _ _⟩
  case round =>
    obtain ⟨m, k, a, cap, hk, rfl, rfl, hm, hmu, rfl, hO, hB⟩ := hrel
    by_cases hlt : (k : Int) < n
    case neg =>
      obtain rfl : k = n := by omega
      replace hO := hid hO
      go_wp2_with fail
      go_ret
      exact ⟨a, cap, rfl, hO.out, hB⟩
    have hup := hid (show bytesL u (k + 1) = bytesL u k ++ [(m : Int) % 256] by
      rw [bytesL_up, hmu.out]
      congr 2
      have e1 : (2 : Int) ^ (8 * k) = ((256 ^ k : Nat) : Int) := by
        rw [Int.pow_mul]; simp
      rw [e1]; simp)
    have hmu2 := hid (show m / 256 = u / 256 ^ (k + 1) by rw [hmu.out, Nat.div_div_eq_div_mul, Nat.pow_succ])
    have hlen := bytesL_len (u : Int) k
    have hsz := hB.size
    generalize bytesL (u : Int) k = ys at *
    clear hmu
    go_wp2_with (first
      | (at_builtin; refine wpList_app1 wr w rfl (.tmp 12) (.tmp 16) 33 rfl w.heap.size w.heap.size 5 .u8 1 bytesOf (.slice a ys.length cap) ys rfl hO ((m : Int) % 256) rfl (by omega) (by decide) hB (Nat.le_refl _) hsz ?_))
    intro a1 cap1 W1 own1 bel1
    clear hO hB hsz
    replace own1 := hid own1
    replace bel1 := hid bel1
    go_wp2_with fail
    go_roundw
    case rel => exact ⟨m / 256, k + 1, a1, cap1, by omega, by simp, by go_num, by omega, hmu2, by rw [hup.out, List.length_append, hlen]; rfl, by rw [hup.out, List.length_append, hlen]; exact own1.out, bel1.out⟩
    case measure => simp only [intOf]; omega

end Go.Proofs.Ytekilpmmadhpoaa
