/- The reference of package octet: half, FitsU, FitsI, Bytes. -/
import Derived.Test.YtfcgeogooapmpaaOctet18
namespace Go.Proofs.Ytfcgeogooapmpaa
open Go.ChangeShapes Go.WideShapes Go.ChangeAt Go.RowKit Go.Shelf
set_option linter.unusedVariables false

def hf (k : Nat) : Int := 128 * 256 ^ (k - 1)
theorem hf_up (k : Nat) (h : 1 ≤ k) : hf k * 256 = hf (k + 1) := by
  obtain ⟨j, rfl⟩ : ∃ j, k = j + 1 := ⟨k - 1, by omega⟩
  unfold hf
  simp only [Nat.add_sub_cancel]
  rw [Int.pow_succ, Int.mul_assoc]
theorem hf_le (k : Nat) (h : k ≤ 8) : 0 ≤ hf k ∧ hf k ≤ 9223372036854775808 := by
  obtain rfl | rfl | rfl | rfl | rfl | rfl | rfl | rfl | rfl : k = 0 ∨ k = 1 ∨ k = 2 ∨ k = 3 ∨ k = 4 ∨ k = 5 ∨ k = 6 ∨ k = 7 ∨ k = 8 := by omega
  all_goals decide +kernel
theorem hf_two (k : Nat) (h : 1 ≤ k) : 2 * hf k = 256 ^ k := by
  obtain ⟨j, rfl⟩ : ∃ j, k = j + 1 := ⟨k - 1, by omega⟩
  unfold hf
  rw [Int.pow_succ]
  simp only [Nat.add_sub_cancel]
  omega
theorem hf_7 (k : Nat) (h : k ≤ 7) : hf k ≤ 36028797018963968 := by
  obtain rfl | rfl | rfl | rfl | rfl | rfl | rfl | rfl : k = 0 ∨ k = 1 ∨ k = 2 ∨ k = 3 ∨ k = 4 ∨ k = 5 ∨ k = 6 ∨ k = 7 := by omega
  all_goals decide +kernel
set_option maxHeartbeats 1000000 in
theorem half_any (n : Nat) (h1 : 1 ≤ n) (h8 : n ≤ 8) (w : World) : Calls Try.prog 36 #[.int .i64 (n : Int)] w fun e w' => e = .returned (.int .u64 (hf n)) ∧ w' = w := by
  go_enter Try.func36, Try.ntmps36
  go_wp2_with fail
  go_loopw [3, 4] (fun h i wr => ∃ k : Nat, 1 ≤ k ∧ k ≤ n ∧ h = .int .u64 (hf k) ∧ i = .int .i64 k ∧ wr = w) (fun _ i _ => n - (intOf i).toNat)
  case atStart => exact ⟨1, by omega, h1, rfl, rfl, rfl⟩
  case round =>
    obtain ⟨k, hk1, hk, rfl, rfl, rfl⟩ := hrel
    by_cases hlt : (k : Int) < n
    case neg =>
      obtain rfl : k = n := by omega
      go_wp2_with fail
      go_ret
      exact ⟨rfl, rfl⟩
    have hu := hid (hf_up k hk1)
    have hb := hf_le (k + 1) (by omega)
    rw [← hu.out] at hb
    generalize hf k = p at *
    have hw : IntKind.u64.wrap (p * 256) = p * 256 := by simp [IntKind.wrap, IntKind.bits, IntKind.signed]; omega
    go_wp2_with omega
    go_roundw
    case rel => exact ⟨k + 1, by omega, by omega, by rw [hu.out], by simp, trivial⟩
    case measure => simp only [intOf]; omega

set_option maxHeartbeats 1000000 in
theorem rfitu_any (n u : Int) (hu0 : 0 ≤ u) (hu1 : u ≤ 18446744073709551615) (w : World) : Calls Try.prog 33 #[.int .i64 n, .int .u64 u] w fun e w' => e = .returned (.bool (fitU n u)) ∧ w' = w := by
  by_cases c1 : 1 ≤ n
  case neg =>
    have e := hid (show fitU n u = false from decide_eq_false fun h => c1 h.1)
    have b1 : decide (1 ≤ n) = false := decide_eq_false c1
    go_enter Try.func33, Try.ntmps33
    go_wp2_with omega
    go_ret
    exact ⟨by rw [e.out]; rfl, rfl⟩
  have b1 : decide (1 ≤ n) = true := decide_eq_true c1
  by_cases c8 : n ≤ 8
  case neg =>
    have e := hid (show fitU n u = false from decide_eq_false fun h => c8 h.2.1)
    have b2 : decide (n ≤ 8) = false := decide_eq_false c8
    go_enter Try.func33, Try.ntmps33
    go_wp2_with omega
    go_ret
    exact ⟨by rw [e.out]; rfl, rfl⟩
  have b2 : decide (n ≤ 8) = true := decide_eq_true c8
  by_cases ce : n = 8
  · have e := hid (show fitU n u = true from decide_eq_true ⟨c1, c8, by subst ce; show u < 256 ^ 8; omega⟩)
    have b3 : (n == 8) = true := by simp [ce]
    clear ce
    go_enter Try.func33, Try.ntmps33
    go_wp2_with omega
    go_ret
    exact ⟨by rw [e.out]; rfl, rfl⟩
  have b3 : (n == 8) = false := by simp [ce]
  obtain ⟨m, rfl⟩ : ∃ m : Nat, n = m := ⟨n.toNat, by omega⟩
  have kh := half_any m (by omega) (by omega) w
  have h7 := hf_7 m (by omega)
  have h0 := (hf_le m (by omega)).1
  have h2 := hf_two m (by omega)
  by_cases cu : u < 2 * hf m
  · have e := hid (show fitU (m : Int) u = true from decide_eq_true ⟨c1, c8, by rw [Int.toNat_natCast, ← h2]; exact cu⟩)
    clear h2
    generalize hf m = p at *
    have hw : IntKind.u64.wrap (2 * p) = 2 * p := by simp [IntKind.wrap, IntKind.bits, IntKind.signed]; omega
    have b4 : decide (u < 2 * p) = true := decide_eq_true cu
    go_enter Try.func33, Try.ntmps33
    go_wp2_with omega
    refine kh.mono ?_
    rintro e w2 ⟨rfl, rfl⟩
    go_wp2_with omega
    go_ret
    exact ⟨by rw [e.out]; rfl, rfl⟩
  · have e := hid (show fitU (m : Int) u = false from decide_eq_false fun h => cu (by have h3 := h.2.2; rw [Int.toNat_natCast, ← h2] at h3; exact h3))
    clear h2
    generalize hf m = p at *
    have hw : IntKind.u64.wrap (2 * p) = 2 * p := by simp [IntKind.wrap, IntKind.bits, IntKind.signed]; omega
    have b4 : decide (u < 2 * p) = false := decide_eq_false cu
    go_enter Try.func33, Try.ntmps33
    go_wp2_with omega
    refine kh.mono ?_
    rintro e w2 ⟨rfl, rfl⟩
    go_wp2_with omega
    go_ret
    exact ⟨by rw [e.out]; rfl, rfl⟩

set_option maxHeartbeats 2000000 in
theorem rfiti_any (n i : Int) (hi0 : -9223372036854775808 ≤ i) (hi1 : i ≤ 9223372036854775807) (w : World) : Calls Try.prog 35 #[.int .i64 n, .int .i64 i] w fun e w' => e = .returned (.bool (fitI n i)) ∧ w' = w := by
  by_cases c1 : 1 ≤ n
  case neg =>
    have e := hid (show fitI n i = false from decide_eq_false fun h => c1 h.1)
    have b1 : decide (1 ≤ n) = false := decide_eq_false c1
    go_enter Try.func35, Try.ntmps35
    go_wp2_with omega
    go_ret
    exact ⟨by rw [e.out]; rfl, rfl⟩
  have b1 : decide (1 ≤ n) = true := decide_eq_true c1
  by_cases c8 : n ≤ 8
  case neg =>
    have e := hid (show fitI n i = false from decide_eq_false fun h => c8 h.2.1)
    have b2 : decide (n ≤ 8) = false := decide_eq_false c8
    go_enter Try.func35, Try.ntmps35
    go_wp2_with omega
    go_ret
    exact ⟨by rw [e.out]; rfl, rfl⟩
  have b2 : decide (n ≤ 8) = true := decide_eq_true c8
  obtain ⟨m, rfl⟩ : ∃ m : Nat, n = m := ⟨n.toNat, by omega⟩
  have kh := half_any m (by omega) (by omega) w
  have h0 := hf_le m (by omega)
  have eF : fitI (m : Int) i = decide (-hf m ≤ i ∧ i < hf m) := by
    unfold fitI hf
    rw [Int.toNat_natCast]
    congr 1
    simp only [eq_iff_iff]
    exact ⟨fun h => h.2.2, fun h => ⟨c1, c8, h⟩⟩
  rw [eF]
  clear eF
  generalize hf m = p at *
  by_cases ci : 0 ≤ i
  · have b3 : decide (0 ≤ i) = true := decide_eq_true ci
    have hw : IntKind.u64.wrap i = i := by simp [IntKind.wrap, IntKind.bits, IntKind.signed]; omega
    have b5 : decide (i < 0) = false := decide_eq_false (by omega)
    by_cases cp : i < p
    · have e := hid (show decide (-p ≤ i ∧ i < p) = true from decide_eq_true ⟨by omega, cp⟩)
      have b4 : decide (i < p) = true := decide_eq_true cp
      go_enter Try.func35, Try.ntmps35
      go_wp2_with omega
      refine kh.mono ?_
      rintro e w2 ⟨rfl, rfl⟩
      go_wp2_with omega
      go_ret
      exact ⟨by rw [e.out]; rfl, rfl⟩
    · have e := hid (show decide (-p ≤ i ∧ i < p) = false from decide_eq_false (by omega))
      have b4 : decide (i < p) = false := decide_eq_false cp
      go_enter Try.func35, Try.ntmps35
      go_wp2_with omega
      refine kh.mono ?_
      rintro e w2 ⟨rfl, rfl⟩
      go_wp2_with omega
      go_ret
      exact ⟨by rw [e.out]; rfl, rfl⟩
  · have b3 : decide (0 ≤ i) = false := decide_eq_false ci
    have b5 : decide (i < 0) = true := decide_eq_true (by omega)
    have hw1 : IntKind.i64.wrap (i + 1) = i + 1 := by rw [IntKind.wrap_i64]; omega
    have hw2 : IntKind.i64.wrap (-(i + 1)) = -(i + 1) := by rw [IntKind.wrap_i64]; omega
    have hw : IntKind.u64.wrap (-(i + 1)) = -(i + 1) := by simp [IntKind.wrap, IntKind.bits, IntKind.signed]; omega
    by_cases cp : -(i + 1) < p
    · have e := hid (show decide (-p ≤ i ∧ i < p) = true from decide_eq_true ⟨by omega, by omega⟩)
      have b4 : decide (-(i + 1) < p) = true := decide_eq_true cp
      go_enter Try.func35, Try.ntmps35
      go_wp2_with omega
      refine kh.mono ?_
      rintro e w2 ⟨rfl, rfl⟩
      go_wp2_with omega
      go_ret
      exact ⟨by rw [e.out]; rfl, rfl⟩
    · have e := hid (show decide (-p ≤ i ∧ i < p) = false from decide_eq_false (by omega))
      have b4 : decide (-(i + 1) < p) = false := decide_eq_false cp
      go_enter Try.func35, Try.ntmps35
      go_wp2_with omega
      refine kh.mono ?_
      rintro e w2 ⟨rfl, rfl⟩
      go_wp2_with omega
      go_ret
      exact ⟨by rw [e.out]; rfl, rfl⟩

theorem bytesL_up (u : Int) (k : Nat) : bytesL u (k + 1) = bytesL u k ++ [u / 2 ^ (8 * k) % 256] := by
  unfold bytesL
  rw [lowL_next, List.map_append]; rfl
set_option maxHeartbeats 1000000 in
theorem rbytes_any (n : Nat) (hn : n ≤ 8) (u : Nat) (hu1 : u ≤ 18446744073709551615) (w : World) : Calls Try.prog 34 #[.int .i64 (n : Int), .int .u64 (u : Int)] w (BytesOk w (bytesL u n)) := by
  go_enter Try.func34, Try.ntmps34
  go_wp2_with fail
  go_loopw [1, 5, 6] (fun x v i wr => ∃ (m k : Nat) (a : Option Addr) (cap : Nat), k ≤ n ∧ i = .int .i64 k ∧ x = .int .u64 m ∧ m ≤ 18446744073709551615 ∧ Hid (m = u / 256 ^ k) ∧ v = .slice a (bytesL u k).length cap ∧ Own .u8 5 wr w.heap.size (.slice a (bytesL u k).length cap) (bytesL u k) ∧ Below w.heap.size w wr) (fun _ _ i _ => n - (intOf i).toNat)
  case atStart => exact ⟨u, 0, none, 0, by omega, rfl, rfl, hu1, hid (by simp), rfl, Own.nil _ _ _ _, Below.refl _ _⟩
  case round =>
    obtain ⟨m, k, a, cap, hk, rfl, rfl, hm, hmu, rfl, hO, hB⟩ := hrel
    by_cases hlt : (k : Int) < n
    case neg =>
      obtain rfl : k = n := by omega
      replace hO := hid hO
      go_wp2_with fail
      go_ret
      exact ⟨a, cap, rfl, hO.out, hB⟩
    have hup := hid (show bytesL u (k + 1) = bytesL u k ++ [(m : Int) % 256] by
      rw [bytesL_up, hmu.out]
      congr 2
      have e1 : (2 : Int) ^ (8 * k) = ((256 ^ k : Nat) : Int) := by
        rw [Int.pow_mul]; simp
      rw [e1]; simp)
    have hmu2 := hid (show m / 256 = u / 256 ^ (k + 1) by rw [hmu.out, Nat.div_div_eq_div_mul, Nat.pow_succ])
    have hlen := bytesL_len (u : Int) k
    have hsz := hB.size
    generalize bytesL (u : Int) k = ys at *
    clear hmu
    go_wp2_with (first
      | (at_builtin; refine wpList_app1 wr w rfl (.tmp 12) (.tmp 16) 22 rfl w.heap.size w.heap.size 5 .u8 1 bytesOf (.slice a ys.length cap) ys rfl hO ((m : Int) % 256) rfl (by omega) (by decide) hB (Nat.le_refl _) hsz ?_))
    intro a1 cap1 W1 own1 bel1
    clear hO hB hsz
    replace own1 := hid own1
    replace bel1 := hid bel1
    go_wp2_with fail
    go_roundw
    case rel => exact ⟨m / 256, k + 1, a1, cap1, by omega, by simp, by go_num, by omega, hmu2, by rw [hup.out, List.length_append, hlen]; rfl, by rw [hup.out, List.length_append, hlen]; exact own1.out, bel1.out⟩
    case measure => simp only [intOf]; omega

end Go.Proofs.Ytfcgeogooapmpaa
