/- Package octet: a reader's U. -/
import Derived.Test.YtekilpmmadhpoaaOctet12
import Derived.Laws.BitsAllLaws
import Derived.Laws.ShiftsVarLaws
namespace Go.Proofs.Ytekilpmmadhpoaa
open Go.ChangeShapes Go.WideShapes Go.ChangeAt Go.RowKit Go.Shelf
set_option linter.unusedVariables false
def numB (ys : List Int) : Nat → Nat
  | 0 => 0
  | k + 1 => numB ys k + (ys.getD k 0).toNat * 256 ^ k
theorem getD_bd {ys : List Int} (h : ∀ x ∈ ys, 0 ≤ x ∧ x ≤ 255) (i : Nat) : 0 ≤ ys.getD i 0 ∧ ys.getD i 0 ≤ 255 := by
  rcases Nat.lt_or_ge i ys.length with k | k
  · have e : ys.getD i 0 = ys[i] := by simp [k]
    rw [e]; exact h _ (List.getElem_mem k)
  · have e : ys.getD i 0 = 0 := by simp [k]
    rw [e]; omega
theorem numB_lt (ys : List Int) (h : ∀ i, (ys.getD i 0).toNat ≤ 255) : ∀ k, numB ys k < 256 ^ k
  | 0 => by simp [numB]
  | k + 1 => by
    have h1 := numB_lt ys h k
    have h2 := h k
    have h3 := Nat.mul_le_mul_right (256 ^ k) h2
    unfold numB
    rw [Nat.pow_succ]
    omega
theorem or_byte0 (N c : Nat) (hN : N < 1) (hc : c < 256) : bits .or .u64 (N : Int) (c : Int) = ((N + c * 1 : Nat) : Int) := by
  have e : (c : Int) = ((c * 1 : Nat) : Int) := by simp
  rw [e, u64_or_nat N (c * 1) (by omega) (by omega), Nat.or_comm, nat_join 0 (c * 1) N (by show c * 1 % 1 = 0; omega) (by show N < 1; omega), Nat.add_comm]
theorem or_byte1 (N c : Nat) (hN : N < 256) (hc : c < 256) : bits .or .u64 (N : Int) ((c : Int) * 256) = ((N + c * 256 : Nat) : Int) := by
  have e : ((c : Int) * 256) = ((c * 256 : Nat) : Int) := by simp
  rw [e, u64_or_nat N (c * 256) (by omega) (by omega), Nat.or_comm, nat_join 8 (c * 256) N (by show c * 256 % 256 = 0; omega) (by show N < 256; omega), Nat.add_comm]
theorem or_byte2 (N c : Nat) (hN : N < 65536) (hc : c < 256) : bits .or .u64 (N : Int) ((c : Int) * 65536) = ((N + c * 65536 : Nat) : Int) := by
  have e : ((c : Int) * 65536) = ((c * 65536 : Nat) : Int) := by simp
  rw [e, u64_or_nat N (c * 65536) (by omega) (by omega), Nat.or_comm, nat_join 16 (c * 65536) N (by show c * 65536 % 65536 = 0; omega) (by show N < 65536; omega), Nat.add_comm]
theorem or_byte3 (N c : Nat) (hN : N < 16777216) (hc : c < 256) : bits .or .u64 (N : Int) ((c : Int) * 16777216) = ((N + c * 16777216 : Nat) : Int) := by
  have e : ((c : Int) * 16777216) = ((c * 16777216 : Nat) : Int) := by simp
  rw [e, u64_or_nat N (c * 16777216) (by omega) (by omega), Nat.or_comm, nat_join 24 (c * 16777216) N (by show c * 16777216 % 16777216 = 0; omega) (by show N < 16777216; omega), Nat.add_comm]
theorem or_byte4 (N c : Nat) (hN : N < 4294967296) (hc : c < 256) : bits .or .u64 (N : Int) ((c : Int) * 4294967296) = ((N + c * 4294967296 : Nat) : Int) := by
  have e : ((c : Int) * 4294967296) = ((c * 4294967296 : Nat) : Int) := by simp
  rw [e, u64_or_nat N (c * 4294967296) (by omega) (by omega), Nat.or_comm, nat_join 32 (c * 4294967296) N (by show c * 4294967296 % 4294967296 = 0; omega) (by show N < 4294967296; omega), Nat.add_comm]
theorem or_byte5 (N c : Nat) (hN : N < 1099511627776) (hc : c < 256) : bits .or .u64 (N : Int) ((c : Int) * 1099511627776) = ((N + c * 1099511627776 : Nat) : Int) := by
  have e : ((c : Int) * 1099511627776) = ((c * 1099511627776 : Nat) : Int) := by simp
  rw [e, u64_or_nat N (c * 1099511627776) (by omega) (by omega), Nat.or_comm, nat_join 40 (c * 1099511627776) N (by show c * 1099511627776 % 1099511627776 = 0; omega) (by show N < 1099511627776; omega), Nat.add_comm]
theorem or_byte6 (N c : Nat) (hN : N < 281474976710656) (hc : c < 256) : bits .or .u64 (N : Int) ((c : Int) * 281474976710656) = ((N + c * 281474976710656 : Nat) : Int) := by
  have e : ((c : Int) * 281474976710656) = ((c * 281474976710656 : Nat) : Int) := by simp
  rw [e, u64_or_nat N (c * 281474976710656) (by omega) (by omega), Nat.or_comm, nat_join 48 (c * 281474976710656) N (by show c * 281474976710656 % 281474976710656 = 0; omega) (by show N < 281474976710656; omega), Nat.add_comm]
theorem or_byte7 (N c : Nat) (hN : N < 72057594037927936) (hc : c < 256) : bits .or .u64 (N : Int) ((c : Int) * 72057594037927936) = ((N + c * 72057594037927936 : Nat) : Int) := by
  have e : ((c : Int) * 72057594037927936) = ((c * 72057594037927936 : Nat) : Int) := by simp
  rw [e, u64_or_nat N (c * 72057594037927936) (by omega) (by omega), Nat.or_comm, nat_join 56 (c * 72057594037927936) N (by show c * 72057594037927936 % 72057594037927936 = 0; omega) (by show N < 72057594037927936; omega), Nat.add_comm]
set_option maxHeartbeats 2000000 in
theorem ru_yes (B : Nat) (zs : List Int) (n : Nat) (w : World) (a : Option Addr) (cap : Nat) (hH : w.heap[B]? = some (.cells #[.bool true, .slice a zs.length cap, .bool false] 73 (0, 0))) (hsl : Sl .u8 w a zs.length cap zs) (hz : ∀ x ∈ zs, (Lit.int .u8 x).wf = true) (hn1 : 1 ≤ n) (hn8 : n ≤ 8) (hn : n ≤ zs.length) (hl : zs.length ≤ 1000000) :
    Calls Try.prog 46 #[.pointer (some ⟨B, 0, none⟩), .int .i64 (n : Int)] w fun e w' => e = .returned (.int .u64 (numB (zs.take n) n)) ∧ ∃ a' cap', w' = w.setCell ⟨B, 1, none⟩ (.slice a' (zs.length - n) cap') ∧ Sl .u8 w a' (zs.length - n) cap' (zs.drop n) := by
  have k1 := sized4_any (n : Int) w
  have e1 : sizedS (n : Int) = true := decide_eq_true ⟨by omega, by omega⟩
  rw [e1] at k1
  have k2 := next_yes B zs n a zs.length cap w hH hsl hn hl
  have ht := fun u => sl_set (hsl.take n hn) (fun x h => by cases h) hH 1 u
  replace ht := hid ht
  have hbd := hid (fun i => bytes_bd (zs := zs.take n) (fun x hx => hz x (List.mem_of_mem_take hx)) |> fun hb => getD_bd hb i)
  clear hH hsl e1 hz
  go_enter Try.func46, Try.ntmps46
  go_wp2_with fail
  refine k1.mono ?_
  rintro e w2 ⟨rfl, rfl⟩
  go_wp2_with fail
  refine k2.mono ?_
  rintro e w3 ⟨rfl, a2, cap2, rfl, hs2⟩
  have hrd := (ht.out (.slice a2 (zs.length - n) cap2)).2.2.2.2
  have hx : ∃ V, w2.setCell ⟨B, 1, none⟩ (.slice a2 (zs.length - n) cap2) = V := ⟨_, rfl⟩
  obtain ⟨V, hV⟩ := hx
  rw [hV] at hrd ⊢
  replace hV := hid hV
  replace hrd := hid hrd
  go_wp2_with fail
  go_loopw [7, 20] (fun u i wr => ∃ k : Nat, k ≤ n ∧ i = .int .i64 k ∧ u = .int .u64 (numB (zs.take n) k) ∧ wr = V) (fun u i _ => n - (intOf i).toNat)
  case atStart => exact ⟨0, by omega, rfl, rfl, rfl⟩
  case round =>
    obtain ⟨k, hk, rfl, rfl, rfl⟩ := hrel
    by_cases hlt : (k : Int) < n
    · have hlt2 : k < n := by omega
      obtain ⟨b, off, rfl, hc⟩ := hrd.out k (by rw [List.length_take]; omega)
      have hcb := hbd.out k
      have hNl := numB_lt (zs.take n) (fun i => by have := hbd.out i; omega) k
      have hnx : Go.RowKit.Hid (numB (zs.take n) (k + 1) = numB (zs.take n) k + ((zs.take n).getD k 0).toNat * 256 ^ k) := hid rfl
      obtain ⟨c, hcc⟩ := Int.eq_ofNat_of_zero_le hcb.1
      rw [hcc] at hc hcb hnx
      obtain ⟨N, hN⟩ : ∃ N, numB (zs.take n) k = N := ⟨_, rfl⟩
      rw [hN] at hNl hnx ⊢
      clear hN hcc
      have hw1 : IntKind.u64.wrap (c : Int) = c := by simp [IntKind.wrap, IntKind.bits, IntKind.signed]; omega
      obtain rfl | rfl | rfl | rfl | rfl | rfl | rfl | rfl : k = 0 ∨ k = 1 ∨ k = 2 ∨ k = 3 ∨ k = 4 ∨ k = 5 ∨ k = 6 ∨ k = 7 := by omega
      · have hor := or_byte0 N c (by simpa using hNl) (by omega)
        rw [Nat.add_zero] at hc
        go_wp2_with fail
        go_roundw
        case rel => exact ⟨1, by omega, by simp, by rw [hnx.out]; simp, trivial⟩
        case measure => simp only [intOf]; omega
      · have hor := or_byte1 N c (by simpa using hNl) (by omega)
        go_wp2_with fail
        go_roundw
        case rel => exact ⟨2, by omega, by simp, by rw [hnx.out]; simp, trivial⟩
        case measure => simp only [intOf]; omega
      · have hor := or_byte2 N c (by simpa using hNl) (by omega)
        go_wp2_with fail
        go_roundw
        case rel => exact ⟨3, by omega, by simp, by rw [hnx.out]; simp, trivial⟩
        case measure => simp only [intOf]; omega
      · have hor := or_byte3 N c (by simpa using hNl) (by omega)
        go_wp2_with fail
        go_roundw
        case rel => exact ⟨4, by omega, by simp, by rw [hnx.out]; simp, trivial⟩
        case measure => simp only [intOf]; omega
      · have hor := or_byte4 N c (by simpa using hNl) (by omega)
        go_wp2_with fail
        go_roundw
        case rel => exact ⟨5, by omega, by simp, by rw [hnx.out]; simp, trivial⟩
        case measure => simp only [intOf]; omega
      · have hor := or_byte5 N c (by simpa using hNl) (by omega)
        go_wp2_with fail
        go_roundw
        case rel => exact ⟨6, by omega, by simp, by rw [hnx.out]; simp, trivial⟩
        case measure => simp only [intOf]; omega
      · have hor := or_byte6 N c (by simpa using hNl) (by omega)
        go_wp2_with fail
        go_roundw
        case rel => exact ⟨7, by omega, by simp, by rw [hnx.out]; simp, trivial⟩
        case measure => simp only [intOf]; omega
      · have hor := or_byte7 N c (by simpa using hNl) (by omega)
        go_wp2_with fail
        go_roundw
        case rel => exact ⟨8, by omega, by simp, by rw [hnx.out]; simp, trivial⟩
        case measure => simp only [intOf]; omega
    · go_wp2_with fail
      go_ret
      obtain rfl : k = n := by omega
      exact ⟨rfl, a2, cap2, hV.out.symm, hs2⟩

end Go.Proofs.Ytekilpmmadhpoaa
