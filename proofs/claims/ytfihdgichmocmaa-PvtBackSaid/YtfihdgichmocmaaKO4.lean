/- Several texts in one: Octet13, Octet14, Octet15, Octet16. -/
import Derived.Test.YtfihdgichmocmaaKO3
import Derived.Laws.BitsAllLaws
import Derived.Laws.ShiftsVarLaws

/- Package octet: a reader's U. -/
namespace Go.Proofs.Ytfihdgichmocmaa
open Go.ChangeShapes Go.WideShapes Go.ChangeAt Go.RowKit Go.Shelf
set_option linter.unusedVariables false
def numB (ys : List Int) : Nat → Nat
  | 0 => 0
  | k + 1 => numB ys k + (ys.getD k 0).toNat * 256 ^ k
theorem getD_bd {ys : List Int} (h : ∀ x ∈ ys, 0 ≤ x ∧ x ≤ 255) (i : Nat) : 0 ≤ ys.getD i 0 ∧ ys.getD i 0 ≤ 255 := by
  rcases Nat.lt_or_ge i ys.length with k | k
  · have e : ys.getD i 0 = ys[i] := by simp [k]
    rw [e]; exact h _ (List.getElem_mem k)
  · have e : ys.getD i 0 = 0 := by simp [k]
    rw [e]; omega
theorem numB_lt (ys : List Int) (h : ∀ i, (ys.getD i 0).toNat ≤ 255) : ∀ k, numB ys k < 256 ^ k
  | 0 => by simp [numB]
  | k + 1 => by
    have h1 := numB_lt ys h k
    have h2 := h k
    have h3 := Nat.mul_le_mul_right (256 ^ k) h2
    unfold numB
    rw [Nat.pow_succ]
    omega
theorem or_byte0 (N c : Nat) (hN : N < 1) (hc : c < 256) : bits .or .u64 (N : Int) (c : Int) = ((N + c * 1 : Nat) : Int) := by
  have e : (c : Int) = ((c * 1 : Nat) : Int) := by simp
  rw [e, u64_or_nat N (c * 1) (by omega) (by omega), Nat.or_comm, nat_join 0 (c * 1) N (by show c * 1 % 1 = 0; omega) (by show N < 1; omega), Nat.add_comm]
theorem or_byte1 (N c : Nat) (hN : N < 256) (hc : c < 256) : bits .or .u64 (N : Int) ((c : Int) * 256) = ((N + c * 256 : Nat) : Int) := by
  have e : ((c : Int) * 256) = ((c * 256 : Nat) : Int) := by simp
  rw [e, u64_or_nat N (c * 256) (by omega) (by omega), Nat.or_comm, nat_join 8 (c * 256) N (by show c * 256 % 256 = 0; omega) (by show N < 256; omega), Nat.add_comm]
theorem or_byte2 (N c : Nat) (hN : N < 65536) (hc : c < 256) : bits .or .u64 (N : Int) ((c : Int) * 65536) = ((N + c * 65536 : Nat) : Int) := by
  have e : ((c : Int) * 65536) = ((c * 65536 : Nat) : Int) := by simp
  rw [e, u64_or_nat N (c * 65536) (by omega) (by omega), Nat.or_comm, nat_join 16 (c * 65536) N (by show c * 65536 % 65536 = 0; omega) (by show N < 65536; omega), Nat.add_comm]
theorem or_byte3 (N c : Nat) (hN : N < 16777216) (hc : c < 256) : bits .or .u64 (N : Int) ((c : Int) * 16777216) = ((N + c * 16777216 : Nat) : Int) := by
  have e : ((c : Int) * 16777216) = ((c * 16777216 : Nat) : Int) := by simp
  rw [e, u64_or_nat N (c * 16777216) (by omega) (by omega), Nat.or_comm, nat_join 24 (c * 16777216) N (by show c * 16777216 % 16777216 = 0; omega) (by show N < 16777216; omega), Nat.add_comm]
theorem or_byte4 (N c : Nat) (hN : N < 4294967296) (hc : c < 256) : bits .or .u64 (N : Int) ((c : Int) * 4294967296) = ((N + c * 4294967296 : Nat) : Int) := by
  have e : ((c : Int) * 4294967296) = ((c * 4294967296 : Nat) : Int) := by simp
  rw [e, u64_or_nat N (c * 4294967296) (by omega) (by omega), Nat.or_comm, nat_join 32 (c * 4294967296) N (by show c * 4294967296 % 4294967296 = 0; omega) (by show N < 4294967296; omega), Nat.add_comm]
theorem or_byte5 (N c : Nat) (hN : N < 1099511627776) (hc : c < 256) : bits .or .u64 (N : Int) ((c : Int) * 1099511627776) = ((N + c * 1099511627776 : Nat) : Int) := by
  have e : ((c : Int) * 1099511627776) = ((c * 1099511627776 : Nat) : Int) := by simp
  rw [e, u64_or_nat N (c * 1099511627776) (by omega) (by omega), Nat.or_comm, nat_join 40 (c * 1099511627776) N (by show c * 1099511627776 % 1099511627776 = 0; omega) (by show N < 1099511627776; omega), Nat.add_comm]
theorem or_byte6 (N c : Nat) (hN : N < 281474976710656) (hc : c < 256) : bits .or .u64 (N : Int) ((c : Int) * 281474976710656) = ((N + c * 281474976710656 : Nat) : Int) := by
  have e : ((c : Int) * 281474976710656) = ((c * 281474976710656 : Nat) : Int) := by simp
  rw [e, u64_or_nat N (c * 281474976710656) (by omega) (by omega), Nat.or_comm, nat_join 48 (c * 281474976710656) N (by show c * 281474976710656 % 281474976710656 = 0; omega) (by show N < 281474976710656; omega), Nat.add_comm]
theorem or_byte7 (N c : Nat) (hN : N < 72057594037927936) (hc : c < 256) : bits .or .u64 (N : Int) ((c : Int) * 72057594037927936) = ((N + c * 72057594037927936 : Nat) : Int) := by
  have e : ((c : Int) * 72057594037927936) = ((c * 72057594037927936 : Nat) : Int) := by simp
  rw [e, u64_or_nat N (c * 72057594037927936) (by omega) (by omega), Nat.or_comm, nat_join 56 (c * 72057594037927936) N (by show c * 72057594037927936 % 72057594037927936 = 0; omega) (by show N < 72057594037927936; omega), Nat.add_comm]
set_option maxHeartbeats 2000000 in
theorem ru_yes (B : Nat) (zs : List Int) (n : Nat) (w : World) (a : Option Addr) (cap : Nat) (hH : w.heap[B]? = some (.cells #[.bool true, .slice a zs.length cap, .bool false] 101 (0, 0))) (hsl : Sl .u8 w a zs.length cap zs) (hz : ∀ x ∈ zs, (Lit.int .u8 x).wf = true) (hn1 : 1 ≤ n) (hn8 : n ≤ 8) (hn : n ≤ zs.length) (hl : zs.length ≤ 1000000) :
    Calls Try.prog 69 #[.pointer (some ⟨B, 0, none⟩), .int .i64 (n : Int)] w fun e w' => e = .returned (.int .u64 (numB (zs.take n) n)) ∧ ∃ a' cap', w' = w.setCell ⟨B, 1, none⟩ (.slice a' (zs.length - n) cap') ∧ Sl .u8 w a' (zs.length - n) cap' (zs.drop n) := by
  have k1 := sized4_any (n : Int) w
  have e1 : sizedS (n : Int) = true := decide_eq_true ⟨by omega, by omega⟩
  rw [e1] at k1
  have k2 := next_yes B zs n a zs.length cap w hH hsl hn hl
  have ht := fun u => sl_set (hsl.take n hn) (fun x h => by cases h) hH 1 u
  replace ht := hid ht
  have hbd := hid (fun i => bytes_bd (zs := zs.take n) (fun x hx => hz x (List.mem_of_mem_take hx)) |> fun hb => getD_bd hb i)
  clear hH hsl e1 hz
  go_enter Try.func69, Try.ntmps69
  go_wp2_with fail
  refine k1.mono ?_
  rintro e w2 ⟨rfl, rfl⟩
  go_wp2_with fail
  refine k2.mono ?_
  rintro e w3 ⟨rfl, a2, cap2, rfl, hs2⟩
  have hrd := (ht.out (.slice a2 (zs.length - n) cap2)).2.2.2.2
  have hx : ∃ V, w2.setCell ⟨B, 1, none⟩ (.slice a2 (zs.length - n) cap2) = V := ⟨_, rfl⟩
  obtain ⟨V, hV⟩ := hx
  rw [hV] at hrd ⊢
  replace hV := hid hV
  replace hrd := hid hrd
  go_wp2_with fail
  go_loopw [7, 20] (fun u i wr => ∃ k : Nat, k ≤ n ∧ i = .int .i64 k ∧ u = .int .u64 (numB (zs.take n) k) ∧ wr = V) (fun u i _ => n - (intOf i).toNat)
  case atStart => exact ⟨0, by omega, rfl, rfl, rfl⟩
  case round =>
    obtain ⟨k, hk, rfl, rfl, rfl⟩ := hrel
    by_cases hlt : (k : Int) < n
    · have hlt2 : k < n := by omega
      obtain ⟨b, off, rfl, hc⟩ := hrd.out k (by rw [List.length_take]; omega)
      have hcb := hbd.out k
      have hNl := numB_lt (zs.take n) (fun i => by have := hbd.out i; omega) k
      have hnx : Go.RowKit.Hid (numB (zs.take n) (k + 1) = numB (zs.take n) k + ((zs.take n).getD k 0).toNat * 256 ^ k) := hid rfl
      obtain ⟨c, hcc⟩ := Int.eq_ofNat_of_zero_le hcb.1
      rw [hcc] at hc hcb hnx
      obtain ⟨N, hN⟩ : ∃ N, numB (zs.take n) k = N := ⟨_, rfl⟩
      rw [hN] at hNl hnx ⊢
      clear hN hcc
      have hw1 : IntKind.u64.wrap (c : Int) = c := by simp [IntKind.wrap, IntKind.bits, IntKind.signed]; omega
      obtain rfl | rfl | rfl | rfl | rfl | rfl | rfl | rfl : k = 0 ∨ k = 1 ∨ k = 2 ∨ k = 3 ∨ k = 4 ∨ k = 5 ∨ k = 6 ∨ k = 7 := by omega
      · have hor := or_byte0 N c (by simpa using hNl) (by omega)
        rw [Nat.add_zero] at hc
        go_wp2_with fail
        go_roundw
        case rel => exact ⟨1, by omega, by simp, by rw [hnx.out]; simp, trivial⟩
        case measure => simp only [intOf]; omega
      · have hor := or_byte1 N c (by simpa using hNl) (by omega)
        go_wp2_with fail
        go_roundw
        case rel => exact ⟨2, by omega, by simp, by rw [hnx.out]; simp, trivial⟩
        case measure => simp only [intOf]; omega
      · have hor := or_byte2 N c (by simpa using hNl) (by omega)
        go_wp2_with fail
        go_roundw
        case rel => exact ⟨3, by omega, by simp, by rw [hnx.out]; simp, trivial⟩
        case measure => simp only [intOf]; omega
      · have hor := or_byte3 N c (by simpa using hNl) (by omega)
        go_wp2_with fail
        go_roundw
        case rel => exact ⟨4, by omega, by simp, by rw [hnx.out]; simp, trivial⟩
        case measure => simp only [intOf]; omega
      · have hor := or_byte4 N c (by simpa using hNl) (by omega)
        go_wp2_with fail
        go_roundw
        case rel => exact ⟨5, by omega, by simp, by rw [hnx.out]; simp, trivial⟩
        case measure => simp only [intOf]; omega
      · have hor := or_byte5 N c (by simpa using hNl) (by omega)
        go_wp2_with fail
        go_roundw
        case rel => exact ⟨6, by omega, by simp, by rw [hnx.out]; simp, trivial⟩
        case measure => simp only [intOf]; omega
      · have hor := or_byte6 N c (by simpa using hNl) (by omega)
        go_wp2_with fail
        go_roundw
        case rel => exact ⟨7, by omega, by simp, by rw [hnx.out]; simp, trivial⟩
        case measure => simp only [intOf]; omega
      · have hor := or_byte7 N c (by simpa using hNl) (by omega)
        go_wp2_with fail
        go_roundw
        case rel => exact ⟨8, by omega, by simp, by rw [hnx.out]; simp, trivial⟩
        case measure => simp only [intOf]; omega
    · go_wp2_with fail
      go_ret
      obtain rfl : k = n := by omega
      exact ⟨rfl, a2, cap2, hV.out.symm, hs2⟩

end Go.Proofs.Ytfihdgichmocmaa

/- Package octet: what has failed: numbers. -/
namespace Go.Proofs.Ytfihdgichmocmaa
open Go.ChangeShapes Go.WideShapes Go.ChangeAt Go.RowKit Go.Shelf
set_option linter.unusedVariables false

theorem ru_failed (B : Nat) (n : Int) (w : World) (h : Failed 101 B w) : Calls Try.prog 69 #[.pointer (some ⟨B, 0, none⟩), .int .i64 n] w fun e w' => e = .returned (.int .u64 0) ∧ w' = w := by
  have k1 := sized4_any n w
  have k2 := fun b => next_failed B n b w h
  go_enter Try.func69, Try.ntmps69
  go_wp2_with fail
  refine k1.mono ?_
  rintro e w2 ⟨rfl, rfl⟩
  go_wp2_with fail
  refine (k2 _).mono ?_
  rintro e w3 ⟨rfl, rfl⟩
  go_wp2_with fail
  refine wp_loop_rounds 1 ?_
  rw [rounds_succ]
  go_wp2_with fail
  go_ret
  exact ⟨rfl, rfl⟩

theorem ri_failed (B : Nat) (n : Int) (w : World) (h : Failed 101 B w) : Calls Try.prog 67 #[.pointer (some ⟨B, 0, none⟩), .int .i64 n] w fun e w' => e = .returned (.int .i64 0) ∧ w' = w := by
  have k1 := sized4_any n w
  have k2 := ru_failed B n w h
  by_cases c : sizedS n = true
  · rw [c] at k1
    obtain ⟨c1, c2⟩ := of_decide_eq_true c
    clear c
    obtain rfl | rfl | rfl | rfl | rfl | rfl | rfl | rfl : n = 1 ∨ n = 2 ∨ n = 3 ∨ n = 4 ∨ n = 5 ∨ n = 6 ∨ n = 7 ∨ n = 8 := by omega
    all_goals
      go_enter Try.func67, Try.ntmps67
      go_wp2_with fail
      refine k2.mono ?_
      rintro e w2 ⟨rfl, rfl⟩
      go_wp2_with fail
      refine k1.mono ?_
      rintro e w2 ⟨rfl, rfl⟩
      go_wp2_with fail
      go_ret
      exact ⟨rfl, rfl⟩
  · have c2 := Bool.not_eq_true _ ▸ c
    rw [c2] at k1
    clear c c2
    go_enter Try.func67, Try.ntmps67
    go_wp2_with fail
    refine k2.mono ?_
    rintro e w2 ⟨rfl, rfl⟩
    go_wp2_with fail
    refine k1.mono ?_
    rintro e w2 ⟨rfl, rfl⟩
    go_wp2_with fail
    go_ret
    exact ⟨rfl, rfl⟩

set_option maxHeartbeats 1000000 in
theorem wu_failed (B : Nat) (n u : Int) (w : World) (h0 : 0 ≤ u) (h1 : u ≤ 18446744073709551615) (h : Failed 97 B w) : Calls Try.prog 68 #[.pointer (some ⟨B, 0, none⟩), .int .i64 n, .int .u64 u] w fun e w' => e = .returned (.tuple #[]) ∧ After w w' := by
  have k1 := sized4_any n w
  have k2 := fun b => put_failed B n u b w h
  by_cases c : sizedS n = true
  · rw [c] at k1
    obtain ⟨c1, c2⟩ := of_decide_eq_true c
    clear c
    obtain rfl | rfl | rfl | rfl | rfl | rfl | rfl | rfl : n = 1 ∨ n = 2 ∨ n = 3 ∨ n = 4 ∨ n = 5 ∨ n = 6 ∨ n = 7 ∨ n = 8 := by omega
    all_goals
      go_enter Try.func68, Try.ntmps68
      go_wp2_with fail
      refine k1.mono ?_
      rintro e w2 ⟨rfl, rfl⟩
      go_wp2_with fail
      refine (k2 _).mono ?_
      rintro e w2 ⟨rfl, hA⟩
      go_wp2_with fail
      go_end0
      exact ⟨rfl, hA⟩
  · have c2 := Bool.not_eq_true _ ▸ c
    rw [c2] at k1
    clear c c2
    go_enter Try.func68, Try.ntmps68
    go_wp2_with fail
    refine k1.mono ?_
    rintro e w2 ⟨rfl, rfl⟩
    go_wp2_with fail
    refine (k2 _).mono ?_
    rintro e w2 ⟨rfl, hA⟩
    go_wp2_with fail
    go_end0
    exact ⟨rfl, hA⟩

set_option maxHeartbeats 1000000 in
theorem wi_failed (B : Nat) (n i : Int) (w : World) (h0 : -9223372036854775808 ≤ i) (h1 : i ≤ 9223372036854775807) (h : Failed 97 B w) : Calls Try.prog 66 #[.pointer (some ⟨B, 0, none⟩), .int .i64 n, .int .i64 i] w fun e w' => e = .returned (.tuple #[]) ∧ After w w' := by
  have k1 := sized4_any n w
  have k2 := fun u b => put_failed B n u b w h
  by_cases c : sizedS n = true
  · rw [c] at k1
    obtain ⟨c1, c2⟩ := of_decide_eq_true c
    clear c
    obtain rfl | rfl | rfl | rfl | rfl | rfl | rfl | rfl : n = 1 ∨ n = 2 ∨ n = 3 ∨ n = 4 ∨ n = 5 ∨ n = 6 ∨ n = 7 ∨ n = 8 := by omega
    all_goals
      go_enter Try.func66, Try.ntmps66
      go_wp2_with fail
      refine k1.mono ?_
      rintro e w2 ⟨rfl, rfl⟩
      go_wp2_with fail
      all_goals
        refine (k2 _ _).mono ?_
        rintro e w2 ⟨rfl, hA⟩
        go_wp2_with fail
        go_end0
        exact ⟨rfl, hA⟩
  · have c2 := Bool.not_eq_true _ ▸ c
    rw [c2] at k1
    clear c c2
    go_enter Try.func66, Try.ntmps66
    go_wp2_with fail
    refine k1.mono ?_
    rintro e w2 ⟨rfl, rfl⟩
    go_wp2_with fail
    refine (k2 _ _).mono ?_
    rintro e w2 ⟨rfl, hA⟩
    go_wp2_with fail
    go_end0
    exact ⟨rfl, hA⟩


end Go.Proofs.Ytfihdgichmocmaa

/- Package octet: numbers of a reader, whatever it has. -/
namespace Go.Proofs.Ytfihdgichmocmaa
open Go.ChangeShapes Go.WideShapes Go.ChangeAt Go.RowKit Go.Shelf
set_option linter.unusedVariables false

/-- What a reader has: these bytes, or it has failed. -/
def RSt (B : Nat) (w : World) (zs : List Int) (bad : Bool) : Prop := if bad then Failed 101 B w ∧ zs = [] else Rdr B w zs
theorem RSt.later {B : Nat} {w w' : World} {zs : List Int} {bad : Bool} (h : RSt B w zs bad) (hA : After w w') : RSt B w' zs bad := by
  cases bad
  · obtain ⟨a, cap, h1, h2⟩ := h
    exact ⟨a, cap, held_after hA h1, h2.below hA⟩
  · exact ⟨Failed.later h.1 hA, h.2⟩

theorem ru_no (B B0 : Nat) (a : Option Addr) (len cap : Nat) (n : Int) (hn : n < 1 ∨ 8 < n ∨ (len : Int) < n) (w : World) (h1 : B0 ≤ B) (hH : w.heap[B]? = some (.cells #[.bool true, .slice a len cap, .bool false] 101 (0, 0))) :
    Calls Try.prog 69 #[.pointer (some ⟨B, 0, none⟩), .int .i64 n] w fun e w' => e = .returned (.int .u64 0) ∧ Failed 101 B w' ∧ Br B B0 w w' := by
  have k1 := sized4_any n w
  have k2 := next_no B B0 a len cap n (sizedS n) (by
    by_cases c : 1 ≤ n ∧ n ≤ 8
    · right; omega
    · left; exact decide_eq_false c) w h1 hH
  clear hn hH
  go_enter Try.func69, Try.ntmps69
  go_wp2_with fail
  refine k1.mono ?_
  rintro e w2 ⟨rfl, rfl⟩
  go_wp2_with fail
  refine k2.mono ?_
  rintro e w3 ⟨rfl, hF, hB⟩
  replace hF := hid hF
  replace hB := hid hB
  go_wp2_with fail
  refine wp_loop_rounds 1 ?_
  rw [rounds_succ]
  go_wp2_with fail
  go_ret
  exact ⟨rfl, hF.out, hB.out⟩

theorem ri_no (B B0 : Nat) (a : Option Addr) (len cap : Nat) (n : Int) (hn : n < 1 ∨ 8 < n ∨ (len : Int) < n) (w : World) (h1 : B0 ≤ B) (hH : w.heap[B]? = some (.cells #[.bool true, .slice a len cap, .bool false] 101 (0, 0))) :
    Calls Try.prog 67 #[.pointer (some ⟨B, 0, none⟩), .int .i64 n] w fun e w' => e = .returned (.int .i64 0) ∧ Failed 101 B w' ∧ Br B B0 w w' := by
  have k1 := fun w => sized4_any n w
  have k2 := ru_no B B0 a len cap n hn w h1 hH
  clear hH hn
  by_cases c : sizedS n = true
  · rw [c] at k1
    obtain ⟨c1, c2⟩ := of_decide_eq_true c
    clear c
    obtain rfl | rfl | rfl | rfl | rfl | rfl | rfl | rfl : n = 1 ∨ n = 2 ∨ n = 3 ∨ n = 4 ∨ n = 5 ∨ n = 6 ∨ n = 7 ∨ n = 8 := by omega
    all_goals
      go_enter Try.func67, Try.ntmps67
      go_wp2_with fail
      refine k2.mono ?_
      rintro e w2 ⟨rfl, hF, hB⟩
      replace hF := hid hF
      replace hB := hid hB
      go_wp2_with fail
      refine (k1 _).mono ?_
      rintro e w3 ⟨rfl, rfl⟩
      go_wp2_with fail
      go_ret
      exact ⟨rfl, hF.out, hB.out⟩
  · have c2 := Bool.not_eq_true _ ▸ c
    rw [c2] at k1
    clear c c2
    go_enter Try.func67, Try.ntmps67
    go_wp2_with fail
    refine k2.mono ?_
    rintro e w2 ⟨rfl, hF, hB⟩
    replace hF := hid hF
    replace hB := hid hB
    go_wp2_with fail
    refine (k1 _).mono ?_
    rintro e w3 ⟨rfl, rfl⟩
    go_wp2_with fail
    go_ret
    exact ⟨rfl, hF.out, hB.out⟩

/-- A number of n bytes, with a sign. -/
def sgn (n : Nat) (u : Nat) : Int := if u < 128 * 256 ^ (n - 1) then (u : Int) else (u : Int) - 256 ^ n
theorem sgn_sh (n : Nat) (h1 : 1 ≤ n) (h8 : n ≤ 8) (u : Nat) (hu : u < 256 ^ n) : (IntKind.i64.wrap (IntKind.u64.wrap ((u : Int) * 2 ^ (64 - 8 * n)))) / 2 ^ (64 - 8 * n) = sgn n u := by
  rw [IntKind.wrap_i64, IntKind.wrap_u64]
  unfold sgn
  obtain rfl | rfl | rfl | rfl | rfl | rfl | rfl | rfl : n = 1 ∨ n = 2 ∨ n = 3 ∨ n = 4 ∨ n = 5 ∨ n = 6 ∨ n = 7 ∨ n = 8 := by omega
  all_goals (simp only [Nat.reduceMul, Nat.reduceSub, Nat.reducePow, Int.reducePow] at *; split <;> omega)

set_option maxHeartbeats 2000000 in
theorem ri_yes (B : Nat) (zs : List Int) (n : Nat) (w : World) (a : Option Addr) (cap : Nat) (hH : w.heap[B]? = some (.cells #[.bool true, .slice a zs.length cap, .bool false] 101 (0, 0))) (hsl : Sl .u8 w a zs.length cap zs) (hz : ∀ x ∈ zs, (Lit.int .u8 x).wf = true) (hn1 : 1 ≤ n) (hn8 : n ≤ 8) (hn : n ≤ zs.length) (hl : zs.length ≤ 1000000) :
    Calls Try.prog 67 #[.pointer (some ⟨B, 0, none⟩), .int .i64 (n : Int)] w fun e w' => e = .returned (.int .i64 (sgn n (numB (zs.take n) n))) ∧ ∃ a' cap', w' = w.setCell ⟨B, 1, none⟩ (.slice a' (zs.length - n) cap') ∧ Sl .u8 w a' (zs.length - n) cap' (zs.drop n) := by
  have k1 := fun w => sized4_any (n : Int) w
  have e1 : sizedS (n : Int) = true := decide_eq_true ⟨by omega, by omega⟩
  rw [e1] at k1
  have k2 := ru_yes B zs n w a cap hH hsl hz hn1 hn8 hn hl
  have hbd := (fun i => getD_bd (bytes_bd (zs := zs.take n) (fun x hx => hz x (List.mem_of_mem_take hx))) i)
  have hlt := numB_lt (zs.take n) (fun i => by have := hbd i; omega) n
  clear hbd
  have hs := sgn_sh n hn1 hn8 _ hlt
  generalize numB (zs.take n) n = N at *
  generalize hS : sgn n N = S at *
  clear hH hsl e1 hz hS
  obtain rfl | rfl | rfl | rfl | rfl | rfl | rfl | rfl : n = 1 ∨ n = 2 ∨ n = 3 ∨ n = 4 ∨ n = 5 ∨ n = 6 ∨ n = 7 ∨ n = 8 := by omega
  all_goals
    replace hs := hid hs
    go_enter Try.func67, Try.ntmps67
    go_wp2_with fail
    refine k2.mono ?_
    rintro e w2 ⟨rfl, a2, cap2, hV, hs2⟩
    replace hV := hid hV
    replace hs2 := hid hs2
    go_wp2_with fail
    refine (k1 _).mono ?_
    rintro e w3 ⟨rfl, rfl⟩
    go_wp2_with fail
    go_ret
    refine ⟨?_, a2, cap2, hV.out, hs2.out⟩
    have := hs.out
    rw [IntKind.wrap_i64, IntKind.wrap_u64] at this
    simp only [Nat.reduceMul, Nat.reduceSub, Int.reducePow, Int.mul_one, Int.ediv_one] at this
    refine congrArg (fun x => Ending.returned (.int .i64 x)) ?_
    try unfold wrap64
    omega

end Go.Proofs.Ytfihdgichmocmaa

/- Package octet: a reader and a writer, whatever they have. -/
namespace Go.Proofs.Ytfihdgichmocmaa
open Go.ChangeShapes Go.WideShapes Go.ChangeAt Go.RowKit Go.Shelf
set_option linter.unusedVariables false

def okR (zs : List Int) (bad : Bool) (n : Int) : Bool := !bad && decide (0 ≤ n ∧ n ≤ zs.length)
def okU (zs : List Int) (bad : Bool) (n : Int) : Bool := !bad && decide (1 ≤ n ∧ n ≤ 8 ∧ n ≤ zs.length)
def gotR (ok : Bool) (zs : List Int) (n : Int) : List Int := if ok then zs.drop n.toNat else []
theorem rdr_set {B B0 : Nat} {zs : List Int} {w : World} {a : Option Addr} {cap : Nat} (n : Nat) (h1 : B0 ≤ B) (hH : w.heap[B]? = some (.cells #[.bool true, .slice a zs.length cap, .bool false] 101 (0, 0))) {a' : Option Addr} {cap' : Nat} (hs : Sl .u8 w a' (zs.length - n) cap' (zs.drop n)) :
    Rdr B (w.setCell ⟨B, 1, none⟩ (.slice a' (zs.length - n) cap')) (zs.drop n) ∧ Br B B0 w (w.setCell ⟨B, 1, none⟩ (.slice a' (zs.length - n) cap')) := by
  have hd3 : (zs.drop n).length = zs.length - n := List.length_drop
  refine ⟨⟨a', cap', ?_, ?_⟩, ⟨(Below.refl B0 w).setCell (p := ⟨B, 1, none⟩) h1 _, rx_set _⟩⟩
  · rw [hd3]; exact held_set hH 1 _
  · rw [hd3]; exact sl_set hs (fun x h => by cases h) hH 1 _

theorem ru_st (B B0 : Nat) (zs : List Int) (bad : Bool) (n : Int) (w : World) (hR : RSt B w zs bad) (hz : ∀ x ∈ zs, (Lit.int .u8 x).wf = true) (hl : zs.length ≤ 1000000) (h1 : B0 ≤ B) :
    Calls Try.prog 69 #[.pointer (some ⟨B, 0, none⟩), .int .i64 n] w fun e w' => e = .returned (.int .u64 ((if okU zs bad n then numB (zs.take n.toNat) n.toNat else 0 : Nat) : Int)) ∧ RSt B w' (gotR (okU zs bad n) zs n) (!okU zs bad n) ∧ Br B B0 w w' := by
  cases bad
  case true =>
    exact (ru_failed B n w hR.1).mono fun e w' h => ⟨by rw [h.1]; rfl, by rw [h.2]; exact ⟨hR.1, rfl⟩, by rw [h.2]; exact Br.refl _ _ _⟩
  obtain ⟨a, cap, hH, hsl⟩ := hR
  by_cases c : 1 ≤ n ∧ n ≤ 8 ∧ n ≤ (zs.length : Int)
  · have e1 : okU zs false n = true := by simp [okU, c]
    obtain ⟨m, rfl⟩ : ∃ m : Nat, n = m := ⟨n.toNat, by omega⟩
    refine (ru_yes B zs m w a cap hH hsl hz (by omega) (by omega) (by omega) hl).mono ?_
    rintro e w' ⟨rfl, a', cap', rfl, hs⟩
    rw [e1]
    exact ⟨rfl, rdr_set m h1 hH hs⟩
  · have e1 : okU zs false n = false := by simp only [okU, Bool.not_false, Bool.true_and]; exact decide_eq_false c
    refine (ru_no B B0 a zs.length cap n (by omega) w h1 hH).mono ?_
    rintro e w' ⟨rfl, hF, hB⟩
    rw [e1]
    exact ⟨rfl, ⟨hF, rfl⟩, hB⟩
theorem ri_st (B B0 : Nat) (zs : List Int) (bad : Bool) (n : Int) (w : World) (hR : RSt B w zs bad) (hz : ∀ x ∈ zs, (Lit.int .u8 x).wf = true) (hl : zs.length ≤ 1000000) (h1 : B0 ≤ B) :
    Calls Try.prog 67 #[.pointer (some ⟨B, 0, none⟩), .int .i64 n] w fun e w' => e = .returned (.int .i64 (if okU zs bad n then sgn n.toNat (numB (zs.take n.toNat) n.toNat) else 0)) ∧ RSt B w' (gotR (okU zs bad n) zs n) (!okU zs bad n) ∧ Br B B0 w w' := by
  cases bad
  case true =>
    exact (ri_failed B n w hR.1).mono fun e w' h => ⟨by rw [h.1]; rfl, by rw [h.2]; exact ⟨hR.1, rfl⟩, by rw [h.2]; exact Br.refl _ _ _⟩
  obtain ⟨a, cap, hH, hsl⟩ := hR
  by_cases c : 1 ≤ n ∧ n ≤ 8 ∧ n ≤ (zs.length : Int)
  · have e1 : okU zs false n = true := by simp [okU, c]
    obtain ⟨m, rfl⟩ : ∃ m : Nat, n = m := ⟨n.toNat, by omega⟩
    refine (ri_yes B zs m w a cap hH hsl hz (by omega) (by omega) (by omega) hl).mono ?_
    rintro e w' ⟨rfl, a', cap', rfl, hs⟩
    rw [e1]
    exact ⟨rfl, rdr_set m h1 hH hs⟩
  · have e1 : okU zs false n = false := by simp only [okU, Bool.not_false, Bool.true_and]; exact decide_eq_false c
    refine (ri_no B B0 a zs.length cap n (by omega) w h1 hH).mono ?_
    rintro e w' ⟨rfl, hF, hB⟩
    rw [e1]
    exact ⟨rfl, ⟨hF, rfl⟩, hB⟩
theorem rfail_st (B : Nat) (zs : List Int) (bad : Bool) (w : World) (hR : RSt B w zs bad) : Calls Try.prog 77 #[.pointer (some ⟨B, 0, none⟩)] w fun e w' => e = .returned (.bool bad) ∧ w' = w := by
  cases bad
  · obtain ⟨a, cap, hH, hsl⟩ := hR
    exact rfail_good B _ w hH
  · exact rfail_failed B w hR.1

/-- What a writer has: these bytes, or it has failed. -/
def WSt (B base : Nat) (w : World) (zs : List Int) (bad : Bool) : Prop := B < w.heap.size ∧ base ≤ w.heap.size ∧ if bad then Failed 97 B w ∧ zs = [] else Wr B base w zs
theorem WSt.later {B base : Nat} {w w' : World} {zs : List Int} {bad : Bool} (h : WSt B base w zs bad) (hA : After w w') : WSt B base w' zs bad := by
  obtain ⟨hs, hb, h⟩ := h
  refine ⟨Nat.lt_of_lt_of_le hs hA.size, Nat.le_trans hb hA.size, ?_⟩
  cases bad
  · obtain ⟨a, cap, h1, h2⟩ := h
    exact ⟨a, cap, held_after hA h1, h2.below hA⟩
  · exact ⟨Failed.later h.1 hA, h.2⟩
def gotW (ok : Bool) (zs ys : List Int) : List Int := if ok then zs ++ ys else []
theorem wst_of {B base B0 : Nat} {w w' : World} {zs ys : List Int} {ok : Bool} (hs : B < w.heap.size) (hb : base ≤ w.heap.size) (h : WAft B base w' (zs ++ ys) ok) (hB : Bw B B0 w w') : WSt B base w' (gotW ok zs ys) (!ok) := by
  refine ⟨Nat.lt_of_lt_of_le hs hB.1.size, Nat.le_trans hb hB.1.size, ?_⟩
  cases ok
  · exact ⟨h, rfl⟩
  · exact h
theorem wu_st (B base B0 : Nat) (zs : List Int) (bad : Bool) (n u : Int) (hu0 : 0 ≤ u) (hu1 : u ≤ 18446744073709551615) (w : World) (hW : WSt B base w zs bad) (hl : zs.length ≤ 1000000) (h1 : B0 ≤ B) (h2 : B0 ≤ base) :
    Calls Try.prog 68 #[.pointer (some ⟨B, 0, none⟩), .int .i64 n, .int .u64 u] w fun e w' => e = .returned (.tuple #[]) ∧ WSt B base w' (gotW (!bad && fitU n u) zs (bytesL u n.toNat)) (!(!bad && fitU n u)) ∧ Bw B B0 w w' := by
  have hs := hW.1
  have hb := hW.2.1
  cases bad
  · exact (wu_any B base B0 zs n u hu0 hu1 w hW.2.2 hl h1 h2 hb).mono fun e w' h => ⟨h.1, wst_of hs hb h.2.1 h.2.2, h.2.2⟩
  · refine (wu_failed B n u w hu0 hu1 hW.2.2.1).mono fun e w' h => ⟨h.1, ?_, h.2.mono (by omega), Owp.after hs h.2⟩
    exact WSt.later (zs := []) (bad := true) ⟨hs, hb, hW.2.2.1, rfl⟩ h.2
theorem wi_st (B base B0 : Nat) (zs : List Int) (bad : Bool) (n i : Int) (hi0 : -9223372036854775808 ≤ i) (hi1 : i ≤ 9223372036854775807) (w : World) (hW : WSt B base w zs bad) (hl : zs.length ≤ 1000000) (h1 : B0 ≤ B) (h2 : B0 ≤ base) :
    Calls Try.prog 66 #[.pointer (some ⟨B, 0, none⟩), .int .i64 n, .int .i64 i] w fun e w' => e = .returned (.tuple #[]) ∧ WSt B base w' (gotW (!bad && fitI n i) zs (bytesL (wrapU i) n.toNat)) (!(!bad && fitI n i)) ∧ Bw B B0 w w' := by
  have hs := hW.1
  have hb := hW.2.1
  cases bad
  · exact (wi_any B base B0 zs n i hi0 hi1 w hW.2.2 hl h1 h2 hb).mono fun e w' h => ⟨h.1, wst_of hs hb h.2.1 h.2.2, h.2.2⟩
  · refine (wi_failed B n i w hi0 hi1 hW.2.2.1).mono fun e w' h => ⟨h.1, ?_, h.2.mono (by omega), Owp.after hs h.2⟩
    exact WSt.later (zs := []) (bad := true) ⟨hs, hb, hW.2.2.1, rfl⟩ h.2
theorem wbytes_st (B base : Nat) (zs : List Int) (bad : Bool) (w : World) (hl : zs.length ≤ 1000000) (hW : WSt B base w zs bad) : Calls Try.prog 41 #[.pointer (some ⟨B, 0, none⟩)] w (BytesOk w zs) := by
  cases bad
  · exact wbytes_good B base zs w hl hW.2.2
  · obtain ⟨_, _, hF, rfl⟩ := hW
    refine (wbytes_failed B w hF).mono fun e w' h => ⟨none, 0, h.1, ?_, by rw [h.2]; exact Below.refl _ _⟩
    exact Own.nil _ _ _ _
theorem wfail_st (B base : Nat) (zs : List Int) (bad : Bool) (w : World) (hW : WSt B base w zs bad) : Calls Try.prog 60 #[.pointer (some ⟨B, 0, none⟩)] w fun e w' => e = .returned (.bool bad) ∧ w' = w := by
  cases bad
  · obtain ⟨_, _, a, cap, hH, hO⟩ := hW
    exact wfail_good B _ w hH
  · exact wfail_failed B w hW.2.2.1

end Go.Proofs.Ytfihdgichmocmaa
