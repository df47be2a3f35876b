/- Several texts in one: Octet13, Octet14, Octet15, Octet16. -/
import Derived.Test.YtkpncailoekjpaaKO3
import Derived.Laws.BitsAllLaws
import Derived.Laws.ShiftsVarLaws

/- Package octet: a reader's U. -/
namespace Go.Proofs.Ytkpncailoekjpaa
open Go.ChangeShapes Go.WideShapes Go.ChangeAt Go.RowKit Go.Shelf
set_option linter.unusedVariables false
def numB (ys : List Int) : Nat → Nat
  | 0 => 0
  | k + 1 => numB ys k + (ys.getD k 0).toNat * 256 ^ k
theorem getD_bd {ys : List Int} (h : ∀ x ∈ ys, 0 ≤ x ∧ x ≤ 255) (i : Nat) : 0 ≤ ys.getD i 0 ∧ ys.getD i 0 ≤ 255 := by
  rcases Nat.lt_or_ge i ys.length with k | k
  · have e : ys.getD i 0 = ys[i] := by simp [k]
    rw [e]; exact h _ (List.getElem_mem k)
  · have e : ys.getD i 0 = 0 := by simp [k]
    rw [e]; omega
theorem numB_lt (ys : List Int) (h : ∀ i, (ys.getD i 0).toNat ≤ 255) : ∀ k, numB ys k < 256 ^ k
  | 0 => by simp [numB]
  | k + 1 => by
    have h1 := numB_lt ys h k
    have h2 := h k
    have h3 := Nat.mul_le_mul_right (256 ^ k) h2
    unfold numB
    rw [Nat.pow_succ]
    omega
theorem or_byte0 (N c : Nat) (hN : N < 1) (hc : c < 256) : bits .or .u64 (N : Int) (c : Int) = ((N + c * 1 : Nat) : Int) := by
  have e : (c : Int) = ((c * 1 : Nat) : Int) := by simp
  rw [e, u64_or_nat N (c * 1) (by omega) (by omega), Nat.or_comm, nat_join 0 (c * 1) N (by show c * 1 % 1 = 0; omega) (by show N < 1; omega), Nat.add_comm]
theorem or_byte1 (N c : Nat) (hN : N < 256) (hc : c < 256) : bits .or .u64 (N : Int) ((c : Int) * 256) = ((N + c * 256 : Nat) : Int) := by
  have e : ((c : Int) * 256) = ((c * 256 : Nat) : Int) := by simp
  rw [e, u64_or_nat N (c * 256) (by omega) (by omega), Nat.or_comm, nat_join 8 (c * 256) N (by show c * 256 % 256 = 0; omega) (by show N < 256; omega), Nat.add_comm]
theorem or_byte2 (N c : Nat) (hN : N < 65536) (hc : c < 256) : bits .or .u64 (N : Int) ((c : Int) * 65536) = ((N + c * 65536 : Nat) : Int) := by
  have e : ((c : Int) * 65536) = ((c * 65536 : Nat) : Int) := by simp
  rw [e, u64_or_nat N (c * 65536) (by omega) (by omega), Nat.or_comm, nat_join 16 (c * 65536) N (by show c * 65536 % 65536 = 0; omega) (by show N < 65536; omega), Nat.add_comm]
theorem or_byte3 (N c : Nat) (hN : N < 16777216) (hc : c < 256) : bits .or .u64 (N : Int) ((c : Int) * 16777216) = ((N + c * 16777216 : Nat) : Int) := by
  have e : ((c : Int) * 16777216) = ((c * 16777216 : Nat) : Int) := by simp
  rw [e, u64_or_nat N (c * 16777216) (by omega) (by omega), Nat.or_comm, nat_join 24 (c * 16777216) N (by show c * 16777216 % 16777216 = 0; omega) (by show N < 16777216; omega), Nat.add_comm]
theorem or_byte4 (N c : Nat) (hN : N < 4294967296) (hc : c < 256) : bits .or .u64 (N : Int) ((c : Int) * 4294967296) = ((N + c * 4294967296 : Nat) : Int) := by
  have e : ((c : Int) * 4294967296) = ((c * 4294967296 : Nat) : Int) := by simp
  rw [e, u64_or_nat N (c * 4294967296) (by omega) (by omega), Nat.or_comm, nat_join 32 (c * 4294967296) N (by show c * 4294967296 % 4294967296 = 0; omega) (by show N < 4294967296; omega), Nat.add_comm]
theorem or_byte5 (N c : Nat) (hN : N < 1099511627776) (hc : c < 256) : bits .or .u64 (N : Int) ((c : Int) * 1099511627776) = ((N + c * 1099511627776 : Nat) : Int) := by
  have e : ((c : Int) * 1099511627776) = ((c * 1099511627776 : Nat) : Int) := by simp
  rw [e, u64_or_nat N (c * 1099511627776) (by omega) (by omega), Nat.or_comm, nat_join 40 (c * 1099511627776) N (by show c * 1099511627776 % 1099511627776 = 0; omega) (by show N < 1099511627776; omega), Nat.add_comm]
theorem or_byte6 (N c : Nat) (hN : N < 281474976710656) (hc : c < 256) : bits .or .u64 (N : Int) ((c : Int) * 281474976710656) = ((N + c * 281474976710656 : Nat) : Int) := by
  have e : ((c : Int) * 281474976710656) = ((c * 281474976710656 : Nat) : Int) := by simp
  rw [e, u64_or_nat N (c * 281474976710656) (by omega) (by omega), Nat.or_comm, nat_join 48 (c * 281474976710656) N (by show c * 281474976710656 % 281474976710656 = 0; omega) (by show N < 281474976710656; omega), Nat.add_comm]
theorem or_byte7 (N c : Nat) (hN : N < 72057594037927936) (hc : c < 256) : bits .or .u64 (N : Int) ((c : Int) * 72057594037927936) = ((N + c * 72057594037927936 : Nat) : Int) := by
  have e : ((c : Int) * 72057594037927936) = ((c * 72057594037927936 : Nat) : Int) := by simp
  rw [e, u64_or_nat N (c * 72057594037927936) (by omega) (by omega), Nat.or_comm, nat_join 56 (c * 72057594037927936) N (by show c * 72057594037927936 % 72057594037927936 = 0; omega) (by show N < 72057594037927936; omega), Nat.add_comm]
end Go.Proofs.Ytkpncailoekjpaa

/- Package octet: what has failed: numbers. -/
namespace Go.Proofs.Ytkpncailoekjpaa
open Go.ChangeShapes Go.WideShapes Go.ChangeAt Go.RowKit Go.Shelf
set_option linter.unusedVariables false

set_option maxHeartbeats 1000000 in
theorem wu_failed (B : Nat) (n u : Int) (w : World) (h0 : 0 ≤ u) (h1 : u ≤ 18446744073709551615) (h : Failed 102 B w) : Calls Try.prog 43 #[.pointer (some ⟨B, 0, none⟩), .int .i64 n, .int .u64 u] w fun e w' => e = .returned (.tuple #[]) ∧ After w w' := by
  have k1 := sized4_any n w
  have k2 := fun b => put_failed B n u b w h
  by_cases c : sizedS n = true
  · rw [c] at k1
    obtain ⟨c1, c2⟩ := of_decide_eq_true c
    clear c
    obtain rfl | rfl | rfl | rfl | rfl | rfl | rfl | rfl : n = 1 ∨ n = 2 ∨ n = 3 ∨ n = 4 ∨ n = 5 ∨ n = 6 ∨ n = 7 ∨ n = 8 := by omega
    all_goals
      go_enter Try.func43, Try.ntmps43
      go_wp2_with fail
      refine k1.mono ?_
      rintro e w2 ⟨rfl, rfl⟩
      go_wp2_with fail
      refine (k2 _).mono ?_
      rintro e w2 ⟨rfl, hA⟩
      go_wp2_with fail
      go_end0
      exact ⟨rfl, hA⟩
  · have c2 := Bool.not_eq_true _ ▸ c
    rw [c2] at k1
    clear c c2
    go_enter Try.func43, Try.ntmps43
    go_wp2_with fail
    refine k1.mono ?_
    rintro e w2 ⟨rfl, rfl⟩
    go_wp2_with fail
    refine (k2 _).mono ?_
    rintro e w2 ⟨rfl, hA⟩
    go_wp2_with fail
    go_end0
    exact ⟨rfl, hA⟩

set_option maxHeartbeats 1000000 in
theorem wi_failed (B : Nat) (n i : Int) (w : World) (h0 : -9223372036854775808 ≤ i) (h1 : i ≤ 9223372036854775807) (h : Failed 102 B w) : Calls Try.prog 49 #[.pointer (some ⟨B, 0, none⟩), .int .i64 n, .int .i64 i] w fun e w' => e = .returned (.tuple #[]) ∧ After w w' := by
  have k1 := sized4_any n w
  have k2 := fun u b => put_failed B n u b w h
  by_cases c : sizedS n = true
  · rw [c] at k1
    obtain ⟨c1, c2⟩ := of_decide_eq_true c
    clear c
    obtain rfl | rfl | rfl | rfl | rfl | rfl | rfl | rfl : n = 1 ∨ n = 2 ∨ n = 3 ∨ n = 4 ∨ n = 5 ∨ n = 6 ∨ n = 7 ∨ n = 8 := by omega
    all_goals
      go_enter Try.func49, Try.ntmps49
      go_wp2_with fail
      refine k1.mono ?_
      rintro e w2 ⟨rfl, rfl⟩
      go_wp2_with fail
      all_goals
        refine (k2 _ _).mono ?_
        rintro e w2 ⟨rfl, hA⟩
        go_wp2_with fail
        go_end0
        exact ⟨rfl, hA⟩
  · have c2 := Bool.not_eq_true _ ▸ c
    rw [c2] at k1
    clear c c2
    go_enter Try.func49, Try.ntmps49
    go_wp2_with fail
    refine k1.mono ?_
    rintro e w2 ⟨rfl, rfl⟩
    go_wp2_with fail
    refine (k2 _ _).mono ?_
    rintro e w2 ⟨rfl, hA⟩
    go_wp2_with fail
    go_end0
    exact ⟨rfl, hA⟩


end Go.Proofs.Ytkpncailoekjpaa

/- Package octet: numbers of a reader, whatever it has. -/
namespace Go.Proofs.Ytkpncailoekjpaa
open Go.ChangeShapes Go.WideShapes Go.ChangeAt Go.RowKit Go.Shelf
set_option linter.unusedVariables false

/-- A number of n bytes, with a sign. -/
def sgn (n : Nat) (u : Nat) : Int := if u < 128 * 256 ^ (n - 1) then (u : Int) else (u : Int) - 256 ^ n
theorem sgn_sh (n : Nat) (h1 : 1 ≤ n) (h8 : n ≤ 8) (u : Nat) (hu : u < 256 ^ n) : (IntKind.i64.wrap (IntKind.u64.wrap ((u : Int) * 2 ^ (64 - 8 * n)))) / 2 ^ (64 - 8 * n) = sgn n u := by
  rw [IntKind.wrap_i64, IntKind.wrap_u64]
  unfold sgn
  obtain rfl | rfl | rfl | rfl | rfl | rfl | rfl | rfl : n = 1 ∨ n = 2 ∨ n = 3 ∨ n = 4 ∨ n = 5 ∨ n = 6 ∨ n = 7 ∨ n = 8 := by omega
  all_goals (simp only [Nat.reduceMul, Nat.reduceSub, Nat.reducePow, Int.reducePow] at *; split <;> omega)

end Go.Proofs.Ytkpncailoekjpaa

/- Package octet: a reader and a writer, whatever they have. -/
namespace Go.Proofs.Ytkpncailoekjpaa
open Go.ChangeShapes Go.WideShapes Go.ChangeAt Go.RowKit Go.Shelf
set_option linter.unusedVariables false

def okR (zs : List Int) (bad : Bool) (n : Int) : Bool := !bad && decide (0 ≤ n ∧ n ≤ zs.length)
def okU (zs : List Int) (bad : Bool) (n : Int) : Bool := !bad && decide (1 ≤ n ∧ n ≤ 8 ∧ n ≤ zs.length)
def gotR (ok : Bool) (zs : List Int) (n : Int) : List Int := if ok then zs.drop n.toNat else []
/-- What a writer has: these bytes, or it has failed. -/
def WSt (B base : Nat) (w : World) (zs : List Int) (bad : Bool) : Prop := B < w.heap.size ∧ base ≤ w.heap.size ∧ if bad then Failed 102 B w ∧ zs = [] else Wr B base w zs
theorem WSt.later {B base : Nat} {w w' : World} {zs : List Int} {bad : Bool} (h : WSt B base w zs bad) (hA : After w w') : WSt B base w' zs bad := by
  obtain ⟨hs, hb, h⟩ := h
  refine ⟨Nat.lt_of_lt_of_le hs hA.size, Nat.le_trans hb hA.size, ?_⟩
  cases bad
  · obtain ⟨a, cap, h1, h2⟩ := h
    exact ⟨a, cap, held_after hA h1, h2.below hA⟩
  · exact ⟨Failed.later h.1 hA, h.2⟩
def gotW (ok : Bool) (zs ys : List Int) : List Int := if ok then zs ++ ys else []
theorem wst_of {B base B0 : Nat} {w w' : World} {zs ys : List Int} {ok : Bool} (hs : B < w.heap.size) (hb : base ≤ w.heap.size) (h : WAft B base w' (zs ++ ys) ok) (hB : Bw B B0 w w') : WSt B base w' (gotW ok zs ys) (!ok) := by
  refine ⟨Nat.lt_of_lt_of_le hs hB.1.size, Nat.le_trans hb hB.1.size, ?_⟩
  cases ok
  · exact ⟨h, rfl⟩
  · exact h
theorem wu_st (B base B0 : Nat) (zs : List Int) (bad : Bool) (n u : Int) (hu0 : 0 ≤ u) (hu1 : u ≤ 18446744073709551615) (w : World) (hW : WSt B base w zs bad) (hl : zs.length ≤ 1000000) (h1 : B0 ≤ B) (h2 : B0 ≤ base) :
    Calls Try.prog 43 #[.pointer (some ⟨B, 0, none⟩), .int .i64 n, .int .u64 u] w fun e w' => e = .returned (.tuple #[]) ∧ WSt B base w' (gotW (!bad && fitU n u) zs (bytesL u n.toNat)) (!(!bad && fitU n u)) ∧ Bw B B0 w w' := by
  have hs := hW.1
  have hb := hW.2.1
  cases bad
  · exact (wu_any B base B0 zs n u hu0 hu1 w hW.2.2 hl h1 h2 hb).mono fun e w' h => ⟨h.1, wst_of hs hb h.2.1 h.2.2, h.2.2⟩
  · refine (wu_failed B n u w hu0 hu1 hW.2.2.1).mono fun e w' h => ⟨h.1, ?_, h.2.mono (by omega), Owp.after hs h.2⟩
    exact WSt.later (zs := []) (bad := true) ⟨hs, hb, hW.2.2.1, rfl⟩ h.2
theorem wi_st (B base B0 : Nat) (zs : List Int) (bad : Bool) (n i : Int) (hi0 : -9223372036854775808 ≤ i) (hi1 : i ≤ 9223372036854775807) (w : World) (hW : WSt B base w zs bad) (hl : zs.length ≤ 1000000) (h1 : B0 ≤ B) (h2 : B0 ≤ base) :
    Calls Try.prog 49 #[.pointer (some ⟨B, 0, none⟩), .int .i64 n, .int .i64 i] w fun e w' => e = .returned (.tuple #[]) ∧ WSt B base w' (gotW (!bad && fitI n i) zs (bytesL (wrapU i) n.toNat)) (!(!bad && fitI n i)) ∧ Bw B B0 w w' := by
  have hs := hW.1
  have hb := hW.2.1
  cases bad
  · exact (wi_any B base B0 zs n i hi0 hi1 w hW.2.2 hl h1 h2 hb).mono fun e w' h => ⟨h.1, wst_of hs hb h.2.1 h.2.2, h.2.2⟩
  · refine (wi_failed B n i w hi0 hi1 hW.2.2.1).mono fun e w' h => ⟨h.1, ?_, h.2.mono (by omega), Owp.after hs h.2⟩
    exact WSt.later (zs := []) (bad := true) ⟨hs, hb, hW.2.2.1, rfl⟩ h.2
theorem wraw_st (B base B0 : Nat) (zs ys : List Int) (bad : Bool) (ad : Option Addr) (len cap : Nat) (w : World) (hW : WSt B base w zs bad) (hl : zs.length ≤ 1000000) (hsl : Sl .u8 w ad len cap ys) (hll : len ≤ 1000000) (h1 : B0 ≤ B) (h2 : B0 ≤ base) :
    Calls Try.prog 44 #[.pointer (some ⟨B, 0, none⟩), .slice ad len cap] w fun e w' => e = .returned (.tuple #[]) ∧ WSt B base w' (gotW (!bad) zs ys) bad ∧ Bw B B0 w w' := by
  have hs := hW.1
  have hb := hW.2.1
  cases bad
  · refine (wraw_good B base B0 zs ys ad len cap w hW.2.2 hl hsl hll h1 h2 hb).mono fun e w' h => ⟨h.1, ?_, h.2.2⟩
    exact ⟨Nat.lt_of_lt_of_le hs h.2.2.1.size, Nat.le_trans hb h.2.2.1.size, h.2.1⟩
  · refine (wraw_failed B _ w hW.2.2.1).mono fun e w' h => ⟨h.1, ?_, by rw [h.2]; exact ⟨Below.refl _ _, Owp.refl _ _ _⟩⟩
    rw [h.2]; exact ⟨hs, hb, hW.2.2.1, rfl⟩
theorem wbytes_st (B base : Nat) (zs : List Int) (bad : Bool) (w : World) (hl : zs.length ≤ 1000000) (hW : WSt B base w zs bad) : Calls Try.prog 46 #[.pointer (some ⟨B, 0, none⟩)] w (BytesOk w zs) := by
  cases bad
  · exact wbytes_good B base zs w hl hW.2.2
  · obtain ⟨_, _, hF, rfl⟩ := hW
    refine (wbytes_failed B w hF).mono fun e w' h => ⟨none, 0, h.1, ?_, by rw [h.2]; exact Below.refl _ _⟩
    exact Own.nil _ _ _ _
theorem wfail_st (B base : Nat) (zs : List Int) (bad : Bool) (w : World) (hW : WSt B base w zs bad) : Calls Try.prog 56 #[.pointer (some ⟨B, 0, none⟩)] w fun e w' => e = .returned (.bool bad) ∧ w' = w := by
  cases bad
  · obtain ⟨_, _, a, cap, hH, hO⟩ := hW
    exact wfail_good B _ w hH
  · exact wfail_failed B w hW.2.2.1

end Go.Proofs.Ytkpncailoekjpaa
