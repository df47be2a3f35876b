/- The reference of package octet: Number, Signed, Raw, U, I. -/
import Derived.Test.YtekilpmmadhpoaaOctet21
import Derived.Test.YtekilpmmadhpoaaRegionK
namespace Go.Proofs.Ytekilpmmadhpoaa
open Go.ChangeShapes Go.WideShapes Go.ChangeAt Go.RowKit Go.Shelf
set_option linter.unusedVariables false

def numR : List Int → Nat
  | [] => 0
  | c :: r => c.toNat + 256 * numR r
theorem dropc (l : List Int) (k : Nat) (h : k < l.length) : l.drop k = l.getD k 0 :: l.drop (k + 1) := by
  rw [List.drop_eq_getElem_cons h]; simp [h]
theorem numR_next (zs : List Int) (k : Nat) (h : k < zs.length) : numR (zs.drop k) = (zs.getD k 0).toNat + 256 * numR (zs.drop (k + 1)) := by
  rw [dropc zs k h]; rfl
theorem numB_numR (zs : List Int) : ∀ k, k ≤ zs.length → numB zs k + 256 ^ k * numR (zs.drop k) = numR zs
  | 0, _ => by simp [numB]
  | k + 1, h => by
    have h1 := numB_numR zs k (by omega)
    rw [numR_next zs k (by omega)] at h1
    rw [← h1]
    have e : numB zs (k + 1) = numB zs k + (zs.getD k 0).toNat * 256 ^ k := rfl
    rw [e, Nat.pow_succ]
    generalize 256 ^ k = p
    generalize numR (zs.drop (k + 1)) = R
    generalize (zs.getD k 0).toNat = c
    grind
theorem numR_all (zs : List Int) : numR zs = numB zs zs.length := by
  have h := numB_numR zs zs.length (Nat.le_refl _)
  rw [List.drop_length] at h
  simpa [numR] using h.symm
theorem numR_lt : ∀ zs : List Int, (∀ x ∈ zs, 0 ≤ x ∧ x ≤ 255) → numR zs < 256 ^ zs.length
  | [], _ => by simp [numR]
  | c :: r, h => by
    have h1 := numR_lt r (fun x hx => h x (List.mem_cons_of_mem _ hx))
    have h2 := h c (List.mem_cons_self ..)
    unfold numR
    rw [List.length_cons, Nat.pow_succ]
    omega

set_option maxHeartbeats 1000000 in
theorem rnumber_any (a : Option Addr) (len cap : Nat) (zs : List Int) (w : World) (hsl : Sl .u8 w a len cap zs) (hz : ∀ x ∈ zs, 0 ≤ x ∧ x ≤ 255) (h8 : len ≤ 8) :
    Calls Try.prog 41 #[.slice a len cap] w fun e w' => e = .returned (.int .u64 ((numR zs : Nat) : Int)) ∧ w' = w := by
  obtain ⟨hl, hlc, hcm, hnone, hrd⟩ := hsl
  have hcap : (cap : Int) ≤ 9223372036854775807 := by unfold maxLen at hcm; omega
  have hwl : IntKind.i64.wrap ((len : Int) - 1) = (len : Int) - 1 := by rw [IntKind.wrap_i64]; omega
  replace hrd := hid hrd
  replace hz := hid hz
  go_enter Try.func41, Try.ntmps41
  go_wp2_with omega
  go_loopw [3, 4] (fun u i wr => ∃ (k : Nat) (x : Int), k ≤ len ∧ i = .int .i64 x ∧ x = (k : Int) - 1 ∧ u = .int .u64 ((numR (zs.drop k) : Nat) : Int) ∧ wr = w) (fun _ i _ => (intOf i + 1).toNat)
  case atStart => exact ⟨len, (len : Int) - 1, Nat.le_refl _, rfl, rfl, by rw [← hl, List.drop_length]; rfl, rfl⟩
  case round =>
    obtain ⟨k, x, hk, rfl, hx, rfl, rfl⟩ := hrel
    cases k with
    | zero =>
      have hx2 : x < 0 := by omega
      clear hx
      go_wp2_with omega
      go_ret
      exact ⟨by rw [List.drop_zero]; rfl, rfl⟩
    | succ j =>
      obtain rfl : x = (j : Int) := by omega
      clear hx
      obtain ⟨bb, off, rfl, hc⟩ := hrd.out j (by omega)
      have hN := hid (numR_next zs j (by omega))
      have hlt := numR_lt (zs.drop j) (fun y hy => hz.out y (List.mem_of_mem_drop hy))
      have hcb := getD_bd hz.out j
      have hp : 256 ^ (zs.drop j).length ≤ 18446744073709551616 := by
        rw [show (18446744073709551616 : Nat) = 256 ^ 8 by decide]
        exact Nat.pow_le_pow_right (by decide) (by rw [List.length_drop]; omega)
      rw [hN.out] at hlt
      generalize 256 ^ (zs.drop j).length = pw at *
      generalize numR (zs.drop (j + 1)) = m at *
      generalize zs.getD j 0 = c at *
      obtain ⟨d, rfl⟩ : ∃ d : Nat, c = d := ⟨c.toNat, by omega⟩
      rw [Int.toNat_natCast] at hN hlt
      have hN2 := hid (show ((numR (zs.drop j) : Nat) : Int) = (m : Int) * 256 + d by rw [hN.out]; omega)
      have hw1 : IntKind.u64.wrap ((m : Int) * 256) = (m : Int) * 256 := by rw [wrapU_is]; unfold wrapU; omega
      have hw2 : IntKind.u64.wrap (d : Int) = (d : Int) := by rw [wrapU_is]; unfold wrapU; omega
      have hw3 : IntKind.u64.wrap ((m : Int) * 256 + d) = (m : Int) * 256 + d := by rw [wrapU_is]; unfold wrapU; omega
      have hw4 : IntKind.i64.wrap ((j : Int) - 1) = (j : Int) - 1 := by rw [IntKind.wrap_i64]; omega
      have hj2 : (j : Int) < len := by omega
      go_wp2_with omega
      go_roundw
      case rel => exact ⟨j, _, by omega, rfl, rfl, by rw [hN2.out], trivial⟩
      case measure => simp only [intOf]; omega

theorem sgn_half (n : Nat) (h1 : 1 ≤ n) (u : Nat) : sgn n u = if (u : Int) < hf n then (u : Int) else (u : Int) - 2 * hf n := by
  have e1 : (256 : Int) ^ n = 2 * hf n := (hf_two n h1).symm
  have e2 : hf n = ((128 * 256 ^ (n - 1) : Nat) : Int) := by unfold hf; simp
  unfold sgn
  rw [e1]
  by_cases c : u < 128 * 256 ^ (n - 1)
  · rw [if_pos c, if_pos (by rw [e2]; omega)]
  · rw [if_neg c, if_neg (by rw [e2]; omega)]
set_option maxHeartbeats 1000000 in
theorem rsigned_any (n : Nat) (h1 : 1 ≤ n) (h8 : n ≤ 8) (u : Nat) (hu : u < 256 ^ n) (w : World) : Calls Try.prog 42 #[.int .i64 (n : Int), .int .u64 (u : Int)] w fun e w' => e = .returned (.int .i64 (sgn n u)) ∧ w' = w := by
  have kh := half_any n h1 h8 w
  have hb := hf_le n h8
  have h2 := hf_two n h1
  have hs := hid (sgn_half n h1 u)
  have hp : 0 < hf n := by have : (0 : Int) < 256 ^ n := Int.pow_pos (by decide); omega
  have hu2 : (u : Int) < 2 * hf n := by rw [h2, show (256 : Int) ^ n = ((256 ^ n : Nat) : Int) by simp]; omega
  clear h2 hu
  generalize hf n = p at *
  by_cases c : (u : Int) < p
  · have e := hid (show sgn n u = u by rw [hs.out, if_pos c])
    have hw1 : IntKind.i64.wrap (u : Int) = u := by rw [IntKind.wrap_i64]; omega
    go_enter Try.func42, Try.ntmps42
    go_wp2_with fail
    refine kh.mono ?_
    rintro e w2 ⟨rfl, rfl⟩
    go_wp2_with fail
    go_ret
    exact ⟨by rw [e.out]; rfl, rfl⟩
  · have e := hid (show sgn n u = u - p - (p - 1) - 1 by rw [hs.out, if_neg c]; omega)
    have hw1 : IntKind.u64.wrap ((u : Int) - p) = (u : Int) - p := by rw [wrapU_is]; unfold wrapU; omega
    have hw2 : IntKind.i64.wrap ((u : Int) - p) = (u : Int) - p := by rw [IntKind.wrap_i64]; omega
    have hw3 : IntKind.u64.wrap (p - 1) = p - 1 := by rw [wrapU_is]; unfold wrapU; omega
    have hw4 : IntKind.i64.wrap (p - 1) = p - 1 := by rw [IntKind.wrap_i64]; omega
    have hw5 : IntKind.i64.wrap ((u : Int) - p - (p - 1)) = (u : Int) - p - (p - 1) := by rw [IntKind.wrap_i64]; omega
    have hw6 : IntKind.i64.wrap ((u : Int) - p - (p - 1) - 1) = (u : Int) - p - (p - 1) - 1 := by rw [IntKind.wrap_i64]; omega
    have c2 : p ≤ (u : Int) := by omega
    go_enter Try.func42, Try.ntmps42
    go_wp2_with fail
    refine kh.mono ?_
    rintro e w2 ⟨rfl, rfl⟩
    go_wp2_with fail
    go_ret
    exact ⟨by rw [e.out]; rfl, rfl⟩

end Go.Proofs.Ytekilpmmadhpoaa
