/- Package octet: numbers of a reader, whatever it has. -/
import Derived.Test.YtekilpmmadhpoaaOctet14
namespace Go.Proofs.Ytekilpmmadhpoaa
open Go.ChangeShapes Go.WideShapes Go.ChangeAt Go.RowKit Go.Shelf
set_option linter.unusedVariables false

/-- What a reader has: these bytes, or it has failed. -/
def RSt (B : Nat) (w : World) (zs : List Int) (bad : Bool) : Prop := if bad then Failed 73 B w ∧ zs = [] else Rdr B w zs
theorem RSt.later {B : Nat} {w w' : World} {zs : List Int} {bad : Bool} (h : RSt B w zs bad) (hA : After w w') : RSt B w' zs bad := by
  cases bad
  · obtain ⟨a, cap, h1, h2⟩ := h
    exact ⟨a, cap, held_after hA h1, h2.below hA⟩
  · exact ⟨Failed.later h.1 hA, h.2⟩

theorem ru_no (B B0 : Nat) (a : Option Addr) (len cap : Nat) (n : Int) (hn : n < 1 ∨ 8 < n ∨ (len : Int) < n) (w : World) (h1 : B0 ≤ B) (hH : w.heap[B]? = some (.cells #[.bool true, .slice a len cap, .bool false] 73 (0, 0))) :
    Calls Try.prog 46 #[.pointer (some ⟨B, 0, none⟩), .int .i64 n] w fun e w' => e = .returned (.int .u64 0) ∧ Failed 73 B w' ∧ Br B B0 w w' := by
  have k1 := sized4_any n w
  have k2 := next_no B B0 a len cap n (sizedS n) (by
    by_cases c : 1 ≤ n ∧ n ≤ 8
    · right; omega
    · left; exact decide_eq_false c) w h1 hH
  clear hn hH
  go_enter Try.func46, Try.ntmps46
  go_wp2_with fail
  refine k1.mono ?_
  rintro e w2 ⟨rfl, rfl⟩
  go_wp2_with fail
  refine k2.mono ?_
  rintro e w3 ⟨rfl, hF, hB⟩
  replace hF := hid hF
  replace hB := hid hB
  go_wp2_with fail
  refine wp_loop_rounds 1 ?_
  rw [rounds_succ]
  go_wp2_with fail
  go_ret
  exact ⟨rfl, hF.out, hB.out⟩

theorem ri_no (B B0 : Nat) (a : Option Addr) (len cap : Nat) (n : Int) (hn : n < 1 ∨ 8 < n ∨ (len : Int) < n) (w : World) (h1 : B0 ≤ B) (hH : w.heap[B]? = some (.cells #[.bool true, .slice a len cap, .bool false] 73 (0, 0))) :
    Calls Try.prog 44 #[.pointer (some ⟨B, 0, none⟩), .int .i64 n] w fun e w' => e = .returned (.int .i64 0) ∧ Failed 73 B w' ∧ Br B B0 w w' := by
  have k1 := fun w => sized4_any n w
  have k2 := ru_no B B0 a len cap n hn w h1 hH
  clear hH hn
  by_cases c : sizedS n = true
  · rw [c] at k1
    obtain ⟨c1, c2⟩ := of_decide_eq_true c
    clear c
    obtain rfl | rfl | rfl | rfl | rfl | rfl | rfl | rfl : n = 1 ∨ n = 2 ∨ n = 3 ∨ n = 4 ∨ n = 5 ∨ n = 6 ∨ n = 7 ∨ n = 8 := by omega
    all_goals
      go_enter Try.func44, Try.ntmps44
      go_wp2_with fail
      refine k2.mono ?_
      rintro e w2 ⟨rfl, hF, hB⟩
      replace hF := hid hF
      replace hB := hid hB
      go_wp2_with fail
      refine (k1 _).mono ?_
      rintro e w3 ⟨rfl, rfl⟩
      go_wp2_with fail
      go_ret
      exact ⟨rfl, hF.out, hB.out⟩
  · have c2 := Bool.not_eq_true _ ▸ c
    rw [c2] at k1
    clear c c2
    go_enter Try.func44, Try.ntmps44
    go_wp2_with fail
    refine k2.mono ?_
    rintro e w2 ⟨rfl, hF, hB⟩
    replace hF := hid hF
    replace hB := hid hB
    go_wp2_with fail
    refine (k1 _).mono ?_
    rintro e w3 ⟨rfl, rfl⟩
    go_wp2_with fail
    go_ret
    exact ⟨rfl, hF.out, hB.out⟩

/-- A number of n bytes, with a sign. -/
def sgn (n : Nat) (u : Nat) : Int := if u < 128 * 256 ^ (n - 1) then (u : Int) else (u : Int) - 256 ^ n
theorem sgn_sh (n : Nat) (h1 : 1 ≤ n) (h8 : n ≤ 8) (u : Nat) (hu : u < 256 ^ n) : (IntKind.i64.wrap (IntKind.u64.wrap ((u : Int) * 2 ^ (64 - 8 * n)))) / 2 ^ (64 - 8 * n) = sgn n u := by
  rw [IntKind.wrap_i64, IntKind.wrap_u64]
  unfold sgn
  obtain rfl | rfl | rfl | rfl | rfl | rfl | rfl | rfl : n = 1 ∨ n = 2 ∨ n = 3 ∨ n = 4 ∨ n = 5 ∨ n = 6 ∨ n = 7 ∨ n = 8 := by omega
  all_goals (simp only [Nat.reduceMul, Nat.reduceSub, Nat.reducePow, Int.reducePow] at *; split <;> omega)

set_option maxHeartbeats 2000000 in
theorem ri_yes (B : Nat) (zs : List Int) (n : Nat) (w : World) (a : Option Addr) (cap : Nat) (hH : w.heap[B]? = some (.cells #[.bool true, .slice a zs.length cap, .bool false] 73 (0, 0))) (hsl : Sl .u8 w a zs.length cap zs) (hz : ∀ x ∈ zs, (Lit.int .u8 x).wf = true) (hn1 : 1 ≤ n) (hn8 : n ≤ 8) (hn : n ≤ zs.length) (hl : zs.length ≤ 1000000) :
    Calls Try.prog 44 #[.pointer (some ⟨B, 0, none⟩), .int .i64 (n : Int)] w fun e w' => e = .returned (.int .i64 (sgn n (numB (zs.take n) n))) ∧ ∃ a' cap', w' = w.setCell ⟨B, 1, none⟩ (.slice a' (zs.length - n) cap') ∧ Sl .u8 w a' (zs.length - n) cap' (zs.drop n) := by
  have k1 := fun w => sized4_any (n : Int) w
  have e1 : sizedS (n : Int) = true := decide_eq_true ⟨by omega, by omega⟩
  rw [e1] at k1
  have k2 := ru_yes B zs n w a cap hH hsl hz hn1 hn8 hn hl
  have hbd := (fun i => getD_bd (bytes_bd (zs := zs.take n) (fun x hx => hz x (List.mem_of_mem_take hx))) i)
  have hlt := numB_lt (zs.take n) (fun i => by have := hbd i; omega) n
  clear hbd
  have hs := sgn_sh n hn1 hn8 _ hlt
  generalize numB (zs.take n) n = N at *
  generalize hS : sgn n N = S at *
  clear hH hsl e1 hz hS
  obtain rfl | rfl | rfl | rfl | rfl | rfl | rfl | rfl : n = 1 ∨ n = 2 ∨ n = 3 ∨ n = 4 ∨ n = 5 ∨ n = 6 ∨ n = 7 ∨ n = 8 := by omega
  all_goals
    replace hs := hid hs
    go_enter Try.func44, Try.ntmps44
    go_wp2_with fail
    refine k2.mono ?_
    rintro e w2 ⟨rfl, a2, cap2, hV, hs2⟩
    replace hV := hid hV
    replace hs2 := hid hs2
    go_wp2_with fail
    refine (k1 _).mono ?_
    rintro e w3 ⟨rfl, rfl⟩
    go_wp2_with fail
    go_ret
    refine ⟨?_, a2, cap2, hV.out, hs2.out⟩
    have := hs.out
    rw [IntKind.wrap_i64, IntKind.wrap_u64] at this
    simp only [Nat.reduceMul, Nat.reduceSub, Int.reducePow, Int.mul_one, Int.ediv_one] at this
    refine congrArg (fun x => Ending.returned (.int .i64 x)) ?_
    try unfold wrap64
    omega

end Go.Proofs.Ytekilpmmadhpoaa
