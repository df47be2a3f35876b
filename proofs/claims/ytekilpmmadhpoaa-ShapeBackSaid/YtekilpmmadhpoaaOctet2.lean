/- Package octet: writing to what is not made. -/
import Derived.Test.YtekilpmmadhpoaaOctet
import Derived.Laws.BitsAllLaws
import Derived.Laws.ShiftsVarLaws
namespace Go.Proofs.Ytekilpmmadhpoaa
open Go.ChangeShapes Go.WideShapes Go.ChangeAt Go.RowKit
set_option linter.unusedVariables false

theorem put_bad (p : Option Addr) (n u : Int) (b : Bool) (w : World) (h : BadAt 69 p w) : Calls Try.prog 49 #[.pointer p, .int .i64 n, .int .u64 u, .bool b] w fun e w' => e = .returned (.tuple #[]) ∧ After w w' := by
  have hA : After w (w.alloc (.cells #[.pointer p] 48)) := (Below.refl _ w).alloc (Nat.le_refl _) _
  have k := wfail_bad p _ (h.later hA)
  refine calls_of_marks Try.func49 rfl ?_
  simp only [Try.ntmps49, List.size_toArray, List.length_cons, List.length_nil, Nat.reduceAdd, Nat.reduceSub, Array.replicate_succ, Array.replicate_zero, List.push_toArray, List.append_toArray, List.nil_append, List.cons_append]
  go_wp2_with fail
  refine k.mono ?_
  rintro e w2 ⟨rfl, rfl⟩
  go_wp2_with fail
  exact marks_ret0 (results_none rfl _ _ _) ⟨rfl, hA⟩

set_option maxHeartbeats 1000000 in
theorem wu_bad (p : Option Addr) (n u : Int) (w : World) (h0 : 0 ≤ u) (h1 : u ≤ 18446744073709551615) (h : BadAt 69 p w) : Calls Try.prog 45 #[.pointer p, .int .i64 n, .int .u64 u] w fun e w' => e = .returned (.tuple #[]) ∧ After w w' := by
  have k1 := sized4_any n w
  have k2 := fun b => put_bad p n u b w h
  by_cases c : sizedS n = true
  · rw [c] at k1
    obtain ⟨c1, c2⟩ := of_decide_eq_true c
    clear c
    obtain rfl | rfl | rfl | rfl | rfl | rfl | rfl | rfl : n = 1 ∨ n = 2 ∨ n = 3 ∨ n = 4 ∨ n = 5 ∨ n = 6 ∨ n = 7 ∨ n = 8 := by omega
    all_goals
      go_enter Try.func45, Try.ntmps45
      go_wp2_with fail
      refine k1.mono ?_
      rintro e w2 ⟨rfl, rfl⟩
      go_wp2_with fail
      refine (k2 _).mono ?_
      rintro e w2 ⟨rfl, hA⟩
      go_wp2_with fail
      go_end0
      exact ⟨rfl, hA⟩
  · have c2 := Bool.not_eq_true _ ▸ c
    rw [c2] at k1
    clear c c2
    go_enter Try.func45, Try.ntmps45
    go_wp2_with fail
    refine k1.mono ?_
    rintro e w2 ⟨rfl, rfl⟩
    go_wp2_with fail
    refine (k2 _).mono ?_
    rintro e w2 ⟨rfl, hA⟩
    go_wp2_with fail
    go_end0
    exact ⟨rfl, hA⟩
set_option maxHeartbeats 1000000 in
theorem wi_bad (p : Option Addr) (n i : Int) (w : World) (h0 : -9223372036854775808 ≤ i) (h1 : i ≤ 9223372036854775807) (h : BadAt 69 p w) : Calls Try.prog 43 #[.pointer p, .int .i64 n, .int .i64 i] w fun e w' => e = .returned (.tuple #[]) ∧ After w w' := by
  have k1 := sized4_any n w
  have k2 := fun u b => put_bad p n u b w h
  by_cases c : sizedS n = true
  · rw [c] at k1
    obtain ⟨c1, c2⟩ := of_decide_eq_true c
    clear c
    obtain rfl | rfl | rfl | rfl | rfl | rfl | rfl | rfl : n = 1 ∨ n = 2 ∨ n = 3 ∨ n = 4 ∨ n = 5 ∨ n = 6 ∨ n = 7 ∨ n = 8 := by omega
    all_goals
      go_enter Try.func43, Try.ntmps43
      go_wp2_with fail
      refine k1.mono ?_
      rintro e w2 ⟨rfl, rfl⟩
      go_wp2_with fail
      all_goals
        refine (k2 _ _).mono ?_
        rintro e w2 ⟨rfl, hA⟩
        go_wp2_with fail
        go_end0
        exact ⟨rfl, hA⟩
  · have c2 := Bool.not_eq_true _ ▸ c
    rw [c2] at k1
    clear c c2
    go_enter Try.func43, Try.ntmps43
    go_wp2_with fail
    refine k1.mono ?_
    rintro e w2 ⟨rfl, rfl⟩
    go_wp2_with fail
    refine (k2 _ _).mono ?_
    rintro e w2 ⟨rfl, hA⟩
    go_wp2_with fail
    go_end0
    exact ⟨rfl, hA⟩

end Go.Proofs.Ytekilpmmadhpoaa
