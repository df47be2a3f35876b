/- Several texts in one: Octet, Octet2. -/
import Derived.Test.YtfihdgichmocmaaKB
import Derived.Test.YtfihdgichmocmaaKA
import Derived.LoopN
import Derived.Laws.BitsAllLaws
import Derived.Laws.ShiftsVarLaws

/- Package octet: what a reader, a writer that there is not, or that no constructor made, does. -/
namespace Go.Proofs.Ytfihdgichmocmaa
open Go.ChangeShapes Go.WideShapes Go.ChangeAt Go.RowKit
set_option linter.unusedVariables false

/-- A pointer to nothing, or to a fresh struct. -/
def BadAt (T : TypeId) (p : Option Addr) (w : World) : Prop := p = none ∨ ∃ B, p = some ⟨B, 0, none⟩ ∧ w.heap[B]? = some (.cells #[.bool false, .slice none 0 0, .bool false] T (0, 0))
theorem BadAt.later {T : TypeId} {p : Option Addr} {w w' : World} (h : BadAt T p w) (hA : After w w') : BadAt T p w' := by
  rcases h with rfl | ⟨B, rfl, hB⟩
  · exact .inl rfl
  · exact .inr ⟨B, rfl, held_after hA hB⟩

def sizedS (n : Int) : Bool := decide (1 ≤ n ∧ n ≤ 8)
theorem sized4_any (n : Int) (w : World) : Calls Try.prog 72 #[.int .i64 n] w fun e w' => e = .returned (.bool (sizedS n)) ∧ w' = w := by
  by_cases c1 : 1 ≤ n
  · by_cases c2 : n ≤ 8
    · have e := hid (show sizedS n = true from decide_eq_true ⟨c1, c2⟩)
      go_enter Try.func72, Try.ntmps72
      go_wp2_with fail
      go_ret
      exact ⟨by rw [e.out]; rfl, rfl⟩
    · have e := hid (show sizedS n = false from decide_eq_false fun h => c2 h.2)
      go_enter Try.func72, Try.ntmps72
      go_wp2_with fail
      go_ret
      exact ⟨by rw [e.out]; first | rfl | (simp; omega) | simp, rfl⟩
  · have e := hid (show sizedS n = false from decide_eq_false fun h => c1 h.1)
    go_enter Try.func72, Try.ntmps72
    go_wp2_with fail
    go_ret
    exact ⟨by rw [e.out]; first | rfl | (simp; omega) | simp, rfl⟩

theorem rfail_bad (p : Option Addr) (w : World) (h : BadAt 101 p w) : Calls Try.prog 77 #[.pointer p] w fun e w' => e = .returned (.bool true) ∧ w' = w := by
  rcases h with rfl | ⟨B, rfl, hB⟩
  · go_enter Try.func77, Try.ntmps77
    go_wp2_with fail
    go_ret
    exact ⟨rfl, rfl⟩
  · have h0 := held_cell hB 0 _ rfl
    go_enter Try.func77, Try.ntmps77
    go_wp2_with fail
    go_ret
    exact ⟨rfl, rfl⟩
theorem wfail_bad (p : Option Addr) (w : World) (h : BadAt 97 p w) : Calls Try.prog 60 #[.pointer p] w fun e w' => e = .returned (.bool true) ∧ w' = w := by
  rcases h with rfl | ⟨B, rfl, hB⟩
  · go_enter Try.func60, Try.ntmps60
    go_wp2_with fail
    go_ret
    exact ⟨rfl, rfl⟩
  · have h0 := held_cell hB 0 _ rfl
    go_enter Try.func60, Try.ntmps60
    go_wp2_with fail
    go_ret
    exact ⟨rfl, rfl⟩

theorem next_bad (p : Option Addr) (n : Int) (b : Bool) (w : World) (h : BadAt 101 p w) : Calls Try.prog 74 #[.pointer p, .int .i64 n, .bool b] w fun e w' => e = .returned (.tuple #[.slice none 0 0, .bool false]) ∧ w' = w := by
  have k := rfail_bad p w h
  go_enter Try.func74, Try.ntmps74
  go_wp2_with fail
  refine k.mono ?_
  rintro e w2 ⟨rfl, rfl⟩
  go_wp2_with fail
  go_ret2
  exact ⟨rfl, rfl⟩
theorem ru_bad (p : Option Addr) (n : Int) (w : World) (h : BadAt 101 p w) : Calls Try.prog 69 #[.pointer p, .int .i64 n] w fun e w' => e = .returned (.int .u64 0) ∧ w' = w := by
  have k1 := sized4_any n w
  have k2 := fun b => next_bad p n b w h
  go_enter Try.func69, Try.ntmps69
  go_wp2_with fail
  refine k1.mono ?_
  rintro e w2 ⟨rfl, rfl⟩
  go_wp2_with fail
  refine (k2 _).mono ?_
  rintro e w3 ⟨rfl, rfl⟩
  go_wp2_with fail
  refine wp_loop_rounds 1 ?_
  rw [rounds_succ]
  go_wp2_with fail
  go_ret
  exact ⟨rfl, rfl⟩
theorem ri_bad (p : Option Addr) (n : Int) (w : World) (h : BadAt 101 p w) : Calls Try.prog 67 #[.pointer p, .int .i64 n] w fun e w' => e = .returned (.int .i64 0) ∧ w' = w := by
  have k1 := sized4_any n w
  have k2 := ru_bad p n w h
  by_cases c : sizedS n = true
  · rw [c] at k1
    obtain ⟨c1, c2⟩ := of_decide_eq_true c
    clear c
    obtain rfl | rfl | rfl | rfl | rfl | rfl | rfl | rfl : n = 1 ∨ n = 2 ∨ n = 3 ∨ n = 4 ∨ n = 5 ∨ n = 6 ∨ n = 7 ∨ n = 8 := by omega
    all_goals
      go_enter Try.func67, Try.ntmps67
      go_wp2_with fail
      refine k2.mono ?_
      rintro e w2 ⟨rfl, rfl⟩
      go_wp2_with fail
      refine k1.mono ?_
      rintro e w2 ⟨rfl, rfl⟩
      go_wp2_with fail
      go_ret
      exact ⟨rfl, rfl⟩
  · have c2 := Bool.not_eq_true _ ▸ c
    rw [c2] at k1
    clear c c2
    go_enter Try.func67, Try.ntmps67
    go_wp2_with fail
    refine k2.mono ?_
    rintro e w2 ⟨rfl, rfl⟩
    go_wp2_with fail
    refine k1.mono ?_
    rintro e w2 ⟨rfl, rfl⟩
    go_wp2_with fail
    go_ret
    exact ⟨rfl, rfl⟩
theorem wbytes_bad (p : Option Addr) (w : World) (h : BadAt 97 p w) : Calls Try.prog 41 #[.pointer p] w fun e w' => e = .returned (.slice none 0 0) ∧ w' = w := by
  have k := wfail_bad p w h
  go_enter Try.func41, Try.ntmps41
  go_wp2_with fail
  refine k.mono ?_
  rintro e w2 ⟨rfl, rfl⟩
  go_wp2_with fail
  go_ret
  exact ⟨rfl, rfl⟩
end Go.Proofs.Ytfihdgichmocmaa

/- Package octet: writing to what is not made. -/
namespace Go.Proofs.Ytfihdgichmocmaa
open Go.ChangeShapes Go.WideShapes Go.ChangeAt Go.RowKit
set_option linter.unusedVariables false

theorem put_bad (p : Option Addr) (n u : Int) (b : Bool) (w : World) (h : BadAt 97 p w) : Calls Try.prog 73 #[.pointer p, .int .i64 n, .int .u64 u, .bool b] w fun e w' => e = .returned (.tuple #[]) ∧ After w w' := by
  have hA : After w (w.alloc (.cells #[.pointer p] 66)) := (Below.refl _ w).alloc (Nat.le_refl _) _
  have k := wfail_bad p _ (h.later hA)
  refine calls_of_marks Try.func73 rfl ?_
  simp only [Try.ntmps73, List.size_toArray, List.length_cons, List.length_nil, Nat.reduceAdd, Nat.reduceSub, Array.replicate_succ, Array.replicate_zero, List.push_toArray, List.append_toArray, List.nil_append, List.cons_append]
  go_wp2_with fail
  refine k.mono ?_
  rintro e w2 ⟨rfl, rfl⟩
  go_wp2_with fail
  exact marks_ret0 (results_none rfl _ _ _) ⟨rfl, hA⟩

set_option maxHeartbeats 1000000 in
theorem wu_bad (p : Option Addr) (n u : Int) (w : World) (h0 : 0 ≤ u) (h1 : u ≤ 18446744073709551615) (h : BadAt 97 p w) : Calls Try.prog 68 #[.pointer p, .int .i64 n, .int .u64 u] w fun e w' => e = .returned (.tuple #[]) ∧ After w w' := by
  have k1 := sized4_any n w
  have k2 := fun b => put_bad p n u b w h
  by_cases c : sizedS n = true
  · rw [c] at k1
    obtain ⟨c1, c2⟩ := of_decide_eq_true c
    clear c
    obtain rfl | rfl | rfl | rfl | rfl | rfl | rfl | rfl : n = 1 ∨ n = 2 ∨ n = 3 ∨ n = 4 ∨ n = 5 ∨ n = 6 ∨ n = 7 ∨ n = 8 := by omega
    all_goals
      go_enter Try.func68, Try.ntmps68
      go_wp2_with fail
      refine k1.mono ?_
      rintro e w2 ⟨rfl, rfl⟩
      go_wp2_with fail
      refine (k2 _).mono ?_
      rintro e w2 ⟨rfl, hA⟩
      go_wp2_with fail
      go_end0
      exact ⟨rfl, hA⟩
  · have c2 := Bool.not_eq_true _ ▸ c
    rw [c2] at k1
    clear c c2
    go_enter Try.func68, Try.ntmps68
    go_wp2_with fail
    refine k1.mono ?_
    rintro e w2 ⟨rfl, rfl⟩
    go_wp2_with fail
    refine (k2 _).mono ?_
    rintro e w2 ⟨rfl, hA⟩
    go_wp2_with fail
    go_end0
    exact ⟨rfl, hA⟩
set_option maxHeartbeats 1000000 in
theorem wi_bad (p : Option Addr) (n i : Int) (w : World) (h0 : -9223372036854775808 ≤ i) (h1 : i ≤ 9223372036854775807) (h : BadAt 97 p w) : Calls Try.prog 66 #[.pointer p, .int .i64 n, .int .i64 i] w fun e w' => e = .returned (.tuple #[]) ∧ After w w' := by
  have k1 := sized4_any n w
  have k2 := fun u b => put_bad p n u b w h
  by_cases c : sizedS n = true
  · rw [c] at k1
    obtain ⟨c1, c2⟩ := of_decide_eq_true c
    clear c
    obtain rfl | rfl | rfl | rfl | rfl | rfl | rfl | rfl : n = 1 ∨ n = 2 ∨ n = 3 ∨ n = 4 ∨ n = 5 ∨ n = 6 ∨ n = 7 ∨ n = 8 := by omega
    all_goals
      go_enter Try.func66, Try.ntmps66
      go_wp2_with fail
      refine k1.mono ?_
      rintro e w2 ⟨rfl, rfl⟩
      go_wp2_with fail
      all_goals
        refine (k2 _ _).mono ?_
        rintro e w2 ⟨rfl, hA⟩
        go_wp2_with fail
        go_end0
        exact ⟨rfl, hA⟩
  · have c2 := Bool.not_eq_true _ ▸ c
    rw [c2] at k1
    clear c c2
    go_enter Try.func66, Try.ntmps66
    go_wp2_with fail
    refine k1.mono ?_
    rintro e w2 ⟨rfl, rfl⟩
    go_wp2_with fail
    refine (k2 _ _).mono ?_
    rintro e w2 ⟨rfl, hA⟩
    go_wp2_with fail
    go_end0
    exact ⟨rfl, hA⟩

end Go.Proofs.Ytfihdgichmocmaa
