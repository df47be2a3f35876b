/- Several texts in one: Octet, Octet2. -/
import Derived.Test.YtlfbhfmchdbnoaaKB
import Derived.Test.YtlfbhfmchdbnoaaKA
import Derived.LoopN
import Derived.Laws.BitsAllLaws
import Derived.Laws.ShiftsVarLaws

/- Package octet: what a reader, a writer that there is not, or that no constructor made, does. -/
namespace Go.Proofs.Ytlfbhfmchdbnoaa
open Go.ChangeShapes Go.WideShapes Go.ChangeAt Go.RowKit
set_option linter.unusedVariables false

/-- A pointer to nothing, or to a fresh struct. -/
def BadAt (T : TypeId) (p : Option Addr) (w : World) : Prop := p = none ∨ ∃ B, p = some ⟨B, 0, none⟩ ∧ w.heap[B]? = some (.cells #[.bool false, .slice none 0 0, .bool false] T (0, 0))
theorem BadAt.later {T : TypeId} {p : Option Addr} {w w' : World} (h : BadAt T p w) (hA : After w w') : BadAt T p w' := by
  rcases h with rfl | ⟨B, rfl, hB⟩
  · exact .inl rfl
  · exact .inr ⟨B, rfl, held_after hA hB⟩

def sizedS (n : Int) : Bool := decide (1 ≤ n ∧ n ≤ 8)
theorem sized4_any (n : Int) (w : World) : Calls Try.prog 56 #[.int .i64 n] w fun e w' => e = .returned (.bool (sizedS n)) ∧ w' = w := by
  by_cases c1 : 1 ≤ n
  · by_cases c2 : n ≤ 8
    · have e := hid (show sizedS n = true from decide_eq_true ⟨c1, c2⟩)
      go_enter Try.func56, Try.ntmps56
      go_wp2_with fail
      go_ret
      exact ⟨by rw [e.out]; rfl, rfl⟩
    · have e := hid (show sizedS n = false from decide_eq_false fun h => c2 h.2)
      go_enter Try.func56, Try.ntmps56
      go_wp2_with fail
      go_ret
      exact ⟨by rw [e.out]; first | rfl | (simp; omega) | simp, rfl⟩
  · have e := hid (show sizedS n = false from decide_eq_false fun h => c1 h.1)
    go_enter Try.func56, Try.ntmps56
    go_wp2_with fail
    go_ret
    exact ⟨by rw [e.out]; first | rfl | (simp; omega) | simp, rfl⟩

theorem rfail_bad (p : Option Addr) (w : World) (h : BadAt 111 p w) : Calls Try.prog 62 #[.pointer p] w fun e w' => e = .returned (.bool true) ∧ w' = w := by
  rcases h with rfl | ⟨B, rfl, hB⟩
  · go_enter Try.func62, Try.ntmps62
    go_wp2_with fail
    go_ret
    exact ⟨rfl, rfl⟩
  · have h0 := held_cell hB 0 _ rfl
    go_enter Try.func62, Try.ntmps62
    go_wp2_with fail
    go_ret
    exact ⟨rfl, rfl⟩
theorem next_bad (p : Option Addr) (n : Int) (b : Bool) (w : World) (h : BadAt 111 p w) : Calls Try.prog 55 #[.pointer p, .int .i64 n, .bool b] w fun e w' => e = .returned (.tuple #[.slice none 0 0, .bool false]) ∧ w' = w := by
  have k := rfail_bad p w h
  go_enter Try.func55, Try.ntmps55
  go_wp2_with fail
  refine k.mono ?_
  rintro e w2 ⟨rfl, rfl⟩
  go_wp2_with fail
  go_ret2
  exact ⟨rfl, rfl⟩
theorem ru_bad (p : Option Addr) (n : Int) (w : World) (h : BadAt 111 p w) : Calls Try.prog 46 #[.pointer p, .int .i64 n] w fun e w' => e = .returned (.int .u64 0) ∧ w' = w := by
  have k1 := sized4_any n w
  have k2 := fun b => next_bad p n b w h
  go_enter Try.func46, Try.ntmps46
  go_wp2_with fail
  refine k1.mono ?_
  rintro e w2 ⟨rfl, rfl⟩
  go_wp2_with fail
  refine (k2 _).mono ?_
  rintro e w3 ⟨rfl, rfl⟩
  go_wp2_with fail
  refine wp_loop_rounds 1 ?_
  rw [rounds_succ]
  go_wp2_with fail
  go_ret
  exact ⟨rfl, rfl⟩
theorem ri_bad (p : Option Addr) (n : Int) (w : World) (h : BadAt 111 p w) : Calls Try.prog 63 #[.pointer p, .int .i64 n] w fun e w' => e = .returned (.int .i64 0) ∧ w' = w := by
  have k1 := sized4_any n w
  have k2 := ru_bad p n w h
  by_cases c : sizedS n = true
  · rw [c] at k1
    obtain ⟨c1, c2⟩ := of_decide_eq_true c
    clear c
    obtain rfl | rfl | rfl | rfl | rfl | rfl | rfl | rfl : n = 1 ∨ n = 2 ∨ n = 3 ∨ n = 4 ∨ n = 5 ∨ n = 6 ∨ n = 7 ∨ n = 8 := by omega
    all_goals
      go_enter Try.func63, Try.ntmps63
      go_wp2_with fail
      refine k2.mono ?_
      rintro e w2 ⟨rfl, rfl⟩
      go_wp2_with fail
      refine k1.mono ?_
      rintro e w2 ⟨rfl, rfl⟩
      go_wp2_with fail
      go_ret
      exact ⟨rfl, rfl⟩
  · have c2 := Bool.not_eq_true _ ▸ c
    rw [c2] at k1
    clear c c2
    go_enter Try.func63, Try.ntmps63
    go_wp2_with fail
    refine k2.mono ?_
    rintro e w2 ⟨rfl, rfl⟩
    go_wp2_with fail
    refine k1.mono ?_
    rintro e w2 ⟨rfl, rfl⟩
    go_wp2_with fail
    go_ret
    exact ⟨rfl, rfl⟩
end Go.Proofs.Ytlfbhfmchdbnoaa

/- Package octet: writing to what is not made. -/
namespace Go.Proofs.Ytlfbhfmchdbnoaa
open Go.ChangeShapes Go.WideShapes Go.ChangeAt Go.RowKit
set_option linter.unusedVariables false

end Go.Proofs.Ytlfbhfmchdbnoaa
