/- The laws of layer 36: knows, FlogNil. -/
import Derived.Test.YtlfbhfmchdbnoaaKF
import Derived.Deep.DeepCutAuto
namespace Go.Proofs.Ytlfbhfmchdbnoaa
open Go.ChangeShapes Go.WideShapes Go.ChangeAt Go.RowKit
set_option linter.unusedVariables false
set_option linter.unusedSimpArgs false

theorem txt36 {w : World} {a : Option Addr} {len cap : Nat} {zs : List Int} (h : Sl .u8 w a len cap zs) : (convert 22 9 (.slice a len cap)).run Try.prog w = .ok (.string (textOf zs)) w :=
  h.text 22 9 5 Try.underlying22 Try.underlying5 Try.underlying9
theorem u32_bd36 {x : Int} (h : (Lit.int .u32 x).wf = true) : 0 ≤ x ∧ x ≤ 4294967295 := by
  have h3 : IntKind.u32.min = 0 := rfl
  have h4 : IntKind.u32.max = 4294967295 := rfl
  simp [Lit.wf, h3, h4] at h; exact h
theorem i32_bd36 {x : Int} (h : (Lit.int .i32 x).wf = true) : -2147483648 ≤ x ∧ x ≤ 2147483647 := by
  have h3 : IntKind.i32.min = -2147483648 := rfl
  have h4 : IntKind.i32.max = 2147483647 := rfl
  simp [Lit.wf, h3, h4] at h; exact h
theorem els_recs : ∀ {xs : List (List Value)}, (∀ x ∈ xs, (∃ (c0 : Int) (c1 : Int) (c2 : Int) (c3 : Int) (c4 : Int) (c5 : Int) (c6 : Int) (c7 : Int) (c8 : Int) (c9 : Int) (c10 : Int) (c11 : Int) (c12 : Int), x = [.int .u32 c0, .int .i32 c1, .int .i32 c2, .int .i32 c3, .int .i32 c4, .int .i32 c5, .int .i32 c6, .int .i32 c7, .int .i32 c8, .int .i32 c9, .int .i32 c10, .int .i32 c11, .int .i32 c12] ∧ ((Lit.int .u32 c0).wf = true) ∧ ((Lit.int .i32 c1).wf = true) ∧ ((Lit.int .i32 c2).wf = true) ∧ ((Lit.int .i32 c3).wf = true) ∧ ((Lit.int .i32 c4).wf = true) ∧ ((Lit.int .i32 c5).wf = true) ∧ ((Lit.int .i32 c6).wf = true) ∧ ((Lit.int .i32 c7).wf = true) ∧ ((Lit.int .i32 c8).wf = true) ∧ ((Lit.int .i32 c9).wf = true) ∧ ((Lit.int .i32 c10).wf = true) ∧ ((Lit.int .i32 c11).wf = true) ∧ ((Lit.int .i32 c12).wf = true))) → ∃ l : List Rc, xs = recsV l ∧ ∀ z ∈ l, StK z
  | [], _ => ⟨[], rfl, fun z hz => by cases hz⟩
  | y :: xs, h => by
    obtain ⟨c0, c1, c2, c3, c4, c5, c6, c7, c8, c9, c10, c11, c12, rfl, h0, h1, h2, h3, h4, h5, h6, h7, h8, h9, h10, h11, h12⟩ := h y (by simp)
    obtain ⟨l, rfl, hl⟩ := els_recs (xs := xs) (fun z hz => h z (List.mem_cons_of_mem _ hz))
    refine ⟨(c0, [c1, c2, c3, c4, c5, c6, c7, c8, c9, c10, c11, c12]) :: l, rfl, fun z hz => ?_⟩
    rcases List.mem_cons.1 hz with rfl | hz
    · refine ⟨u32_bd36 h0, rfl, fun y hy => ?_⟩
      simp only [List.mem_cons, List.not_mem_nil, or_false] at hy
      rcases hy with rfl | rfl | rfl | rfl | rfl | rfl | rfl | rfl | rfl | rfl | rfl | rfl <;> first | exact i32_bd36 h1 | exact i32_bd36 h2 | exact i32_bd36 h3 | exact i32_bd36 h4 | exact i32_bd36 h5 | exact i32_bd36 h6 | exact i32_bd36 h7 | exact i32_bd36 h8 | exact i32_bd36 h9 | exact i32_bd36 h10 | exact i32_bd36 h11 | exact i32_bd36 h12
    · exact hl z hz
end Go.Proofs.Ytlfbhfmchdbnoaa
