/- The laws of layer 35: knows, BlockTakes. -/
import Derived.Test.YtlfbhfmchdbnoaaBlk11
import Derived.Test.YtlfbhfmchdbnoaaBlk12
import Derived.Test.YtlfbhfmchdbnoaaEls
import Derived.Deep.DeepCutAuto
namespace Go.Proofs.Ytlfbhfmchdbnoaa
open Go.ChangeShapes Go.WideShapes Go.ChangeAt Go.RowKit
set_option linter.unusedVariables false
set_option linter.unusedSimpArgs false

theorem txt35 {w : World} {a : Option Addr} {len cap : Nat} {zs : List Int} (h : Sl .u8 w a len cap zs) : (convert 22 9 (.slice a len cap)).run Try.prog w = .ok (.string (textOf zs)) w :=
  h.text 22 9 5 Try.underlying22 Try.underlying5 Try.underlying9
theorem u32_bd35 {x : Int} (h : (Lit.int .u32 x).wf = true) : 0 ≤ x ∧ x ≤ 4294967295 := by
  have h3 : IntKind.u32.min = 0 := rfl
  have h4 : IntKind.u32.max = 4294967295 := rfl
  simp [Lit.wf, h3, h4] at h; exact h
theorem i32_bd35 {x : Int} (h : (Lit.int .i32 x).wf = true) : -2147483648 ≤ x ∧ x ≤ 2147483647 := by
  have h3 : IntKind.i32.min = -2147483648 := rfl
  have h4 : IntKind.i32.max = 2147483647 := rfl
  simp [Lit.wf, h3, h4] at h; exact h
theorem after_eq {a b : World} (h : b = a) : After a b := by rw [h]; exact Below.refl _ _
theorem els_ents : ∀ {xs : List (List Value)}, (∀ x ∈ xs, (∃ (c0 : Bool) (c1 : Int) (c2 : Int) (c3 : Int) (c4 : Int) (c5 : Int) (c6 : Int) (c7 : Int) (c8 : Int) (c9 : Int) (c10 : Int) (c11 : Int) (c12 : Int) (c13 : Int), x = [.bool c0, .int .u32 c1, .int .i32 c2, .int .i32 c3, .int .i32 c4, .int .i32 c5, .int .i32 c6, .int .i32 c7, .int .i32 c8, .int .i32 c9, .int .i32 c10, .int .i32 c11, .int .i32 c12, .int .i32 c13] ∧ ((Lit.int .u32 c1).wf = true) ∧ ((Lit.int .i32 c2).wf = true) ∧ ((Lit.int .i32 c3).wf = true) ∧ ((Lit.int .i32 c4).wf = true) ∧ ((Lit.int .i32 c5).wf = true) ∧ ((Lit.int .i32 c6).wf = true) ∧ ((Lit.int .i32 c7).wf = true) ∧ ((Lit.int .i32 c8).wf = true) ∧ ((Lit.int .i32 c9).wf = true) ∧ ((Lit.int .i32 c10).wf = true) ∧ ((Lit.int .i32 c11).wf = true) ∧ ((Lit.int .i32 c12).wf = true) ∧ ((Lit.int .i32 c13).wf = true))) → ∃ l : List En, xs = entsV l ∧ ∀ z ∈ l, EnOk z
  | [], _ => ⟨[], rfl, fun z hz => by cases hz⟩
  | y :: xs, h => by
    obtain ⟨c0, c1, c2, c3, c4, c5, c6, c7, c8, c9, c10, c11, c12, c13, rfl, h1, h2, h3, h4, h5, h6, h7, h8, h9, h10, h11, h12, h13⟩ := h y (by simp)
    obtain ⟨l, rfl, hl⟩ := els_ents (xs := xs) (fun z hz => h z (List.mem_cons_of_mem _ hz))
    refine ⟨(c0, c1, [c2, c3, c4, c5, c6, c7, c8, c9, c10, c11, c12, c13]) :: l, rfl, fun z hz => ?_⟩
    rcases List.mem_cons.1 hz with rfl | hz
    · refine ⟨u32_bd35 h1, rfl, fun y hy => ?_⟩
      simp only [List.mem_cons, List.not_mem_nil, or_false] at hy
      rcases hy with rfl | rfl | rfl | rfl | rfl | rfl | rfl | rfl | rfl | rfl | rfl | rfl <;> first | exact i32_bd35 h2 | exact i32_bd35 h3 | exact i32_bd35 h4 | exact i32_bd35 h5 | exact i32_bd35 h6 | exact i32_bd35 h7 | exact i32_bd35 h8 | exact i32_bd35 h9 | exact i32_bd35 h10 | exact i32_bd35 h11 | exact i32_bd35 h12 | exact i32_bd35 h13
    · exact hl z hz
theorem putB_e (no : Int) (l : List En) : 0 ≤ (putB no l).2 ∧ (putB no l).2 ≤ 9 := by
  unfold putB
  split
  · split <;> simp
  · simp
theorem putB_no {no : Int} {l : List En} (h : (putB no l).2 ≠ 0) : (putB no l).1 = [] := by
  unfold putB at *
  split
  · rename_i c
    rw [if_pos c] at h
    split
    · rfl
    · rename_i c2
      rw [if_neg c2] at h; exact absurd rfl h
  · rfl
theorem putB_wf {no : Int} {l : List En} (hl : ∀ x ∈ l, EnOk x) : ∀ y ∈ (putB no l).1, 0 ≤ y ∧ y ≤ 255 := by
  intro y hy
  unfold putB at hy
  split at hy
  · split at hy
    · cases hy
    · unfold blockB at hy
      refine crcSeal_bytes _ (bytes_bd (fill_wf ?_)) y hy
      intro z hz
      rcases List.mem_append.1 hz with hz | hz
      · exact hdr_wf _ _ z hz
      · exact entS_wf l _ stK0.2.2 hl z hz
  · cases hy
theorem putB_len {no : Int} {l : List En} : (putB no l).1.length ≤ 256 := by
  unfold putB
  split
  · split
    · simp
    · rename_i c
      unfold blockB
      rw [crcSeal_len, fill_len (by rw [List.length_append, hdr_len]; omega)]
      exact Nat.le_refl _
  · simp
end Go.Proofs.Ytlfbhfmchdbnoaa
