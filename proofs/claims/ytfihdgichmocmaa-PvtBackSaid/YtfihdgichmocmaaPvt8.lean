/- Package pvt: the papers' Of. -/
import Derived.Test.YtfihdgichmocmaaPvt7
import Derived.Deep.DeepCutAuto
namespace Go.Proofs.Ytfihdgichmocmaa
open Go.ChangeShapes Go.WideShapes Go.ChangeAt Go.RowKit
set_option linter.unusedVariables false
set_option linter.unusedSimpArgs false

theorem wp_built16b {P : Program} {o : Oper} {a : Act} {w : World} {K : Act → World → Prop} {Q : Exit → Act → World → Prop} (t : TypeId) (parts : Array (Nat × Operand)) (ho : o.op = .build t parts)
    (C : Array Value) (hC : P.built t (parts.map fun (i, x) => (i, a.eval x)).toList = some C) (h : K (a.put o.dst (.agg C)) w) : o.wp P a w K Q := by
  refine wp_build t parts ho (by rw [hC]; rfl) ?_
  rw [hC]
  exact h
set_option maxRecDepth 100000 in
set_option maxHeartbeats 4000000 in
theorem built_all (y0 y1 y2 y3 y4 y5 y6 y7 y8 y9 y10 y11 y12 y13 y14 y15 y16 y17 y18 y19 y20 y21 y22 y23 y24 y25 y26 y27 y28 y29 y30 y31 : Int) : Try.prog.built 23 [(0, .int .i64 y0), (1, .int .i64 y1), (2, .int .i64 y2), (3, .int .i64 y3), (4, .int .i64 y4), (5, .int .i64 y5), (6, .int .i64 y6), (7, .int .i64 y7), (8, .int .i64 y8), (9, .int .i64 y9), (10, .int .i64 y10), (11, .int .i64 y11), (12, .int .i64 y12), (13, .int .i64 y13), (14, .int .i64 y14), (15, .int .i64 y15), (16, .int .i64 y16), (17, .int .i64 y17), (18, .int .i64 y18), (19, .int .i64 y19), (20, .int .i64 y20), (21, .int .i64 y21), (22, .int .i64 y22), (23, .int .i64 y23), (24, .int .i64 y24), (25, .int .i64 y25), (26, .int .i64 y26), (27, .int .i64 y27), (28, .int .i64 y28), (29, .int .i64 y29), (30, .int .i64 y30), (31, .int .i64 y31)] = some #[.int .i64 y0, .int .i64 y1, .int .i64 y2, .int .i64 y3, .int .i64 y4, .int .i64 y5, .int .i64 y6, .int .i64 y7, .int .i64 y8, .int .i64 y9, .int .i64 y10, .int .i64 y11, .int .i64 y12, .int .i64 y13, .int .i64 y14, .int .i64 y15, .int .i64 y16, .int .i64 y17, .int .i64 y18, .int .i64 y19, .int .i64 y20, .int .i64 y21, .int .i64 y22, .int .i64 y23, .int .i64 y24, .int .i64 y25, .int .i64 y26, .int .i64 y27, .int .i64 y28, .int .i64 y29, .int .i64 y30, .int .i64 y31] := by kernel_rfl
set_option maxRecDepth 100000 in
set_option maxHeartbeats 8000000 in
theorem rof_any (a : Option Addr) (n c : Nat) (vs : List Int) (w : World) (hV : Sl .i64 w a n c vs) (hn : n ≤ 1000) : Calls Try.prog 19 #[.slice a n c] w fun e w' => e = .returned (.tuple #[.agg ((ofV n vs).1.map (Value.int .i64)).toArray, .bool (ofV n vs).2]) ∧ After w w' := by
  by_cases h33 : n = 33
  case neg =>
    have q33 : ((n : Int) == 33) = false := beq_eq_false_iff_ne.2 (by omega)
    have q34 : ((n : Int) != 33) = true := by simp; omega
    have hofv := hid (show ofV n vs = (z32, false) from if_neg (by intro h; exact h33 h.1))
    rw [hofv.out]
    replace hofv := hid hofv
    have n1 := alloc_new w (.cells #[.int .i64 0, .int .i64 0, .int .i64 0, .int .i64 0, .int .i64 0, .int .i64 0, .int .i64 0, .int .i64 0, .int .i64 0, .int .i64 0, .int .i64 0, .int .i64 0, .int .i64 0, .int .i64 0, .int .i64 0, .int .i64 0, .int .i64 0, .int .i64 0, .int .i64 0, .int .i64 0, .int .i64 0, .int .i64 0, .int .i64 0, .int .i64 0, .int .i64 0, .int .i64 0, .int .i64 0, .int .i64 0, .int .i64 0, .int .i64 0, .int .i64 0, .int .i64 0] 23)
    have hA := n1.2.1
    have hR := n1.2.2
    clear n1
    go_enter Try.func19, Try.ntmps19
    go_upto_region 1 with (fail)
    obtain ⟨W2, hW2⟩ : ∃ X, w.alloc (.cells #[.int .i64 0, .int .i64 0, .int .i64 0, .int .i64 0, .int .i64 0, .int .i64 0, .int .i64 0, .int .i64 0, .int .i64 0, .int .i64 0, .int .i64 0, .int .i64 0, .int .i64 0, .int .i64 0, .int .i64 0, .int .i64 0, .int .i64 0, .int .i64 0, .int .i64 0, .int .i64 0, .int .i64 0, .int .i64 0, .int .i64 0, .int .i64 0, .int .i64 0, .int .i64 0, .int .i64 0, .int .i64 0, .int .i64 0, .int .i64 0, .int .i64 0, .int .i64 0] 23) = X := ⟨_, rfl⟩
    rw [hW2] at hR hA ⊢
    obtain ⟨T, hTe⟩ : ∃ X, w.heap.size = X := ⟨_, rfl⟩
    rw [hTe] at hR ⊢
    have hRc : W2.heap[T]? = some (.cells zC 23 (0, 0)) := hR
    have hV2 := hid (hV.below hA)
    replace hW2 := hid hW2
    replace hTe := hid hTe
    replace hA := hid hA
    replace hRc := hid hRc
    clear hR hV
    go_upto_region 2 with (fail)
    refine wp_region_lit ?_
    refine wpList_built16 rfl 23 #[] rfl zC (by simp [Act.eval]; exact built_pvt) ?_
    refine wpList_store_row rfl 23 (.tmp 2) (.tmp 13) rfl T zC rfl rfl 23 zC hRc.out (by kernel_rfl) rfl (allOne16 _) ?_
    have hR9 := hid (setRow_heap W2 T zC zC 23 (0, 0) hRc.out)
    have hA9 := hid (setRow_after hA.out (cs := zC) (by have := hTe.out; omega) hRc.out)
    obtain ⟨W9, hW9⟩ : ∃ X, W2.setRow T zC = X := ⟨_, rfl⟩
    rw [hW9] at hR9 hA9 ⊢
    clear hW9
    go_wp2_with fail
    exact bodyPost_ret (results_cr Try.results19 _ _ T 23 zC (0, 0) _ rfl hR9.out Try.underlying23 rfl (by kernel_rfl)) rfl ⟨rfl, hA9.out⟩
  subst h33
  obtain ⟨x29, h29⟩ : ∃ z, vs.getD 29 0 = z := ⟨_, rfl⟩
  obtain ⟨b29, o29, rfl, hc29⟩ := hV.2.2.2.2 29 (by have := hV.1; omega)
  rw [h29] at hc29
  by_cases hx0 : x29 = 0
  case neg =>
    have q29 : (x29 != 0) = true := by simp [hx0]
    have q30 : (x29 == 0) = false := by simp [hx0]
    have hofv := hid (show ofV 33 vs = (z32, false) from if_neg (by intro h; exact hx0 (h29 ▸ h.2)))
    rw [hofv.out]
    clear hofv h29
    have n1 := alloc_new w (.cells #[.int .i64 0, .int .i64 0, .int .i64 0, .int .i64 0, .int .i64 0, .int .i64 0, .int .i64 0, .int .i64 0, .int .i64 0, .int .i64 0, .int .i64 0, .int .i64 0, .int .i64 0, .int .i64 0, .int .i64 0, .int .i64 0, .int .i64 0, .int .i64 0, .int .i64 0, .int .i64 0, .int .i64 0, .int .i64 0, .int .i64 0, .int .i64 0, .int .i64 0, .int .i64 0, .int .i64 0, .int .i64 0, .int .i64 0, .int .i64 0, .int .i64 0, .int .i64 0] 23)
    have hA := n1.2.1
    have hR := n1.2.2
    clear n1
    go_enter Try.func19, Try.ntmps19
    go_upto_region 1 with (fail)
    obtain ⟨W2, hW2⟩ : ∃ X, w.alloc (.cells #[.int .i64 0, .int .i64 0, .int .i64 0, .int .i64 0, .int .i64 0, .int .i64 0, .int .i64 0, .int .i64 0, .int .i64 0, .int .i64 0, .int .i64 0, .int .i64 0, .int .i64 0, .int .i64 0, .int .i64 0, .int .i64 0, .int .i64 0, .int .i64 0, .int .i64 0, .int .i64 0, .int .i64 0, .int .i64 0, .int .i64 0, .int .i64 0, .int .i64 0, .int .i64 0, .int .i64 0, .int .i64 0, .int .i64 0, .int .i64 0, .int .i64 0, .int .i64 0] 23) = X := ⟨_, rfl⟩
    rw [hW2] at hR hA ⊢
    obtain ⟨T, hTe⟩ : ∃ X, w.heap.size = X := ⟨_, rfl⟩
    rw [hTe] at hR ⊢
    have hRc : W2.heap[T]? = some (.cells zC 23 (0, 0)) := hR
    have hV2 := hid (hV.below hA)
    have c29 := (Below.cell hA (World.block_lt_of_cell? _ _ hc29)).trans hc29
    replace hW2 := hid hW2
    replace hTe := hid hTe
    replace hA := hid hA
    replace hRc := hid hRc
    clear hR hV
    go_upto_region 2 with (fail)
    refine wp_region_lit ?_
    refine wpList_built16 rfl 23 #[] rfl zC (by simp [Act.eval]; exact built_pvt) ?_
    refine wpList_store_row rfl 23 (.tmp 2) (.tmp 13) rfl T zC rfl rfl 23 zC hRc.out (by kernel_rfl) rfl (allOne16 _) ?_
    have hR9 := hid (setRow_heap W2 T zC zC 23 (0, 0) hRc.out)
    have hA9 := hid (setRow_after hA.out (cs := zC) (by have := hTe.out; omega) hRc.out)
    obtain ⟨W9, hW9⟩ : ∃ X, W2.setRow T zC = X := ⟨_, rfl⟩
    rw [hW9] at hR9 hA9 ⊢
    clear hW9
    go_wp2_with fail
    exact bodyPost_ret (results_cr Try.results19 _ _ T 23 zC (0, 0) _ rfl hR9.out Try.underlying23 rfl (by kernel_rfl)) rfl ⟨rfl, hA9.out⟩
  subst hx0
  have hofv := hid (show ofV 33 vs = (inP vs z32, true) from if_pos ⟨rfl, h29⟩)
  have hin := hid (inP_lit hV.1)
  rw [hofv.out]
  replace h29 := hid h29
  have n1 := alloc_new w (.cells #[.int .i64 0, .int .i64 0, .int .i64 0, .int .i64 0, .int .i64 0, .int .i64 0, .int .i64 0, .int .i64 0, .int .i64 0, .int .i64 0, .int .i64 0, .int .i64 0, .int .i64 0, .int .i64 0, .int .i64 0, .int .i64 0, .int .i64 0, .int .i64 0, .int .i64 0, .int .i64 0, .int .i64 0, .int .i64 0, .int .i64 0, .int .i64 0, .int .i64 0, .int .i64 0, .int .i64 0, .int .i64 0, .int .i64 0, .int .i64 0, .int .i64 0, .int .i64 0] 23)
  have hA := n1.2.1
  have hR := n1.2.2
  clear n1
  go_enter Try.func19, Try.ntmps19
  go_upto_region 1 with (fail)
  obtain ⟨W2, hW2⟩ : ∃ X, w.alloc (.cells #[.int .i64 0, .int .i64 0, .int .i64 0, .int .i64 0, .int .i64 0, .int .i64 0, .int .i64 0, .int .i64 0, .int .i64 0, .int .i64 0, .int .i64 0, .int .i64 0, .int .i64 0, .int .i64 0, .int .i64 0, .int .i64 0, .int .i64 0, .int .i64 0, .int .i64 0, .int .i64 0, .int .i64 0, .int .i64 0, .int .i64 0, .int .i64 0, .int .i64 0, .int .i64 0, .int .i64 0, .int .i64 0, .int .i64 0, .int .i64 0, .int .i64 0, .int .i64 0] 23) = X := ⟨_, rfl⟩
  rw [hW2] at hR hA ⊢
  obtain ⟨T, hTe⟩ : ∃ X, w.heap.size = X := ⟨_, rfl⟩
  rw [hTe] at hR ⊢
  have hRc : W2.heap[T]? = some (.cells zC 23 (0, 0)) := hR
  have hV2 := hid (hV.below hA)
  have c29 := (Below.cell hA (World.block_lt_of_cell? _ _ hc29)).trans hc29
  replace hW2 := hid hW2
  replace hTe := hid hTe
  replace hA := hid hA
  replace hRc := hid hRc
  clear hR hV
  obtain ⟨y0, hy0⟩ : ∃ y, vs.getD 0 0 = y := ⟨_, rfl⟩
  have d0 : W2.cell? ⟨b29, o29 + 0, none⟩ = some (.int .i64 y0) := by
    obtain ⟨b, o, e, h⟩ := hV2.out.2.2.2.2 0 (by have := hV2.out.1; omega)
    cases e
    rw [hy0] at h
    exact h
  replace hy0 := hid hy0
  obtain ⟨y1, hy1⟩ : ∃ y, vs.getD 1 0 = y := ⟨_, rfl⟩
  have d1 : W2.cell? ⟨b29, o29 + 1, none⟩ = some (.int .i64 y1) := by
    obtain ⟨b, o, e, h⟩ := hV2.out.2.2.2.2 1 (by have := hV2.out.1; omega)
    cases e
    rw [hy1] at h
    exact h
  replace hy1 := hid hy1
  obtain ⟨y2, hy2⟩ : ∃ y, vs.getD 2 0 = y := ⟨_, rfl⟩
  have d2 : W2.cell? ⟨b29, o29 + 2, none⟩ = some (.int .i64 y2) := by
    obtain ⟨b, o, e, h⟩ := hV2.out.2.2.2.2 2 (by have := hV2.out.1; omega)
    cases e
    rw [hy2] at h
    exact h
  replace hy2 := hid hy2
  obtain ⟨y3, hy3⟩ : ∃ y, vs.getD 3 0 = y := ⟨_, rfl⟩
  have d3 : W2.cell? ⟨b29, o29 + 3, none⟩ = some (.int .i64 y3) := by
    obtain ⟨b, o, e, h⟩ := hV2.out.2.2.2.2 3 (by have := hV2.out.1; omega)
    cases e
    rw [hy3] at h
    exact h
  replace hy3 := hid hy3
  obtain ⟨y4, hy4⟩ : ∃ y, vs.getD 4 0 = y := ⟨_, rfl⟩
  have d4 : W2.cell? ⟨b29, o29 + 4, none⟩ = some (.int .i64 y4) := by
    obtain ⟨b, o, e, h⟩ := hV2.out.2.2.2.2 4 (by have := hV2.out.1; omega)
    cases e
    rw [hy4] at h
    exact h
  replace hy4 := hid hy4
  obtain ⟨y5, hy5⟩ : ∃ y, vs.getD 5 0 = y := ⟨_, rfl⟩
  have d5 : W2.cell? ⟨b29, o29 + 5, none⟩ = some (.int .i64 y5) := by
    obtain ⟨b, o, e, h⟩ := hV2.out.2.2.2.2 5 (by have := hV2.out.1; omega)
    cases e
    rw [hy5] at h
    exact h
  replace hy5 := hid hy5
  obtain ⟨y6, hy6⟩ : ∃ y, vs.getD 6 0 = y := ⟨_, rfl⟩
  have d6 : W2.cell? ⟨b29, o29 + 6, none⟩ = some (.int .i64 y6) := by
    obtain ⟨b, o, e, h⟩ := hV2.out.2.2.2.2 6 (by have := hV2.out.1; omega)
    cases e
    rw [hy6] at h
    exact h
  replace hy6 := hid hy6
  obtain ⟨y7, hy7⟩ : ∃ y, vs.getD 7 0 = y := ⟨_, rfl⟩
  have d7 : W2.cell? ⟨b29, o29 + 7, none⟩ = some (.int .i64 y7) := by
    obtain ⟨b, o, e, h⟩ := hV2.out.2.2.2.2 7 (by have := hV2.out.1; omega)
    cases e
    rw [hy7] at h
    exact h
  replace hy7 := hid hy7
  obtain ⟨y8, hy8⟩ : ∃ y, vs.getD 8 0 = y := ⟨_, rfl⟩
  have d8 : W2.cell? ⟨b29, o29 + 8, none⟩ = some (.int .i64 y8) := by
    obtain ⟨b, o, e, h⟩ := hV2.out.2.2.2.2 8 (by have := hV2.out.1; omega)
    cases e
    rw [hy8] at h
    exact h
  replace hy8 := hid hy8
  obtain ⟨y9, hy9⟩ : ∃ y, vs.getD 9 0 = y := ⟨_, rfl⟩
  have d9 : W2.cell? ⟨b29, o29 + 9, none⟩ = some (.int .i64 y9) := by
    obtain ⟨b, o, e, h⟩ := hV2.out.2.2.2.2 9 (by have := hV2.out.1; omega)
    cases e
    rw [hy9] at h
    exact h
  replace hy9 := hid hy9
  obtain ⟨y10, hy10⟩ : ∃ y, vs.getD 10 0 = y := ⟨_, rfl⟩
  have d10 : W2.cell? ⟨b29, o29 + 10, none⟩ = some (.int .i64 y10) := by
    obtain ⟨b, o, e, h⟩ := hV2.out.2.2.2.2 10 (by have := hV2.out.1; omega)
    cases e
    rw [hy10] at h
    exact h
  replace hy10 := hid hy10
  obtain ⟨y11, hy11⟩ : ∃ y, vs.getD 11 0 = y := ⟨_, rfl⟩
  have d11 : W2.cell? ⟨b29, o29 + 11, none⟩ = some (.int .i64 y11) := by
    obtain ⟨b, o, e, h⟩ := hV2.out.2.2.2.2 11 (by have := hV2.out.1; omega)
    cases e
    rw [hy11] at h
    exact h
  replace hy11 := hid hy11
  obtain ⟨y12, hy12⟩ : ∃ y, vs.getD 12 0 = y := ⟨_, rfl⟩
  have d12 : W2.cell? ⟨b29, o29 + 12, none⟩ = some (.int .i64 y12) := by
    obtain ⟨b, o, e, h⟩ := hV2.out.2.2.2.2 12 (by have := hV2.out.1; omega)
    cases e
    rw [hy12] at h
    exact h
  replace hy12 := hid hy12
  obtain ⟨y13, hy13⟩ : ∃ y, vs.getD 13 0 = y := ⟨_, rfl⟩
  have d13 : W2.cell? ⟨b29, o29 + 13, none⟩ = some (.int .i64 y13) := by
    obtain ⟨b, o, e, h⟩ := hV2.out.2.2.2.2 13 (by have := hV2.out.1; omega)
    cases e
    rw [hy13] at h
    exact h
  replace hy13 := hid hy13
  obtain ⟨y14, hy14⟩ : ∃ y, vs.getD 14 0 = y := ⟨_, rfl⟩
  have d14 : W2.cell? ⟨b29, o29 + 14, none⟩ = some (.int .i64 y14) := by
    obtain ⟨b, o, e, h⟩ := hV2.out.2.2.2.2 14 (by have := hV2.out.1; omega)
    cases e
    rw [hy14] at h
    exact h
  replace hy14 := hid hy14
  obtain ⟨y15, hy15⟩ : ∃ y, vs.getD 15 0 = y := ⟨_, rfl⟩
  have d15 : W2.cell? ⟨b29, o29 + 15, none⟩ = some (.int .i64 y15) := by
    obtain ⟨b, o, e, h⟩ := hV2.out.2.2.2.2 15 (by have := hV2.out.1; omega)
    cases e
    rw [hy15] at h
    exact h
  replace hy15 := hid hy15
  obtain ⟨y16, hy16⟩ : ∃ y, vs.getD 16 0 = y := ⟨_, rfl⟩
  have d16 : W2.cell? ⟨b29, o29 + 16, none⟩ = some (.int .i64 y16) := by
    obtain ⟨b, o, e, h⟩ := hV2.out.2.2.2.2 16 (by have := hV2.out.1; omega)
    cases e
    rw [hy16] at h
    exact h
  replace hy16 := hid hy16
  obtain ⟨y17, hy17⟩ : ∃ y, vs.getD 17 0 = y := ⟨_, rfl⟩
  have d17 : W2.cell? ⟨b29, o29 + 17, none⟩ = some (.int .i64 y17) := by
    obtain ⟨b, o, e, h⟩ := hV2.out.2.2.2.2 17 (by have := hV2.out.1; omega)
    cases e
    rw [hy17] at h
    exact h
  replace hy17 := hid hy17
  obtain ⟨y18, hy18⟩ : ∃ y, vs.getD 18 0 = y := ⟨_, rfl⟩
  have d18 : W2.cell? ⟨b29, o29 + 18, none⟩ = some (.int .i64 y18) := by
    obtain ⟨b, o, e, h⟩ := hV2.out.2.2.2.2 18 (by have := hV2.out.1; omega)
    cases e
    rw [hy18] at h
    exact h
  replace hy18 := hid hy18
  obtain ⟨y19, hy19⟩ : ∃ y, vs.getD 19 0 = y := ⟨_, rfl⟩
  have d19 : W2.cell? ⟨b29, o29 + 19, none⟩ = some (.int .i64 y19) := by
    obtain ⟨b, o, e, h⟩ := hV2.out.2.2.2.2 19 (by have := hV2.out.1; omega)
    cases e
    rw [hy19] at h
    exact h
  replace hy19 := hid hy19
  obtain ⟨y20, hy20⟩ : ∃ y, vs.getD 20 0 = y := ⟨_, rfl⟩
  have d20 : W2.cell? ⟨b29, o29 + 20, none⟩ = some (.int .i64 y20) := by
    obtain ⟨b, o, e, h⟩ := hV2.out.2.2.2.2 20 (by have := hV2.out.1; omega)
    cases e
    rw [hy20] at h
    exact h
  replace hy20 := hid hy20
  obtain ⟨y21, hy21⟩ : ∃ y, vs.getD 21 0 = y := ⟨_, rfl⟩
  have d21 : W2.cell? ⟨b29, o29 + 21, none⟩ = some (.int .i64 y21) := by
    obtain ⟨b, o, e, h⟩ := hV2.out.2.2.2.2 21 (by have := hV2.out.1; omega)
    cases e
    rw [hy21] at h
    exact h
  replace hy21 := hid hy21
  obtain ⟨y22, hy22⟩ : ∃ y, vs.getD 22 0 = y := ⟨_, rfl⟩
  have d22 : W2.cell? ⟨b29, o29 + 22, none⟩ = some (.int .i64 y22) := by
    obtain ⟨b, o, e, h⟩ := hV2.out.2.2.2.2 22 (by have := hV2.out.1; omega)
    cases e
    rw [hy22] at h
    exact h
  replace hy22 := hid hy22
  obtain ⟨y23, hy23⟩ : ∃ y, vs.getD 23 0 = y := ⟨_, rfl⟩
  have d23 : W2.cell? ⟨b29, o29 + 23, none⟩ = some (.int .i64 y23) := by
    obtain ⟨b, o, e, h⟩ := hV2.out.2.2.2.2 23 (by have := hV2.out.1; omega)
    cases e
    rw [hy23] at h
    exact h
  replace hy23 := hid hy23
  obtain ⟨y24, hy24⟩ : ∃ y, vs.getD 24 0 = y := ⟨_, rfl⟩
  have d24 : W2.cell? ⟨b29, o29 + 24, none⟩ = some (.int .i64 y24) := by
    obtain ⟨b, o, e, h⟩ := hV2.out.2.2.2.2 24 (by have := hV2.out.1; omega)
    cases e
    rw [hy24] at h
    exact h
  replace hy24 := hid hy24
  obtain ⟨y25, hy25⟩ : ∃ y, vs.getD 25 0 = y := ⟨_, rfl⟩
  have d25 : W2.cell? ⟨b29, o29 + 25, none⟩ = some (.int .i64 y25) := by
    obtain ⟨b, o, e, h⟩ := hV2.out.2.2.2.2 25 (by have := hV2.out.1; omega)
    cases e
    rw [hy25] at h
    exact h
  replace hy25 := hid hy25
  obtain ⟨y26, hy26⟩ : ∃ y, vs.getD 26 0 = y := ⟨_, rfl⟩
  have d26 : W2.cell? ⟨b29, o29 + 26, none⟩ = some (.int .i64 y26) := by
    obtain ⟨b, o, e, h⟩ := hV2.out.2.2.2.2 26 (by have := hV2.out.1; omega)
    cases e
    rw [hy26] at h
    exact h
  replace hy26 := hid hy26
  obtain ⟨y27, hy27⟩ : ∃ y, vs.getD 27 0 = y := ⟨_, rfl⟩
  have d27 : W2.cell? ⟨b29, o29 + 27, none⟩ = some (.int .i64 y27) := by
    obtain ⟨b, o, e, h⟩ := hV2.out.2.2.2.2 27 (by have := hV2.out.1; omega)
    cases e
    rw [hy27] at h
    exact h
  replace hy27 := hid hy27
  obtain ⟨y28, hy28⟩ : ∃ y, vs.getD 28 0 = y := ⟨_, rfl⟩
  have d28 : W2.cell? ⟨b29, o29 + 28, none⟩ = some (.int .i64 y28) := by
    obtain ⟨b, o, e, h⟩ := hV2.out.2.2.2.2 28 (by have := hV2.out.1; omega)
    cases e
    rw [hy28] at h
    exact h
  replace hy28 := hid hy28
  obtain ⟨y30, hy30⟩ : ∃ y, vs.getD 30 0 = y := ⟨_, rfl⟩
  have d30 : W2.cell? ⟨b29, o29 + 30, none⟩ = some (.int .i64 y30) := by
    obtain ⟨b, o, e, h⟩ := hV2.out.2.2.2.2 30 (by have := hV2.out.1; omega)
    cases e
    rw [hy30] at h
    exact h
  replace hy30 := hid hy30
  obtain ⟨y31, hy31⟩ : ∃ y, vs.getD 31 0 = y := ⟨_, rfl⟩
  have d31 : W2.cell? ⟨b29, o29 + 31, none⟩ = some (.int .i64 y31) := by
    obtain ⟨b, o, e, h⟩ := hV2.out.2.2.2.2 31 (by have := hV2.out.1; omega)
    cases e
    rw [hy31] at h
    exact h
  replace hy31 := hid hy31
  obtain ⟨y32, hy32⟩ : ∃ y, vs.getD 32 0 = y := ⟨_, rfl⟩
  have d32 : W2.cell? ⟨b29, o29 + 32, none⟩ = some (.int .i64 y32) := by
    obtain ⟨b, o, e, h⟩ := hV2.out.2.2.2.2 32 (by have := hV2.out.1; omega)
    cases e
    rw [hy32] at h
    exact h
  replace hy32 := hid hy32
  rw [Nat.add_zero] at d0
  replace hV2 := hid hV2
  go_upto_region 3 with (fail)
  have hB := hA.out
  apply wp_region_part (w := W2) (S := (.q [] :: .q [] :: .q [] :: .q [] :: .q [] :: .q [] :: .q [] :: .q [] :: .q [] :: .q [] :: .q [] :: .q [] :: .q [] :: .q [] :: .q [] :: .q [] :: .q [] :: .q [] :: .q [] :: .q [] :: .q [] :: .q [] :: .q [] :: .q [] :: .q [] :: .q [] :: .q [] :: .q [] :: .q [] :: .q [] :: .q [] :: .q [] :: .q [] :: .q [] :: .q [] :: .q [] :: .q [] :: .q [] :: .q [] :: .q [] :: .q [] :: .q [] :: .q [] :: .q [] :: .q [] :: .q [] :: .q [] :: .q [] :: .q [] :: .q [] :: .q [] :: .q [] :: .q [] :: .q [] :: .q [] :: .q [] :: .q [] :: .q [] :: .q [] :: .q [] :: .q [] :: .q [] :: .q [] :: .q [] :: .q [] :: .q [] :: .q [] :: .q [] :: .q [] :: .q [] :: .q [] :: .q [] :: .q [] :: .q [] :: .q [] :: .q [] :: .q [] :: .q [] :: .q [] :: .q [] :: .q [] :: .q [] :: .q [] :: .q [] :: .q [] :: .q [] :: .q [] :: .q [] :: .q [] :: .q [] :: .q [] :: .q [] :: .q [] :: .q [] :: .q [] :: .q [] :: [])) (E := (.q0 _ :: .q0 _ :: .q0 _ :: .q0 _ :: .q0 _ :: .q0 _ :: .q0 _ :: .q0 _ :: .q0 _ :: .q0 _ :: .q0 _ :: .q0 _ :: .q0 _ :: .q0 _ :: .q0 _ :: .q0 _ :: .q0 _ :: .q0 _ :: .q0 _ :: .q0 _ :: .q0 _ :: .q0 _ :: .q0 _ :: .q0 _ :: .q0 _ :: .q0 _ :: .q0 _ :: .q0 _ :: .q0 _ :: .q0 _ :: .q0 _ :: .q0 _ :: .q0 _ :: .q0 _ :: .q0 _ :: .q0 _ :: .q0 _ :: .q0 _ :: .q0 _ :: .q0 _ :: .q0 _ :: .q0 _ :: .q0 _ :: .q0 _ :: .q0 _ :: .q0 _ :: .q0 _ :: .q0 _ :: .q0 _ :: .q0 _ :: .q0 _ :: .q0 _ :: .q0 _ :: .q0 _ :: .q0 _ :: .q0 _ :: .q0 _ :: .q0 _ :: .q0 _ :: .q0 _ :: .q0 _ :: .q0 _ :: .q0 _ :: .q0 _ :: .q0 _ :: .q0 _ :: .q0 _ :: .q0 _ :: .q0 _ :: .q0 _ :: .q0 _ :: .q0 _ :: .q0 _ :: .q0 _ :: .q0 _ :: .q0 _ :: .q0 _ :: .q0 _ :: .q0 _ :: .q0 _ :: .q0 _ :: .q0 _ :: .q0 _ :: .q0 _ :: .q0 _ :: .q0 _ :: .q0 _ :: .q0 _ :: .q0 _ :: .q0 _ :: .q0 _ :: .q0 _ :: .q0 _ :: .q0 _ :: .q0 _ :: .q0 _ :: [])) 96 3 (by kernel_rfl) rfl (by kernel_rfl) rfl rfl rfl
  intro th hge hne
  refine Seg.step _ rfl (Or.inl ⟨by rfl, fun U hU => vp_quiet (by (go_simp <;> exact rfl))⟩) ⟨_, by (simp only [Ent.val]; go_simp <;> exact rfl), ?_⟩
  refine Seg.step _ rfl (Or.inl ⟨by rfl, fun U hU => vp_quiet (by (go_simp <;> exact rfl))⟩) ⟨_, by (simp only [Ent.val]; go_simp <;> exact rfl), ?_⟩
  refine Seg.step _ rfl (Or.inl ⟨by rfl, fun U hU => vp_quiet (by (have h0 := (Below.cell hU.1 (World.block_lt_of_cell? _ _ d0)).trans d0; go_simp <;> exact rfl))⟩) ⟨_, by (simp only [Ent.val]; go_simp <;> exact rfl), ?_⟩
  refine Seg.step _ rfl (Or.inl ⟨by rfl, fun U hU => vp_quiet (by (go_simp <;> exact rfl))⟩) ⟨_, by (simp only [Ent.val]; go_simp <;> exact rfl), ?_⟩
  refine Seg.step _ rfl (Or.inl ⟨by rfl, fun U hU => vp_quiet (by (go_simp <;> exact rfl))⟩) ⟨_, by (simp only [Ent.val]; go_simp <;> exact rfl), ?_⟩
  refine Seg.step _ rfl (Or.inl ⟨by rfl, fun U hU => vp_quiet (by (have h0 := (Below.cell hU.1 (World.block_lt_of_cell? _ _ d1)).trans d1; go_simp <;> exact rfl))⟩) ⟨_, by (simp only [Ent.val]; go_simp <;> exact rfl), ?_⟩
  refine Seg.step _ rfl (Or.inl ⟨by rfl, fun U hU => vp_quiet (by (go_simp <;> exact rfl))⟩) ⟨_, by (simp only [Ent.val]; go_simp <;> exact rfl), ?_⟩
  refine Seg.step _ rfl (Or.inl ⟨by rfl, fun U hU => vp_quiet (by (go_simp <;> exact rfl))⟩) ⟨_, by (simp only [Ent.val]; go_simp <;> exact rfl), ?_⟩
  refine Seg.step _ rfl (Or.inl ⟨by rfl, fun U hU => vp_quiet (by (have h0 := (Below.cell hU.1 (World.block_lt_of_cell? _ _ d2)).trans d2; go_simp <;> exact rfl))⟩) ⟨_, by (simp only [Ent.val]; go_simp <;> exact rfl), ?_⟩
  refine Seg.step _ rfl (Or.inl ⟨by rfl, fun U hU => vp_quiet (by (go_simp <;> exact rfl))⟩) ⟨_, by (simp only [Ent.val]; go_simp <;> exact rfl), ?_⟩
  refine Seg.step _ rfl (Or.inl ⟨by rfl, fun U hU => vp_quiet (by (go_simp <;> exact rfl))⟩) ⟨_, by (simp only [Ent.val]; go_simp <;> exact rfl), ?_⟩
  refine Seg.step _ rfl (Or.inl ⟨by rfl, fun U hU => vp_quiet (by (have h0 := (Below.cell hU.1 (World.block_lt_of_cell? _ _ d3)).trans d3; go_simp <;> exact rfl))⟩) ⟨_, by (simp only [Ent.val]; go_simp <;> exact rfl), ?_⟩
  refine Seg.step _ rfl (Or.inl ⟨by rfl, fun U hU => vp_quiet (by (go_simp <;> exact rfl))⟩) ⟨_, by (simp only [Ent.val]; go_simp <;> exact rfl), ?_⟩
  refine Seg.step _ rfl (Or.inl ⟨by rfl, fun U hU => vp_quiet (by (go_simp <;> exact rfl))⟩) ⟨_, by (simp only [Ent.val]; go_simp <;> exact rfl), ?_⟩
  refine Seg.step _ rfl (Or.inl ⟨by rfl, fun U hU => vp_quiet (by (have h0 := (Below.cell hU.1 (World.block_lt_of_cell? _ _ d4)).trans d4; go_simp <;> exact rfl))⟩) ⟨_, by (simp only [Ent.val]; go_simp <;> exact rfl), ?_⟩
  refine Seg.step _ rfl (Or.inl ⟨by rfl, fun U hU => vp_quiet (by (go_simp <;> exact rfl))⟩) ⟨_, by (simp only [Ent.val]; go_simp <;> exact rfl), ?_⟩
  refine Seg.step _ rfl (Or.inl ⟨by rfl, fun U hU => vp_quiet (by (go_simp <;> exact rfl))⟩) ⟨_, by (simp only [Ent.val]; go_simp <;> exact rfl), ?_⟩
  refine Seg.step _ rfl (Or.inl ⟨by rfl, fun U hU => vp_quiet (by (have h0 := (Below.cell hU.1 (World.block_lt_of_cell? _ _ d5)).trans d5; go_simp <;> exact rfl))⟩) ⟨_, by (simp only [Ent.val]; go_simp <;> exact rfl), ?_⟩
  refine Seg.step _ rfl (Or.inl ⟨by rfl, fun U hU => vp_quiet (by (go_simp <;> exact rfl))⟩) ⟨_, by (simp only [Ent.val]; go_simp <;> exact rfl), ?_⟩
  refine Seg.step _ rfl (Or.inl ⟨by rfl, fun U hU => vp_quiet (by (go_simp <;> exact rfl))⟩) ⟨_, by (simp only [Ent.val]; go_simp <;> exact rfl), ?_⟩
  refine Seg.step _ rfl (Or.inl ⟨by rfl, fun U hU => vp_quiet (by (have h0 := (Below.cell hU.1 (World.block_lt_of_cell? _ _ d6)).trans d6; go_simp <;> exact rfl))⟩) ⟨_, by (simp only [Ent.val]; go_simp <;> exact rfl), ?_⟩
  refine Seg.step _ rfl (Or.inl ⟨by rfl, fun U hU => vp_quiet (by (go_simp <;> exact rfl))⟩) ⟨_, by (simp only [Ent.val]; go_simp <;> exact rfl), ?_⟩
  refine Seg.step _ rfl (Or.inl ⟨by rfl, fun U hU => vp_quiet (by (go_simp <;> exact rfl))⟩) ⟨_, by (simp only [Ent.val]; go_simp <;> exact rfl), ?_⟩
  refine Seg.step _ rfl (Or.inl ⟨by rfl, fun U hU => vp_quiet (by (have h0 := (Below.cell hU.1 (World.block_lt_of_cell? _ _ d7)).trans d7; go_simp <;> exact rfl))⟩) ⟨_, by (simp only [Ent.val]; go_simp <;> exact rfl), ?_⟩
  refine Seg.step _ rfl (Or.inl ⟨by rfl, fun U hU => vp_quiet (by (go_simp <;> exact rfl))⟩) ⟨_, by (simp only [Ent.val]; go_simp <;> exact rfl), ?_⟩
  refine Seg.step _ rfl (Or.inl ⟨by rfl, fun U hU => vp_quiet (by (go_simp <;> exact rfl))⟩) ⟨_, by (simp only [Ent.val]; go_simp <;> exact rfl), ?_⟩
  refine Seg.step _ rfl (Or.inl ⟨by rfl, fun U hU => vp_quiet (by (have h0 := (Below.cell hU.1 (World.block_lt_of_cell? _ _ d8)).trans d8; go_simp <;> exact rfl))⟩) ⟨_, by (simp only [Ent.val]; go_simp <;> exact rfl), ?_⟩
  refine Seg.step _ rfl (Or.inl ⟨by rfl, fun U hU => vp_quiet (by (go_simp <;> exact rfl))⟩) ⟨_, by (simp only [Ent.val]; go_simp <;> exact rfl), ?_⟩
  refine Seg.step _ rfl (Or.inl ⟨by rfl, fun U hU => vp_quiet (by (go_simp <;> exact rfl))⟩) ⟨_, by (simp only [Ent.val]; go_simp <;> exact rfl), ?_⟩
  refine Seg.step _ rfl (Or.inl ⟨by rfl, fun U hU => vp_quiet (by (have h0 := (Below.cell hU.1 (World.block_lt_of_cell? _ _ d9)).trans d9; go_simp <;> exact rfl))⟩) ⟨_, by (simp only [Ent.val]; go_simp <;> exact rfl), ?_⟩
  refine Seg.step _ rfl (Or.inl ⟨by rfl, fun U hU => vp_quiet (by (go_simp <;> exact rfl))⟩) ⟨_, by (simp only [Ent.val]; go_simp <;> exact rfl), ?_⟩
  refine Seg.step _ rfl (Or.inl ⟨by rfl, fun U hU => vp_quiet (by (go_simp <;> exact rfl))⟩) ⟨_, by (simp only [Ent.val]; go_simp <;> exact rfl), ?_⟩
  refine Seg.step _ rfl (Or.inl ⟨by rfl, fun U hU => vp_quiet (by (have h0 := (Below.cell hU.1 (World.block_lt_of_cell? _ _ d10)).trans d10; go_simp <;> exact rfl))⟩) ⟨_, by (simp only [Ent.val]; go_simp <;> exact rfl), ?_⟩
  refine Seg.step _ rfl (Or.inl ⟨by rfl, fun U hU => vp_quiet (by (go_simp <;> exact rfl))⟩) ⟨_, by (simp only [Ent.val]; go_simp <;> exact rfl), ?_⟩
  refine Seg.step _ rfl (Or.inl ⟨by rfl, fun U hU => vp_quiet (by (go_simp <;> exact rfl))⟩) ⟨_, by (simp only [Ent.val]; go_simp <;> exact rfl), ?_⟩
  refine Seg.step _ rfl (Or.inl ⟨by rfl, fun U hU => vp_quiet (by (have h0 := (Below.cell hU.1 (World.block_lt_of_cell? _ _ d11)).trans d11; go_simp <;> exact rfl))⟩) ⟨_, by (simp only [Ent.val]; go_simp <;> exact rfl), ?_⟩
  refine Seg.step _ rfl (Or.inl ⟨by rfl, fun U hU => vp_quiet (by (go_simp <;> exact rfl))⟩) ⟨_, by (simp only [Ent.val]; go_simp <;> exact rfl), ?_⟩
  refine Seg.step _ rfl (Or.inl ⟨by rfl, fun U hU => vp_quiet (by (go_simp <;> exact rfl))⟩) ⟨_, by (simp only [Ent.val]; go_simp <;> exact rfl), ?_⟩
  refine Seg.step _ rfl (Or.inl ⟨by rfl, fun U hU => vp_quiet (by (have h0 := (Below.cell hU.1 (World.block_lt_of_cell? _ _ d12)).trans d12; go_simp <;> exact rfl))⟩) ⟨_, by (simp only [Ent.val]; go_simp <;> exact rfl), ?_⟩
  refine Seg.step _ rfl (Or.inl ⟨by rfl, fun U hU => vp_quiet (by (go_simp <;> exact rfl))⟩) ⟨_, by (simp only [Ent.val]; go_simp <;> exact rfl), ?_⟩
  refine Seg.step _ rfl (Or.inl ⟨by rfl, fun U hU => vp_quiet (by (go_simp <;> exact rfl))⟩) ⟨_, by (simp only [Ent.val]; go_simp <;> exact rfl), ?_⟩
  refine Seg.step _ rfl (Or.inl ⟨by rfl, fun U hU => vp_quiet (by (have h0 := (Below.cell hU.1 (World.block_lt_of_cell? _ _ d13)).trans d13; go_simp <;> exact rfl))⟩) ⟨_, by (simp only [Ent.val]; go_simp <;> exact rfl), ?_⟩
  refine Seg.step _ rfl (Or.inl ⟨by rfl, fun U hU => vp_quiet (by (go_simp <;> exact rfl))⟩) ⟨_, by (simp only [Ent.val]; go_simp <;> exact rfl), ?_⟩
  refine Seg.step _ rfl (Or.inl ⟨by rfl, fun U hU => vp_quiet (by (go_simp <;> exact rfl))⟩) ⟨_, by (simp only [Ent.val]; go_simp <;> exact rfl), ?_⟩
  refine Seg.step _ rfl (Or.inl ⟨by rfl, fun U hU => vp_quiet (by (have h0 := (Below.cell hU.1 (World.block_lt_of_cell? _ _ d14)).trans d14; go_simp <;> exact rfl))⟩) ⟨_, by (simp only [Ent.val]; go_simp <;> exact rfl), ?_⟩
  refine Seg.step _ rfl (Or.inl ⟨by rfl, fun U hU => vp_quiet (by (go_simp <;> exact rfl))⟩) ⟨_, by (simp only [Ent.val]; go_simp <;> exact rfl), ?_⟩
  refine Seg.step _ rfl (Or.inl ⟨by rfl, fun U hU => vp_quiet (by (go_simp <;> exact rfl))⟩) ⟨_, by (simp only [Ent.val]; go_simp <;> exact rfl), ?_⟩
  refine Seg.step _ rfl (Or.inl ⟨by rfl, fun U hU => vp_quiet (by (have h0 := (Below.cell hU.1 (World.block_lt_of_cell? _ _ d15)).trans d15; go_simp <;> exact rfl))⟩) ⟨_, by (simp only [Ent.val]; go_simp <;> exact rfl), ?_⟩
  refine Seg.step _ rfl (Or.inl ⟨by rfl, fun U hU => vp_quiet (by (go_simp <;> exact rfl))⟩) ⟨_, by (simp only [Ent.val]; go_simp <;> exact rfl), ?_⟩
  refine Seg.step _ rfl (Or.inl ⟨by rfl, fun U hU => vp_quiet (by (go_simp <;> exact rfl))⟩) ⟨_, by (simp only [Ent.val]; go_simp <;> exact rfl), ?_⟩
  refine Seg.step _ rfl (Or.inl ⟨by rfl, fun U hU => vp_quiet (by (have h0 := (Below.cell hU.1 (World.block_lt_of_cell? _ _ d16)).trans d16; go_simp <;> exact rfl))⟩) ⟨_, by (simp only [Ent.val]; go_simp <;> exact rfl), ?_⟩
  refine Seg.step _ rfl (Or.inl ⟨by rfl, fun U hU => vp_quiet (by (go_simp <;> exact rfl))⟩) ⟨_, by (simp only [Ent.val]; go_simp <;> exact rfl), ?_⟩
  refine Seg.step _ rfl (Or.inl ⟨by rfl, fun U hU => vp_quiet (by (go_simp <;> exact rfl))⟩) ⟨_, by (simp only [Ent.val]; go_simp <;> exact rfl), ?_⟩
  refine Seg.step _ rfl (Or.inl ⟨by rfl, fun U hU => vp_quiet (by (have h0 := (Below.cell hU.1 (World.block_lt_of_cell? _ _ d17)).trans d17; go_simp <;> exact rfl))⟩) ⟨_, by (simp only [Ent.val]; go_simp <;> exact rfl), ?_⟩
  refine Seg.step _ rfl (Or.inl ⟨by rfl, fun U hU => vp_quiet (by (go_simp <;> exact rfl))⟩) ⟨_, by (simp only [Ent.val]; go_simp <;> exact rfl), ?_⟩
  refine Seg.step _ rfl (Or.inl ⟨by rfl, fun U hU => vp_quiet (by (go_simp <;> exact rfl))⟩) ⟨_, by (simp only [Ent.val]; go_simp <;> exact rfl), ?_⟩
  refine Seg.step _ rfl (Or.inl ⟨by rfl, fun U hU => vp_quiet (by (have h0 := (Below.cell hU.1 (World.block_lt_of_cell? _ _ d18)).trans d18; go_simp <;> exact rfl))⟩) ⟨_, by (simp only [Ent.val]; go_simp <;> exact rfl), ?_⟩
  refine Seg.step _ rfl (Or.inl ⟨by rfl, fun U hU => vp_quiet (by (go_simp <;> exact rfl))⟩) ⟨_, by (simp only [Ent.val]; go_simp <;> exact rfl), ?_⟩
  refine Seg.step _ rfl (Or.inl ⟨by rfl, fun U hU => vp_quiet (by (go_simp <;> exact rfl))⟩) ⟨_, by (simp only [Ent.val]; go_simp <;> exact rfl), ?_⟩
  refine Seg.step _ rfl (Or.inl ⟨by rfl, fun U hU => vp_quiet (by (have h0 := (Below.cell hU.1 (World.block_lt_of_cell? _ _ d19)).trans d19; go_simp <;> exact rfl))⟩) ⟨_, by (simp only [Ent.val]; go_simp <;> exact rfl), ?_⟩
  refine Seg.step _ rfl (Or.inl ⟨by rfl, fun U hU => vp_quiet (by (go_simp <;> exact rfl))⟩) ⟨_, by (simp only [Ent.val]; go_simp <;> exact rfl), ?_⟩
  refine Seg.step _ rfl (Or.inl ⟨by rfl, fun U hU => vp_quiet (by (go_simp <;> exact rfl))⟩) ⟨_, by (simp only [Ent.val]; go_simp <;> exact rfl), ?_⟩
  refine Seg.step _ rfl (Or.inl ⟨by rfl, fun U hU => vp_quiet (by (have h0 := (Below.cell hU.1 (World.block_lt_of_cell? _ _ d20)).trans d20; go_simp <;> exact rfl))⟩) ⟨_, by (simp only [Ent.val]; go_simp <;> exact rfl), ?_⟩
  refine Seg.step _ rfl (Or.inl ⟨by rfl, fun U hU => vp_quiet (by (go_simp <;> exact rfl))⟩) ⟨_, by (simp only [Ent.val]; go_simp <;> exact rfl), ?_⟩
  refine Seg.step _ rfl (Or.inl ⟨by rfl, fun U hU => vp_quiet (by (go_simp <;> exact rfl))⟩) ⟨_, by (simp only [Ent.val]; go_simp <;> exact rfl), ?_⟩
  refine Seg.step _ rfl (Or.inl ⟨by rfl, fun U hU => vp_quiet (by (have h0 := (Below.cell hU.1 (World.block_lt_of_cell? _ _ d21)).trans d21; go_simp <;> exact rfl))⟩) ⟨_, by (simp only [Ent.val]; go_simp <;> exact rfl), ?_⟩
  refine Seg.step _ rfl (Or.inl ⟨by rfl, fun U hU => vp_quiet (by (go_simp <;> exact rfl))⟩) ⟨_, by (simp only [Ent.val]; go_simp <;> exact rfl), ?_⟩
  refine Seg.step _ rfl (Or.inl ⟨by rfl, fun U hU => vp_quiet (by (go_simp <;> exact rfl))⟩) ⟨_, by (simp only [Ent.val]; go_simp <;> exact rfl), ?_⟩
  refine Seg.step _ rfl (Or.inl ⟨by rfl, fun U hU => vp_quiet (by (have h0 := (Below.cell hU.1 (World.block_lt_of_cell? _ _ d22)).trans d22; go_simp <;> exact rfl))⟩) ⟨_, by (simp only [Ent.val]; go_simp <;> exact rfl), ?_⟩
  refine Seg.step _ rfl (Or.inl ⟨by rfl, fun U hU => vp_quiet (by (go_simp <;> exact rfl))⟩) ⟨_, by (simp only [Ent.val]; go_simp <;> exact rfl), ?_⟩
  refine Seg.step _ rfl (Or.inl ⟨by rfl, fun U hU => vp_quiet (by (go_simp <;> exact rfl))⟩) ⟨_, by (simp only [Ent.val]; go_simp <;> exact rfl), ?_⟩
  refine Seg.step _ rfl (Or.inl ⟨by rfl, fun U hU => vp_quiet (by (have h0 := (Below.cell hU.1 (World.block_lt_of_cell? _ _ d23)).trans d23; go_simp <;> exact rfl))⟩) ⟨_, by (simp only [Ent.val]; go_simp <;> exact rfl), ?_⟩
  refine Seg.step _ rfl (Or.inl ⟨by rfl, fun U hU => vp_quiet (by (go_simp <;> exact rfl))⟩) ⟨_, by (simp only [Ent.val]; go_simp <;> exact rfl), ?_⟩
  refine Seg.step _ rfl (Or.inl ⟨by rfl, fun U hU => vp_quiet (by (go_simp <;> exact rfl))⟩) ⟨_, by (simp only [Ent.val]; go_simp <;> exact rfl), ?_⟩
  refine Seg.step _ rfl (Or.inl ⟨by rfl, fun U hU => vp_quiet (by (have h0 := (Below.cell hU.1 (World.block_lt_of_cell? _ _ d24)).trans d24; go_simp <;> exact rfl))⟩) ⟨_, by (simp only [Ent.val]; go_simp <;> exact rfl), ?_⟩
  refine Seg.step _ rfl (Or.inl ⟨by rfl, fun U hU => vp_quiet (by (go_simp <;> exact rfl))⟩) ⟨_, by (simp only [Ent.val]; go_simp <;> exact rfl), ?_⟩
  refine Seg.step _ rfl (Or.inl ⟨by rfl, fun U hU => vp_quiet (by (go_simp <;> exact rfl))⟩) ⟨_, by (simp only [Ent.val]; go_simp <;> exact rfl), ?_⟩
  refine Seg.step _ rfl (Or.inl ⟨by rfl, fun U hU => vp_quiet (by (have h0 := (Below.cell hU.1 (World.block_lt_of_cell? _ _ d25)).trans d25; go_simp <;> exact rfl))⟩) ⟨_, by (simp only [Ent.val]; go_simp <;> exact rfl), ?_⟩
  refine Seg.step _ rfl (Or.inl ⟨by rfl, fun U hU => vp_quiet (by (go_simp <;> exact rfl))⟩) ⟨_, by (simp only [Ent.val]; go_simp <;> exact rfl), ?_⟩
  refine Seg.step _ rfl (Or.inl ⟨by rfl, fun U hU => vp_quiet (by (go_simp <;> exact rfl))⟩) ⟨_, by (simp only [Ent.val]; go_simp <;> exact rfl), ?_⟩
  refine Seg.step _ rfl (Or.inl ⟨by rfl, fun U hU => vp_quiet (by (have h0 := (Below.cell hU.1 (World.block_lt_of_cell? _ _ d26)).trans d26; go_simp <;> exact rfl))⟩) ⟨_, by (simp only [Ent.val]; go_simp <;> exact rfl), ?_⟩
  refine Seg.step _ rfl (Or.inl ⟨by rfl, fun U hU => vp_quiet (by (go_simp <;> exact rfl))⟩) ⟨_, by (simp only [Ent.val]; go_simp <;> exact rfl), ?_⟩
  refine Seg.step _ rfl (Or.inl ⟨by rfl, fun U hU => vp_quiet (by (go_simp <;> exact rfl))⟩) ⟨_, by (simp only [Ent.val]; go_simp <;> exact rfl), ?_⟩
  refine Seg.step _ rfl (Or.inl ⟨by rfl, fun U hU => vp_quiet (by (have h0 := (Below.cell hU.1 (World.block_lt_of_cell? _ _ d27)).trans d27; go_simp <;> exact rfl))⟩) ⟨_, by (simp only [Ent.val]; go_simp <;> exact rfl), ?_⟩
  refine Seg.step _ rfl (Or.inl ⟨by rfl, fun U hU => vp_quiet (by (go_simp <;> exact rfl))⟩) ⟨_, by (simp only [Ent.val]; go_simp <;> exact rfl), ?_⟩
  refine Seg.step _ rfl (Or.inl ⟨by rfl, fun U hU => vp_quiet (by (go_simp <;> exact rfl))⟩) ⟨_, by (simp only [Ent.val]; go_simp <;> exact rfl), ?_⟩
  refine Seg.step _ rfl (Or.inl ⟨by rfl, fun U hU => vp_quiet (by (have h0 := (Below.cell hU.1 (World.block_lt_of_cell? _ _ d28)).trans d28; go_simp <;> exact rfl))⟩) ⟨_, by (simp only [Ent.val]; go_simp <;> exact rfl), ?_⟩
  refine Seg.step _ rfl (Or.inl ⟨by rfl, fun U hU => vp_quiet (by (go_simp <;> exact rfl))⟩) ⟨_, by (simp only [Ent.val]; go_simp <;> exact rfl), ?_⟩
  refine Seg.step _ rfl (Or.inl ⟨by rfl, fun U hU => vp_quiet (by (go_simp <;> exact rfl))⟩) ⟨_, by (simp only [Ent.val]; go_simp <;> exact rfl), ?_⟩
  refine Seg.step _ rfl (Or.inl ⟨by rfl, fun U hU => vp_quiet (by (have h0 := (Below.cell hU.1 (World.block_lt_of_cell? _ _ d30)).trans d30; go_simp <;> exact rfl))⟩) ⟨_, by (simp only [Ent.val]; go_simp <;> exact rfl), ?_⟩
  refine Seg.step _ rfl (Or.inl ⟨by rfl, fun U hU => vp_quiet (by (go_simp <;> exact rfl))⟩) ⟨_, by (simp only [Ent.val]; go_simp <;> exact rfl), ?_⟩
  refine Seg.step _ rfl (Or.inl ⟨by rfl, fun U hU => vp_quiet (by (go_simp <;> exact rfl))⟩) ⟨_, by (simp only [Ent.val]; go_simp <;> exact rfl), ?_⟩
  refine Seg.step _ rfl (Or.inl ⟨by rfl, fun U hU => vp_quiet (by (have h0 := (Below.cell hU.1 (World.block_lt_of_cell? _ _ d31)).trans d31; go_simp <;> exact rfl))⟩) ⟨_, by (simp only [Ent.val]; go_simp <;> exact rfl), ?_⟩
  refine Seg.step _ rfl (Or.inl ⟨by rfl, fun U hU => vp_quiet (by (go_simp <;> exact rfl))⟩) ⟨_, by (simp only [Ent.val]; go_simp <;> exact rfl), ?_⟩
  refine Seg.step _ rfl (Or.inl ⟨by rfl, fun U hU => vp_quiet (by (go_simp <;> exact rfl))⟩) ⟨_, by (simp only [Ent.val]; go_simp <;> exact rfl), ?_⟩
  refine Seg.step _ rfl (Or.inl ⟨by rfl, fun U hU => vp_quiet (by (have h0 := (Below.cell hU.1 (World.block_lt_of_cell? _ _ d32)).trans d32; go_simp <;> exact rfl))⟩) ⟨_, by (simp only [Ent.val]; go_simp <;> exact rfl), ?_⟩
  refine Seg.stop (fun U1 hU hk => ?_)
  clear hk hge hne
  have sz1 := hU.size
  replace hB := bthen hB hU
  have hRu := hid (held_after hU hRc.out)
  refine Seg.only (m := 96) (k := 2) rfl (by kernel_rfl) (by rfl) (fun K hK => ?_)
  refine wp_built16b 23 _ rfl #[.int .i64 y0, .int .i64 y1, .int .i64 y2, .int .i64 y3, .int .i64 y4, .int .i64 y5, .int .i64 y6, .int .i64 y7, .int .i64 y8, .int .i64 y9, .int .i64 y10, .int .i64 y11, .int .i64 y12, .int .i64 y13, .int .i64 y14, .int .i64 y15, .int .i64 y16, .int .i64 y17, .int .i64 y18, .int .i64 y19, .int .i64 y20, .int .i64 y21, .int .i64 y22, .int .i64 y23, .int .i64 y24, .int .i64 y25, .int .i64 y26, .int .i64 y27, .int .i64 y28, .int .i64 y30, .int .i64 y31, .int .i64 y32] (by kernel_rfl) ?_
  refine hK _ _ ?_
  clear hK
  refine Seg.only (m := 97) (k := 1) rfl (by kernel_rfl) (by rfl) (fun K hK => ?_)
  refine wp_store_row 23 (.tmp 2) (.tmp 110) rfl T #[.int .i64 y0, .int .i64 y1, .int .i64 y2, .int .i64 y3, .int .i64 y4, .int .i64 y5, .int .i64 y6, .int .i64 y7, .int .i64 y8, .int .i64 y9, .int .i64 y10, .int .i64 y11, .int .i64 y12, .int .i64 y13, .int .i64 y14, .int .i64 y15, .int .i64 y16, .int .i64 y17, .int .i64 y18, .int .i64 y19, .int .i64 y20, .int .i64 y21, .int .i64 y22, .int .i64 y23, .int .i64 y24, .int .i64 y25, .int .i64 y26, .int .i64 y27, .int .i64 y28, .int .i64 y30, .int .i64 y31, .int .i64 y32] rfl rfl 23 zC hRu.out (by kernel_rfl) rfl (allOne16 [y0, y1, y2, y3, y4, y5, y6, y7, y8, y9, y10, y11, y12, y13, y14, y15, y16, y17, y18, y19, y20, y21, y22, y23, y24, y25, y26, y27, y28, y30, y31, y32]) ?_
  refine hK _ _ ?_
  clear hK
  refine Seg.only (m := 98) (k := 0) rfl (by kernel_rfl) (by rfl) (fun K hK => ?_)
  go_simp
  refine hK _ _ ?_
  clear hK
  refine Seg.finish ?_ _
  have hR9 := hid (setRow_heap U1 T zC #[.int .i64 y0, .int .i64 y1, .int .i64 y2, .int .i64 y3, .int .i64 y4, .int .i64 y5, .int .i64 y6, .int .i64 y7, .int .i64 y8, .int .i64 y9, .int .i64 y10, .int .i64 y11, .int .i64 y12, .int .i64 y13, .int .i64 y14, .int .i64 y15, .int .i64 y16, .int .i64 y17, .int .i64 y18, .int .i64 y19, .int .i64 y20, .int .i64 y21, .int .i64 y22, .int .i64 y23, .int .i64 y24, .int .i64 y25, .int .i64 y26, .int .i64 y27, .int .i64 y28, .int .i64 y30, .int .i64 y31, .int .i64 y32] 23 (0, 0) hRu.out)
  have hA9 := hid (setRow_after (U := U1) hB (cs := #[.int .i64 y0, .int .i64 y1, .int .i64 y2, .int .i64 y3, .int .i64 y4, .int .i64 y5, .int .i64 y6, .int .i64 y7, .int .i64 y8, .int .i64 y9, .int .i64 y10, .int .i64 y11, .int .i64 y12, .int .i64 y13, .int .i64 y14, .int .i64 y15, .int .i64 y16, .int .i64 y17, .int .i64 y18, .int .i64 y19, .int .i64 y20, .int .i64 y21, .int .i64 y22, .int .i64 y23, .int .i64 y24, .int .i64 y25, .int .i64 y26, .int .i64 y27, .int .i64 y28, .int .i64 y30, .int .i64 y31, .int .i64 y32]) (by have := hTe.out; omega) hRu.out)
  obtain ⟨W9, hW9⟩ : ∃ X, U1.setRow T #[.int .i64 y0, .int .i64 y1, .int .i64 y2, .int .i64 y3, .int .i64 y4, .int .i64 y5, .int .i64 y6, .int .i64 y7, .int .i64 y8, .int .i64 y9, .int .i64 y10, .int .i64 y11, .int .i64 y12, .int .i64 y13, .int .i64 y14, .int .i64 y15, .int .i64 y16, .int .i64 y17, .int .i64 y18, .int .i64 y19, .int .i64 y20, .int .i64 y21, .int .i64 y22, .int .i64 y23, .int .i64 y24, .int .i64 y25, .int .i64 y26, .int .i64 y27, .int .i64 y28, .int .i64 y30, .int .i64 y31, .int .i64 y32] = X := ⟨_, rfl⟩
  rw [hW9] at hR9 hA9 ⊢
  clear hW9
  go_wp2_with fail
  refine bodyPost_ret (v := .tuple #[.agg #[.int .i64 y0, .int .i64 y1, .int .i64 y2, .int .i64 y3, .int .i64 y4, .int .i64 y5, .int .i64 y6, .int .i64 y7, .int .i64 y8, .int .i64 y9, .int .i64 y10, .int .i64 y11, .int .i64 y12, .int .i64 y13, .int .i64 y14, .int .i64 y15, .int .i64 y16, .int .i64 y17, .int .i64 y18, .int .i64 y19, .int .i64 y20, .int .i64 y21, .int .i64 y22, .int .i64 y23, .int .i64 y24, .int .i64 y25, .int .i64 y26, .int .i64 y27, .int .i64 y28, .int .i64 y30, .int .i64 y31, .int .i64 y32], .bool true]) (results_cr Try.results19 _ _ T 23 _ (0, 0) _ rfl hR9.out Try.underlying23 rfl (by kernel_rfl)) rfl ⟨?_, hA9.out⟩
  rw [hin.out]
  simp only [hy0.out, hy1.out, hy2.out, hy3.out, hy4.out, hy5.out, hy6.out, hy7.out, hy8.out, hy9.out, hy10.out, hy11.out, hy12.out, hy13.out, hy14.out, hy15.out, hy16.out, hy17.out, hy18.out, hy19.out, hy20.out, hy21.out, hy22.out, hy23.out, hy24.out, hy25.out, hy26.out, hy27.out, hy28.out, hy30.out, hy31.out, hy32.out]
  rfl

end Go.Proofs.Ytfihdgichmocmaa
