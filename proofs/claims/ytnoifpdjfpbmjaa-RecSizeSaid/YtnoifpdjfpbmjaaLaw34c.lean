/- The laws of layer 34: RecSize. -/
import Derived.Test.YtnoifpdjfpbmjaaLaw34
import Derived.Test.YtnoifpdjfpbmjaaRecB
import Derived.Laws.StructEq
import Derived.Deep.DeepCutAuto
namespace Go.Proofs.Ytnoifpdjfpbmjaa
open Go.ChangeShapes Go.WideShapes Go.ChangeAt Go.RowKit
set_option linter.unusedVariables false
set_option linter.unusedSimpArgs false

set_option maxRecDepth 100000 in
set_option maxHeartbeats 8000000 in
theorem law_RecSize (a0_0 : Int) (a0_1 : Int) (a0_2 : Int) (a0_3 : Int) (a0_4 : Int) (a0_5 : Int) (a0_6 : Int) (a0_7 : Int) (a0_8 : Int) (a0_9 : Int) (a0_10 : Int) (a0_11 : Int) (a0_12 : Int) (a1_0 : Int) (a1_1 : Int) (a1_2 : Int) (a1_3 : Int) (a1_4 : Int) (a1_5 : Int) (a1_6 : Int) (a1_7 : Int) (a1_8 : Int) (a1_9 : Int) (a1_10 : Int) (a1_11 : Int) (a1_12 : Int) (a2 : Int) (W : World) (w0_0 : (Lit.int .u32 a0_0).wf = true) (w0_1 : (Lit.int .i32 a0_1).wf = true) (w0_2 : (Lit.int .i32 a0_2).wf = true) (w0_3 : (Lit.int .i32 a0_3).wf = true) (w0_4 : (Lit.int .i32 a0_4).wf = true) (w0_5 : (Lit.int .i32 a0_5).wf = true) (w0_6 : (Lit.int .i32 a0_6).wf = true) (w0_7 : (Lit.int .i32 a0_7).wf = true) (w0_8 : (Lit.int .i32 a0_8).wf = true) (w0_9 : (Lit.int .i32 a0_9).wf = true) (w0_10 : (Lit.int .i32 a0_10).wf = true) (w0_11 : (Lit.int .i32 a0_11).wf = true) (w0_12 : (Lit.int .i32 a0_12).wf = true) (w1_0 : (Lit.int .u32 a1_0).wf = true) (w1_1 : (Lit.int .i32 a1_1).wf = true) (w1_2 : (Lit.int .i32 a1_2).wf = true) (w1_3 : (Lit.int .i32 a1_3).wf = true) (w1_4 : (Lit.int .i32 a1_4).wf = true) (w1_5 : (Lit.int .i32 a1_5).wf = true) (w1_6 : (Lit.int .i32 a1_6).wf = true) (w1_7 : (Lit.int .i32 a1_7).wf = true) (w1_8 : (Lit.int .i32 a1_8).wf = true) (w1_9 : (Lit.int .i32 a1_9).wf = true) (w1_10 : (Lit.int .i32 a1_10).wf = true) (w1_11 : (Lit.int .i32 a1_11).wf = true) (w1_12 : (Lit.int .i32 a1_12).wf = true) (w2 : (Lit.int .u8 a2).wf = true) :
    Calls Try.prog 6 #[.agg #[.int .u32 a0_0, .int .i32 a0_1, .int .i32 a0_2, .int .i32 a0_3, .int .i32 a0_4, .int .i32 a0_5, .int .i32 a0_6, .int .i32 a0_7, .int .i32 a0_8, .int .i32 a0_9, .int .i32 a0_10, .int .i32 a0_11, .int .i32 a0_12], .agg #[.int .u32 a1_0, .int .i32 a1_1, .int .i32 a1_2, .int .i32 a1_3, .int .i32 a1_4, .int .i32 a1_5, .int .i32 a1_6, .int .i32 a1_7, .int .i32 a1_8, .int .i32 a1_9, .int .i32 a1_10, .int .i32 a1_11, .int .i32 a1_12], .int .u8 a2] W fun e w' => e = .returned (.bool true) ∧ Below W.heap.size W w' := by
  have t0 := u32_bd w0_0
  have v0 := hid (show ∀ x ∈ [a0_1, a0_2, a0_3, a0_4, a0_5, a0_6, a0_7, a0_8, a0_9, a0_10, a0_11, a0_12], -2147483648 ≤ x ∧ x ≤ 2147483647 from by intro x hx; simp only [List.mem_cons, List.not_mem_nil, or_false] at hx; rcases hx with rfl | rfl | rfl | rfl | rfl | rfl | rfl | rfl | rfl | rfl | rfl | rfl <;> first | exact i32_bd w0_1 | exact i32_bd w0_2 | exact i32_bd w0_3 | exact i32_bd w0_4 | exact i32_bd w0_5 | exact i32_bd w0_6 | exact i32_bd w0_7 | exact i32_bd w0_8 | exact i32_bd w0_9 | exact i32_bd w0_10 | exact i32_bd w0_11 | exact i32_bd w0_12)
  clear w0_0 w0_1 w0_2 w0_3 w0_4 w0_5 w0_6 w0_7 w0_8 w0_9 w0_10 w0_11 w0_12
  have t1 := u32_bd w1_0
  have v1 := hid (show ∀ x ∈ [a1_1, a1_2, a1_3, a1_4, a1_5, a1_6, a1_7, a1_8, a1_9, a1_10, a1_11, a1_12], -2147483648 ≤ x ∧ x ≤ 2147483647 from by intro x hx; simp only [List.mem_cons, List.not_mem_nil, or_false] at hx; rcases hx with rfl | rfl | rfl | rfl | rfl | rfl | rfl | rfl | rfl | rfl | rfl | rfl <;> first | exact i32_bd w1_1 | exact i32_bd w1_2 | exact i32_bd w1_3 | exact i32_bd w1_4 | exact i32_bd w1_5 | exact i32_bd w1_6 | exact i32_bd w1_7 | exact i32_bd w1_8 | exact i32_bd w1_9 | exact i32_bd w1_10 | exact i32_bd w1_11 | exact i32_bd w1_12)
  clear w1_0 w1_1 w1_2 w1_3 w1_4 w1_5 w1_6 w1_7 w1_8 w1_9 w1_10 w1_11 w1_12
  have b2 := bounds_u8 w2
  clear w2
  go_enter Try.func6, Try.ntmps6
  go_upto_region 0 with (fail)
  apply wp_region_seg0 (w := W) (S := [.al 1000, .al 1000, .q []]) (E := [.al ((fun p => .pointer (some ⟨p, 0, none⟩)), _) 1000, .al ((fun p => .pointer (some ⟨p, 0, none⟩)), _) 1000, .q0 _]) rfl (by kernel_rfl) rfl rfl
  intro th hge hne
  refine Seg.step _ rfl ⟨by rfl, fun U hU => ?_⟩ ?_
  · go_simp; exact vp_alloc rfl rfl rfl
  refine ⟨_, by (simp only [Ent.val]; go_simp <;> exact rfl), ?_⟩
  refine Seg.step _ rfl ⟨by rfl, fun U hU => ?_⟩ ?_
  · go_simp; exact vp_alloc rfl rfl rfl
  refine ⟨_, by (simp only [Ent.val]; go_simp <;> exact rfl), ?_⟩
  refine Seg.step _ rfl (Or.inl ⟨by rfl, fun U hU => vp_quiet (by (go_simp <;> exact rfl))⟩) ⟨_, by (simp only [Ent.val]; go_simp <;> exact rfl), ?_⟩
  refine Seg.stop (fun U1 hU hk => ?_)
  have nb0 := hge 0 _ _ rfl
  have rb0 := (hk 0 _ _ rfl trivial).1.2 (by simp)
  have nb1 := hge 1 _ _ rfl
  have rb1 := (hk 1 _ _ rfl trivial).1.2 (by simp)
  have ne0_1 := hne 0 1 _ _ _ _ rfl rfl (by omega)
  clear hk hge hne
  generalize th (0 + 0) = p0_0 at *
  dsimp only at rb0
  generalize th (0 + 1) = p0_1 at *
  dsimp only at rb1
  have r_p0_0 := rb0
  clear rb0
  have n_p0_0 := nb0
  clear nb0
  have d_p0_0_p0_1 := ne0_1
  clear ne0_1
  have r_p0_1 := rb1
  clear rb1
  have n_p0_1 := nb1
  clear nb1
  have sz1 := hU.size
  have hB : Below W.heap.size W U1 := hU
  clear hU
  obtain ⟨kk, hkk⟩ : ∃ k, a2 % 128 = k := ⟨_, rfl⟩
  have hkb : 0 ≤ kk ∧ kk ≤ 127 := by omega
  have wm : a2.tmod 128 = kk := by rw [Int.tmod_eq_emod_of_nonneg (by omega)]; exact hkk
  have w8 : IntKind.u8.wrap kk = kk := by rw [IntKind.wrap_u8]; omega
  have w32 : IntKind.u32.wrap kk = kk := by rw [IntKind.wrap_u32]; omega
  obtain ⟨rt, hrt⟩ : ∃ r, (a0_0 + kk) % 4294967296 = r := ⟨_, rfl⟩
  have wr : IntKind.u32.wrap (a0_0 + kk) = rt := by rw [IntKind.wrap_u32]; exact hrt
  have hrb : 0 ≤ rt ∧ rt ≤ 4294967295 := by omega
  have hl2 : (deltaV a0_0 rt [a0_1, a0_2, a0_3, a0_4, a0_5, a0_6, a0_7, a0_8, a0_9, a0_10, a0_11, a0_12] [a0_1, a0_2, a0_3, a0_4, a0_5, a0_6, a0_7, a0_8, a0_9, a0_10, a0_11, a0_12]).length = 2 := deltaV_two [a0_1, a0_2, a0_3, a0_4, a0_5, a0_6, a0_7, a0_8, a0_9, a0_10, a0_11, a0_12] (by unfold lateV; omega)
  have hl := deltaV_len (t := a0_0) (u := a1_0) (get_bd v0.out) (get_bd v1.out)
  obtain ⟨D1, hD1⟩ : ∃ d, deltaV a0_0 a1_0 [a0_1, a0_2, a0_3, a0_4, a0_5, a0_6, a0_7, a0_8, a0_9, a0_10, a0_11, a0_12] [a1_1, a1_2, a1_3, a1_4, a1_5, a1_6, a1_7, a1_8, a1_9, a1_10, a1_11, a1_12] = d := ⟨_, rfl⟩
  obtain ⟨D2, hD2⟩ : ∃ d, deltaV a0_0 rt [a0_1, a0_2, a0_3, a0_4, a0_5, a0_6, a0_7, a0_8, a0_9, a0_10, a0_11, a0_12] [a0_1, a0_2, a0_3, a0_4, a0_5, a0_6, a0_7, a0_8, a0_9, a0_10, a0_11, a0_12] = d := ⟨_, rfl⟩
  rw [hD1] at hl
  rw [hD2] at hl2
  have k1 := fun U => delta_any a0_0 a1_0 a0_1 a0_2 a0_3 a0_4 a0_5 a0_6 a0_7 a0_8 a0_9 a0_10 a0_11 a0_12 a1_1 a1_2 a1_3 a1_4 a1_5 a1_6 a1_7 a1_8 a1_9 a1_10 a1_11 a1_12 U t0 t1 v0.out v1.out
  have k2 := fun U => delta_any a0_0 rt a0_1 a0_2 a0_3 a0_4 a0_5 a0_6 a0_7 a0_8 a0_9 a0_10 a0_11 a0_12 a0_1 a0_2 a0_3 a0_4 a0_5 a0_6 a0_7 a0_8 a0_9 a0_10 a0_11 a0_12 U t0 hrb v0.out v0.out
  rw [hD1] at k1
  rw [hD2] at k2
  obtain ⟨n1, hn1⟩ : ∃ n, D1.length = n := ⟨_, rfl⟩
  rw [hn1] at hl
  have g2 : (2 : Int) ≤ n1 := by omega
  have g67 : (n1 : Int) ≤ 67 := by omega
  replace hn1 := hid hn1
  replace hl2 := hid hl2
  replace k1 := hid k1
  replace k2 := hid k2
  clear hkk hrt hl b2
  have l0 := held_lt r_p0_0
  have l1 := held_lt r_p0_1
  have n0w := n_p0_0
  have nA := alloc_new U1 (.cells #[.int .u32 a0_0, .int .i32 a0_1, .int .i32 a0_2, .int .i32 a0_3, .int .i32 a0_4, .int .i32 a0_5, .int .i32 a0_6, .int .i32 a0_7, .int .i32 a0_8, .int .i32 a0_9, .int .i32 a0_10, .int .i32 a0_11, .int .i32 a0_12] 25)
  have hA := nA.2.1
  have r7 := nA.2.2
  obtain ⟨p7, hp7⟩ : ∃ q, U1.heap.size = q := ⟨_, rfl⟩
  rw [hp7] at r7
  have z0 := held_cell r_p0_0 0 _ rfl
  have z1 := held_cell r_p0_0 1 _ rfl
  have z2 := held_cell r_p0_0 2 _ rfl
  have z3 := held_cell r_p0_0 3 _ rfl
  have z4 := held_cell r_p0_0 4 _ rfl
  have z5 := held_cell r_p0_0 5 _ rfl
  have z6 := held_cell r_p0_0 6 _ rfl
  have z7 := held_cell r_p0_0 7 _ rfl
  have z8 := held_cell r_p0_0 8 _ rfl
  have z9 := held_cell r_p0_0 9 _ rfl
  have z10 := held_cell r_p0_0 10 _ rfl
  have z11 := held_cell r_p0_0 11 _ rfl
  have z12 := held_cell r_p0_0 12 _ rfl
  have s0 := held_after hA r_p0_0
  have s1 := held_after hA r_p0_1
  have hB2 := bthen hB hA
  have n7 : W.heap.size ≤ p7 := by omega
  have d70 : p0_0 ≠ p7 := by omega
  have d71 : p0_1 ≠ p7 := by omega
  clear nA hA r_p0_0 r_p0_1 hB
  go_upto_region 2 with (fail)
  try rw [hp7]
  obtain ⟨W2, hW2⟩ : ∃ X, U1.alloc (.cells #[.int .u32 a0_0, .int .i32 a0_1, .int .i32 a0_2, .int .i32 a0_3, .int .i32 a0_4, .int .i32 a0_5, .int .i32 a0_6, .int .i32 a0_7, .int .i32 a0_8, .int .i32 a0_9, .int .i32 a0_10, .int .i32 a0_11, .int .i32 a0_12] 25) = X := ⟨_, rfl⟩
  rw [hW2] at r7 s0 s1 hB2 ⊢
  clear hW2 hp7 z0 z1 z2 z3 z4 z5 z6 z7 z8 z9 z10 z11 z12
  have c7 := held_cell r7 0 _ rfl
  have f7 := held_free r7 0
  obtain ⟨W4, hW4, y7, yO⟩ := st1 r7 0 (.int .u32 rt)
  have x7 : W4.heap[p7]? = some (.cells #[.int .u32 rt, .int .i32 a0_1, .int .i32 a0_2, .int .i32 a0_3, .int .i32 a0_4, .int .i32 a0_5, .int .i32 a0_6, .int .i32 a0_7, .int .i32 a0_8, .int .i32 a0_9, .int .i32 a0_10, .int .i32 a0_11, .int .i32 a0_12] 25 (0, 0)) := y7
  have q0 := (yO.block p0_0 d70).trans s0
  have q1 := (yO.block p0_1 d71).trans s1
  have hB4 := hid (belowS hB2 yO n7)
  clear y7 yO s0 s1 hB2 r7
  have z0 := held_cell q0 0 _ rfl
  have z1 := held_cell q0 1 _ rfl
  have z2 := held_cell q0 2 _ rfl
  have z3 := held_cell q0 3 _ rfl
  have z4 := held_cell q0 4 _ rfl
  have z5 := held_cell q0 5 _ rfl
  have z6 := held_cell q0 6 _ rfl
  have z7 := held_cell q0 7 _ rfl
  have z8 := held_cell q0 8 _ rfl
  have z9 := held_cell q0 9 _ rfl
  have z10 := held_cell q0 10 _ rfl
  have z11 := held_cell q0 11 _ rfl
  have z12 := held_cell q0 12 _ rfl
  have y0 := held_cell q1 0 _ rfl
  have y1 := held_cell q1 1 _ rfl
  have y2 := held_cell q1 2 _ rfl
  have y3 := held_cell q1 3 _ rfl
  have y4 := held_cell q1 4 _ rfl
  have y5 := held_cell q1 5 _ rfl
  have y6 := held_cell q1 6 _ rfl
  have y7 := held_cell q1 7 _ rfl
  have y8 := held_cell q1 8 _ rfl
  have y9 := held_cell q1 9 _ rfl
  have y10 := held_cell q1 10 _ rfl
  have y11 := held_cell q1 11 _ rfl
  have y12 := held_cell q1 12 _ rfl
  replace q0 := hid q0
  replace q1 := hid q1
  replace x7 := hid x7
  go_wp2_with fail
  refine (k1.out _).mono ?_
  rintro e V1 ⟨s1a, s1c, rfl, hO1, hA1⟩
  rw [hn1.out]
  have hB5 := hid (bthen hB4.out hA1)
  have q0 := held_after hA1 q0.out
  have x7 := held_after hA1 x7.out
  clear hA1 hB4 hO1 q1 c7 f7 z0 z1 z2 z3 z4 z5 z6 z7 z8 z9 z10 z11 z12 y0 y1 y2 y3 y4 y5 y6 y7 y8 y9 y10 y11 y12
  have z0 := held_cell q0 0 _ rfl
  have z1 := held_cell q0 1 _ rfl
  have z2 := held_cell q0 2 _ rfl
  have z3 := held_cell q0 3 _ rfl
  have z4 := held_cell q0 4 _ rfl
  have z5 := held_cell q0 5 _ rfl
  have z6 := held_cell q0 6 _ rfl
  have z7 := held_cell q0 7 _ rfl
  have z8 := held_cell q0 8 _ rfl
  have z9 := held_cell q0 9 _ rfl
  have z10 := held_cell q0 10 _ rfl
  have z11 := held_cell q0 11 _ rfl
  have z12 := held_cell q0 12 _ rfl
  have y0 := held_cell x7 0 _ rfl
  have y1 := held_cell x7 1 _ rfl
  have y2 := held_cell x7 2 _ rfl
  have y3 := held_cell x7 3 _ rfl
  have y4 := held_cell x7 4 _ rfl
  have y5 := held_cell x7 5 _ rfl
  have y6 := held_cell x7 6 _ rfl
  have y7 := held_cell x7 7 _ rfl
  have y8 := held_cell x7 8 _ rfl
  have y9 := held_cell x7 9 _ rfl
  have y10 := held_cell x7 10 _ rfl
  have y11 := held_cell x7 11 _ rfl
  have y12 := held_cell x7 12 _ rfl
  clear q0 x7
  go_wp2_with fail
  refine (k2.out _).mono ?_
  rintro e V2 ⟨s2a, s2c, rfl, hO2, hA2⟩
  rw [hl2.out]
  have hB6 := hid (bthen hB5.out hA2)
  clear hA2 hB5 hO2 z0 z1 z2 z3 z4 z5 z6 z7 z8 z9 z10 z11 z12 y0 y1 y2 y3 y4 y5 y6 y7 y8 y9 y10 y11 y12
  go_wp2_with fail
  refine (knows34_any _).mono ?_
  rintro e V3 ⟨rfl, hA3⟩
  have hB7 := hid (bthen hB6.out hA3)
  clear hA3
  go_wp2_with fail
  go_ret
  exact ⟨ret_bool (by simp), hB7.out⟩
end Go.Proofs.Ytnoifpdjfpbmjaa
