/- The law TurnUnit, walked. -/
import Derived.Test.YticfolcpnkkidaaLaw13b
import Derived.Deep.DeepCutAuto
namespace Go.Proofs.Yticfolcpnkkidaa
open Go.ChangeShapes Go.WideShapes Go.ChangeAt Go.RowKit
set_option linter.unusedVariables false

theorem roundS_30_t (n : Int) : roundS n 30 = if n < 0 then -(qn n.natAbs 1073741824 : Int) else if qn n.natAbs 1073741824 ≤ 9223372036854775807 then (qn n.natAbs 1073741824 : Int) else 9223372036854775807 := by
  have hp : pow2 (bnd 30 62) = 1073741824 := by decide +kernel
  unfold roundS overS
  rw [hp, if_neg (by omega)]
  have e : (1073741824 : Int).natAbs = 1073741824 := rfl
  rw [e]
  by_cases h : n < 0
  · rw [if_pos (by omega), if_pos h]
  · rw [if_neg (by omega), if_neg h]
theorem qn_mul30_t (a : Nat) : qn (a * 1073741824) 1073741824 = a := by
  unfold qn
  rw [Nat.mul_mod_left, Nat.mul_div_cancel _ (by omega), if_neg (by omega)]
theorem round_mul_t (x : Int) (h : B32 x) : roundS (x * 1073741824) 30 = x := by
  unfold B32 at h
  rw [roundS_30_t]
  have e : (x * 1073741824).natAbs = x.natAbs * 1073741824 := by omega
  rw [e, qn_mul30_t]
  by_cases h : x < 0
  · rw [if_pos (by omega)]; omega
  · rw [if_neg (by omega), if_pos (by omega)]; omega
theorem round_0_t : roundS 0 30 = 0 := by decide +kernel
theorem clampS_in_t {n : Int} (h : B32 n) : clampS n = n := by unfold B32 at h; unfold clampS; rw [if_neg (by omega), if_neg (by omega)]
theorem clampB_in_t {n : Int} (h : B32 n) : clampB n = false := by unfold B32 at h; unfold clampB; simp; omega
theorem cut4_in_t {x y z t : Int} (p0 : B32 x) (p1 : B32 y) (p2 : B32 z) (p3 : B32 t) : cut4 x y z t = .tuple #[.agg #[.int .i32 x, .int .i32 y, .int .i32 z, .int .i32 t], .int .i64 (0 : Nat)] := by
  unfold cut4
  rw [clampS_in_t p0, clampS_in_t p1, clampS_in_t p2, clampS_in_t p3]
  simp [cuts, sel4, clampB_in_t p0, clampB_in_t p1, clampB_in_t p2, clampB_in_t p3]
theorem mul_one_r_t {x y z t : Int} (p0 : B32 x) (p1 : B32 y) (p2 : B32 z) (p3 : B32 t) : mulV x y z t 1073741824 0 0 0 = .tuple #[.agg #[.int .i32 x, .int .i32 y, .int .i32 z, .int .i32 t], .int .i64 (0 : Nat)] := by
  unfold mulV mulW mulX mulY mulZ
  simp only [Int.mul_zero, round_0_t, round_mul_t _ p0, round_mul_t _ p1, round_mul_t _ p2, round_mul_t _ p3]
  rw [show x - 0 - 0 - 0 = x from by omega, show 0 + y + 0 - 0 = y from by omega, show 0 + z + 0 - 0 = z from by omega, show 0 + t + 0 - 0 = t from by omega]
  exact cut4_in_t p0 p1 p2 p3
theorem off_near {u0 u1 u2 u3 : Int} (b0 : B32 u0) (b1 : B32 u1) (b2 : B32 u2) (b3 : B32 u3) (m1 : 1152921504606846976 - 8589934592 ≤ u0 * u0 + u1 * u1 + u2 * u2 + u3 * u3) (m2 : u0 * u0 + u1 * u1 + u2 * u2 + u3 * u3 ≤ 1152921504606846976 + 8589934592) : offS (sqs [u0, u1, u2, u3] 0) ≤ 8589934592 ∧ 0 ≤ offS (sqs [u0, u1, u2, u3] 0) := by
  have hP := (sqs4 u0 u1 u2 u3 b0 b1 b2 b3).1
  rw [if_pos (by omega)] at hP
  unfold offS
  constructor
  · split <;> omega
  · split <;> omega
theorem unit4_off (x y z t : Int) (p0 : B32 x) (p1 : B32 y) (p2 : B32 z) (p3 : B32 t) : ∃ (u0 u1 u2 u3 : Int) (ok : Bool), unitT4 x y z t = .tuple #[.agg #[.int .i32 u0, .int .i32 u1, .int .i32 u2, .int .i32 u3], .bool ok] ∧ (ok = true → B32 u0 ∧ B32 u1 ∧ B32 u2 ∧ B32 u3 ∧ offS (sqs [u0, u1, u2, u3] 0) ≤ 8589934592 ∧ 0 ≤ offS (sqs [u0, u1, u2, u3] 0)) := by
  by_cases hz : x = 0 ∧ y = 0 ∧ z = 0 ∧ t = 0
  · exact ⟨_, _, _, _, _, unit4_no hz, fun h => by simp at h⟩
  · obtain ⟨f, hV, b0, b1, b2, b3, m1, m2, -⟩ := unit_all4 x y z t hz p0 p1 p2 p3
    exact ⟨_, _, _, _, _, hV, fun _ => ⟨b0, b1, b2, b3, off_near b0 b1 b2 b3 m1 m2⟩⟩
theorem step_off {ok : Bool} {u0 u1 u2 u3 : Int} (k : Int) (h : ok = true → B32 u0 ∧ B32 u1 ∧ B32 u2 ∧ B32 u3 ∧ offS (sqs [u0, u1, u2, u3] 0) ≤ 8589934592 ∧ 0 ≤ offS (sqs [u0, u1, u2, u3] 0)) : ∃ v0 v1 v2 v3 n : Int, stepR ok u0 u1 u2 u3 k = .tuple #[.agg #[.int .i32 v0, .int .i32 v1, .int .i32 v2, .int .i32 v3], .int .i64 n] ∧ B32 v0 ∧ B32 v1 ∧ B32 v2 ∧ B32 v3 ∧ offS (sqs [v0, v1, v2, v3] 0) ≤ 8589934592 ∧ 0 ≤ offS (sqs [v0, v1, v2, v3] 0) := by
  cases ok
  · exact ⟨1073741824, 0, 0, 0, k + 1, rfl, by unfold B32; omega, by unfold B32; omega, by unfold B32; omega, by unfold B32; omega, by decide +kernel, by decide +kernel⟩
  · exact ⟨u0, u1, u2, u3, k, rfl, h rfl⟩
theorem rnd_none : clampS (roundS 0 3) = 0 ∧ oneIf (clampB (roundS 0 3)) = 0 := by decide +kernel
theorem step_zero {ok : Bool} {u0 u1 u2 u3 : Int} : stepR ok u0 u1 u2 u3 (((0 : Nat) : Int) + (0 + 0 + 0)) = stepR ok u0 u1 u2 u3 0 := rfl
theorem mul_none {x y z t : Int} (p0 : B32 x) (p1 : B32 y) (p2 : B32 z) (p3 : B32 t) {a b c : Int} (ha : a = 0) (hb : b = 0) (hc : c = 0) : mulV x y z t 1073741824 (clampS (roundS a 3)) (clampS (roundS b 3)) (clampS (roundS c 3)) = .tuple #[.agg #[.int .i32 x, .int .i32 y, .int .i32 z, .int .i32 t], .int .i64 (0 : Nat)] := by
  rw [ha, hb, hc, rnd_none.1]; exact mul_one_r_t p0 p1 p2 p3
set_option maxRecDepth 100000 in
set_option maxHeartbeats 8000000 in
theorem law_TurnUnit (a0_0 a0_1 a0_2 a0_3 : Int) (a1_0 a1_1 a1_2 : Int) (a2 : Int) (W : World) (w0_0 : (Lit.int .i32 a0_0).wf = true) (w0_1 : (Lit.int .i32 a0_1).wf = true) (w0_2 : (Lit.int .i32 a0_2).wf = true) (w0_3 : (Lit.int .i32 a0_3).wf = true) (w1_0 : (Lit.int .i32 a1_0).wf = true) (w1_1 : (Lit.int .i32 a1_1).wf = true) (w1_2 : (Lit.int .i32 a1_2).wf = true) (w2 : (Lit.int .i32 a2).wf = true) :
    Calls Try.prog 5 #[.agg #[.int .i32 a0_0, .int .i32 a0_1, .int .i32 a0_2, .int .i32 a0_3], .agg #[.int .i32 a1_0, .int .i32 a1_1, .int .i32 a1_2], .int .i32 a2] W fun e w' => e = .returned (.bool true) ∧ Below W.heap.size W w' := by
  have p0 := b32_13 w0_0
  have p1 := b32_13 w0_1
  have p2 := b32_13 w0_2
  have p3 := b32_13 w0_3
  have r0 := b32_13 w1_0
  have r1 := b32_13 w1_1
  have r2 := b32_13 w1_2
  have pd := b32_13 w2
  clear w0_0 w0_1 w0_2 w0_3 w1_0 w1_1 w1_2 w2
  obtain ⟨m0, m1, m2, m3, n, hM, b0, b1, b2, b3, hn⟩ := mul_form a0_0 a0_1 a0_2 a0_3 1073741824 (clampS (roundS (a1_0 * a2) 3)) (clampS (roundS (a1_1 * a2) 3)) (clampS (roundS (a1_2 * a2) 3))
  obtain ⟨x0, x1, x2, x3, xk, hX, hXo⟩ := unit4_off m0 m1 m2 m3 b0 b1 b2 b3
  have k1 := fun (v : World) => step_any a0_0 a0_1 a0_2 a0_3 a1_0 a1_1 a1_2 a2 v p0 p1 p2 p3 r0 r1 r2 pd m0 m1 m2 m3 n hM b0 b1 b2 b3 hn x0 x1 x2 x3 xk hX
  generalize n + (oneIf (clampB (roundS (a1_0 * a2) 3)) + oneIf (clampB (roundS (a1_1 * a2) 3)) + oneIf (clampB (roundS (a1_2 * a2) 3))) = K at k1
  obtain ⟨v0, v1, v2, v3, N, hF, c0, c1, c2, c3, hO, hO0⟩ := step_off K hXo
  rw [hF] at k1
  replace k1 := hid k1
  have kO := hid (fun (v : World) => roff_any v0 v1 v2 v3 v c0 c1 c2 c3)
  generalize offS (sqs [v0, v1, v2, v3] 0) = F at *
  have dF : decide (8589934592 < F) = false := by simp; omega
  clear hM hX hXo hF hn b0 b1 b2 b3 c0 c1 c2 c3
  obtain ⟨u0, u1, u2, u3, ok, hU⟩ := unit4_form13 a0_0 a0_1 a0_2 a0_3
  have k2 := fun (v : World) => step_any a0_0 a0_1 a0_2 a0_3 0 0 0 a2 v p0 p1 p2 p3 (by unfold B32; omega) (by unfold B32; omega) (by unfold B32; omega) pd a0_0 a0_1 a0_2 a0_3 ((0 : Nat) : Int) (mul_none p0 p1 p2 p3 (Int.zero_mul _) (Int.zero_mul _) (Int.zero_mul _)) p0 p1 p2 p3 (by omega) u0 u1 u2 u3 ok hU
  have k3 := fun (v : World) => step_any a0_0 a0_1 a0_2 a0_3 a1_0 a1_1 a1_2 0 v p0 p1 p2 p3 r0 r1 r2 (by unfold B32; omega) a0_0 a0_1 a0_2 a0_3 ((0 : Nat) : Int) (mul_none p0 p1 p2 p3 (Int.mul_zero _) (Int.mul_zero _) (Int.mul_zero _)) p0 p1 p2 p3 (by omega) u0 u1 u2 u3 ok hU
  rw [Int.zero_mul, rnd_none.2, step_zero] at k2
  rw [Int.mul_zero, Int.mul_zero, Int.mul_zero, rnd_none.2, step_zero] at k3
  have k4 := fun (v : World) => hU ▸ rumake_any a0_0 a0_1 a0_2 a0_3 v p0 p1 p2 p3
  clear hU p0 p1 p2 p3 r0 r1 r2 pd
  replace k4 := hid k4
  cases ok
  case false =>
    have e : stepR false u0 u1 u2 u3 0 = .tuple #[.agg #[.int .i32 1073741824, .int .i32 0, .int .i32 0, .int .i32 0], .int .i64 1] := rfl
    rw [e] at k2 k3
    clear e
    replace k2 := hid k2
    replace k3 := hid k3
    go_enter Try.func5, Try.ntmps5
    go_upto_region 0 with (fail)
    apply wp_region_seg0 (w := W) (S := [.al 1000, .al 1000, .q []]) (E := [.al ((fun p => .pointer (some ⟨p, 0, none⟩)), _) 1000, .al ((fun p => .pointer (some ⟨p, 0, none⟩)), _) 1000, .q0 _]) rfl (by kernel_rfl) rfl rfl
    intro th hge hne
    refine Seg.step _ rfl ⟨by rfl, fun U hU => ?_⟩ ?_
    · go_simp; exact vp_alloc rfl rfl rfl
    refine ⟨_, by (simp only [Ent.val]; go_simp <;> exact rfl), ?_⟩
    refine Seg.step _ rfl ⟨by rfl, fun U hU => ?_⟩ ?_
    · go_simp; exact vp_alloc rfl rfl rfl
    refine ⟨_, by (simp only [Ent.val]; go_simp <;> exact rfl), ?_⟩
    refine Seg.step _ rfl (Or.inl ⟨by rfl, fun U hU => vp_quiet (by (go_simp <;> exact rfl))⟩) ⟨_, by (simp only [Ent.val]; go_simp <;> exact rfl), ?_⟩
    refine Seg.stop (fun U1 hU hk => ?_)
    have nb0 := hge 0 _ _ rfl
    have rb0 := (hk 0 _ _ rfl trivial).1.2 (by simp)
    have nb1 := hge 1 _ _ rfl
    have rb1 := (hk 1 _ _ rfl trivial).1.2 (by simp)
    have ne0_1 := hne 0 1 _ _ _ _ rfl rfl (by omega)
    clear hk hge hne
    generalize th (0 + 0) = p0_0 at *
    dsimp only at rb0
    generalize th (0 + 1) = p0_1 at *
    dsimp only at rb1
    have r_p0_0 := rb0
    clear rb0
    have n_p0_0 := nb0
    clear nb0
    have d_p0_0_p0_1 := ne0_1
    clear ne0_1
    have r_p0_1 := rb1
    clear rb1
    have n_p0_1 := nb1
    clear nb1
    have sz1 := hU.size
    have hB : Below W.heap.size W U1 := hU
    clear hU
    go_upto_region 1 with (fail)
    apply wp_region_seg0 (w := U1) (S := [.q [], .q [], .q [], .q [], .q [], .q [], .q [], .al 8, .st 7 [], .q []]) (E := [.q0 _, .q0 _, .q0 _, .c0 _, .q0 _, .q0 _, .q0 _, .al ((fun p => .pointer (some ⟨p, 0, none⟩)), _) 8, .s0 7 (.cells _ _), .q0 _]) rfl (by kernel_rfl) rfl rfl
    intro th hge hne
    refine Seg.step _ rfl (Or.inl ⟨by rfl, fun U hU => vp_quiet (by (have h0 := held_cell (held_after hU.1 r_p0_0) 0 _ rfl; have h1 := held_cell (held_after hU.1 r_p0_0) 1 _ rfl; have h2 := held_cell (held_after hU.1 r_p0_0) 2 _ rfl; have h3 := held_cell (held_after hU.1 r_p0_0) 3 _ rfl; go_simp <;> exact rfl))⟩) ⟨_, by (simp only [Ent.val]; go_simp <;> exact rfl), ?_⟩
    refine Seg.step _ rfl (Or.inl ⟨by rfl, fun U hU => vp_quiet (by (have h0 := held_cell (held_after hU.1 r_p0_1) 0 _ rfl; have h1 := held_cell (held_after hU.1 r_p0_1) 1 _ rfl; have h2 := held_cell (held_after hU.1 r_p0_1) 2 _ rfl; go_simp <;> exact rfl))⟩) ⟨_, by (simp only [Ent.val]; go_simp <;> exact rfl), ?_⟩
    refine Seg.step _ rfl (Or.inl ⟨by rfl, fun U hU => vp_quiet (by (go_simp <;> exact rfl))⟩) ⟨_, by (simp only [Ent.val]; go_simp <;> exact rfl), ?_⟩
    refine Seg.step _ rfl (Or.inl ⟨by rfl, fun U hU => ?_⟩) ?_
    · go_simp
      refine vp_call (k1.out _)
    refine ⟨_, by (simp only [Ent.val]; go_simp <;> exact rfl), ?_⟩
    refine Seg.step _ rfl (Or.inl ⟨by rfl, fun U hU => vp_quiet (by (go_simp <;> exact rfl))⟩) ⟨_, by (simp only [Ent.val]; go_simp <;> exact rfl), ?_⟩
    refine Seg.step _ rfl (Or.inl ⟨by rfl, fun U hU => vp_quiet (by (go_simp <;> exact rfl))⟩) ⟨_, by (simp only [Ent.val]; go_simp <;> exact rfl), ?_⟩
    refine Seg.step _ rfl (Or.inl ⟨by rfl, fun U hU => vp_quiet (by (go_simp <;> exact rfl))⟩) ⟨_, by (simp only [Ent.val]; go_simp <;> exact rfl), ?_⟩
    refine Seg.step _ rfl ⟨by rfl, fun U hU => ?_⟩ ?_
    · go_simp; exact vp_alloc rfl rfl rfl
    refine ⟨_, by (simp only [Ent.val]; go_simp <;> exact rfl), ?_⟩
    refine Seg.step _ rfl ⟨by rfl, fun U z k hz hU hc => ?_⟩ ?_
    · have hz2 := Option.some.inj hz
      cases hz2; clear hz
      exact vp_store_agg _ _ _ rfl hc rfl rfl (by kernel_rfl) rfl (by rfl)
    refine ⟨_, by (simp only [Ent.val]; go_simp <;> exact rfl), ?_⟩
    refine Seg.step _ rfl (Or.inl ⟨by rfl, fun U hU => vp_quiet (by (go_simp <;> exact rfl))⟩) ⟨_, by (simp only [Ent.val]; go_simp <;> exact rfl), ?_⟩
    refine Seg.stop (fun U2 hU hk => ?_)
    have nb7 := hge 7 _ _ rfl
    have rb7 := (hk 7 _ 8 rfl trivial).1.1 trivial _ (Nat.zero_le _) rfl
    clear hk hge hne
    generalize th (0 + 7) = p1_7 at *
    simp only [Ent.obj] at rb7
    replace r_p0_0 := held_after hU r_p0_0
    replace r_p0_1 := held_after hU r_p0_1
    have r_p1_7 := rb7
    clear rb7
    have n_p1_7 := nb7
    clear nb7
    have sz2 := hU.size
    replace hB := bthen hB hU
    clear hU
    go_upto_region 2 with (fail)
    apply wp_region_seg0 (w := U2) (S := [.q [], .q [], .q [], .q [], .q [], .q [], .q []]) (E := [.q0 _, .c0 _, .q0 _, .q0 _, .c0 _, .q0 _, .q0 _]) rfl (by kernel_rfl) rfl rfl
    intro th hge hne
    refine Seg.step _ rfl (Or.inl ⟨by rfl, fun U hU => vp_quiet (by (have h0 := held_cell (held_after hU.1 r_p1_7) 0 _ rfl; have h1 := held_cell (held_after hU.1 r_p1_7) 1 _ rfl; have h2 := held_cell (held_after hU.1 r_p1_7) 2 _ rfl; have h3 := held_cell (held_after hU.1 r_p1_7) 3 _ rfl; go_simp <;> exact rfl))⟩) ⟨_, by (simp only [Ent.val]; go_simp <;> exact rfl), ?_⟩
    refine Seg.step _ rfl (Or.inl ⟨by rfl, fun U hU => ?_⟩) ?_
    · go_simp
      refine vp_call (kO.out _)
    refine ⟨_, by (simp only [Ent.val]; go_simp <;> exact rfl), ?_⟩
    refine Seg.step _ rfl (Or.inl ⟨by rfl, fun U hU => vp_quiet (by (go_simp <;> exact rfl))⟩) ⟨_, by (simp only [Ent.val]; go_simp <;> exact rfl), ?_⟩
    refine Seg.step _ rfl (Or.inl ⟨by rfl, fun U hU => vp_quiet (by (go_simp <;> exact rfl))⟩) ⟨_, by (simp only [Ent.val]; go_simp <;> exact rfl), ?_⟩
    refine Seg.step _ rfl (Or.inl ⟨by rfl, fun U hU => ?_⟩) ?_
    · go_simp
      refine vp_call (knows13_any _)
    refine ⟨_, by (simp only [Ent.val]; go_simp <;> exact rfl), ?_⟩
    refine Seg.step _ rfl (Or.inl ⟨by rfl, fun U hU => vp_quiet (by (go_simp <;> exact rfl))⟩) ⟨_, by (simp only [Ent.val]; go_simp <;> exact rfl), ?_⟩
    refine Seg.step _ rfl (Or.inl ⟨by rfl, fun U hU => vp_quiet (by (go_simp <;> exact rfl))⟩) ⟨_, by (simp only [Ent.val]; go_simp <;> exact rfl), ?_⟩
    refine Seg.stop (fun U3 hU hk => ?_)
    clear hk hge hne
    replace r_p0_0 := held_after hU r_p0_0
    replace r_p0_1 := held_after hU r_p0_1
    replace r_p1_7 := held_after hU r_p1_7
    have sz3 := hU.size
    replace hB := bthen hB hU
    clear hU
    go_upto_region 4 with (fail)
    apply wp_region_seg0 (w := U3) (S := [.q [], .q [], .q [], .q [], .q [], .q [], .q [], .al 8, .st 7 [], .q []]) (E := [.q0 _, .q0 _, .q0 _, .c0 _, .q0 _, .q0 _, .q0 _, .al ((fun p => .pointer (some ⟨p, 0, none⟩)), _) 8, .s0 7 (.cells _ _), .q0 _]) rfl (by kernel_rfl) rfl rfl
    intro th hge hne
    refine Seg.step _ rfl (Or.inl ⟨by rfl, fun U hU => vp_quiet (by (have h0 := held_cell (held_after hU.1 r_p0_0) 0 _ rfl; have h1 := held_cell (held_after hU.1 r_p0_0) 1 _ rfl; have h2 := held_cell (held_after hU.1 r_p0_0) 2 _ rfl; have h3 := held_cell (held_after hU.1 r_p0_0) 3 _ rfl; go_simp <;> exact rfl))⟩) ⟨_, by (simp only [Ent.val]; go_simp <;> exact rfl), ?_⟩
    refine Seg.step _ rfl (Or.inl ⟨by rfl, fun U hU => vp_quiet (by (go_simp <;> exact rfl))⟩) ⟨_, by (simp only [Ent.val]; go_simp <;> exact rfl), ?_⟩
    refine Seg.step _ rfl (Or.inl ⟨by rfl, fun U hU => vp_quiet (by (go_simp <;> exact rfl))⟩) ⟨_, by (simp only [Ent.val]; go_simp <;> exact rfl), ?_⟩
    refine Seg.step _ rfl (Or.inl ⟨by rfl, fun U hU => ?_⟩) ?_
    · go_simp
      refine vp_call (k2.out _)
    refine ⟨_, by (simp only [Ent.val]; go_simp <;> exact rfl), ?_⟩
    refine Seg.step _ rfl (Or.inl ⟨by rfl, fun U hU => vp_quiet (by (go_simp <;> exact rfl))⟩) ⟨_, by (simp only [Ent.val]; go_simp <;> exact rfl), ?_⟩
    refine Seg.step _ rfl (Or.inl ⟨by rfl, fun U hU => vp_quiet (by (go_simp <;> exact rfl))⟩) ⟨_, by (simp only [Ent.val]; go_simp <;> exact rfl), ?_⟩
    refine Seg.step _ rfl (Or.inl ⟨by rfl, fun U hU => vp_quiet (by (go_simp <;> exact rfl))⟩) ⟨_, by (simp only [Ent.val]; go_simp <;> exact rfl), ?_⟩
    refine Seg.step _ rfl ⟨by rfl, fun U hU => ?_⟩ ?_
    · go_simp; exact vp_alloc rfl rfl rfl
    refine ⟨_, by (simp only [Ent.val]; go_simp <;> exact rfl), ?_⟩
    refine Seg.step _ rfl ⟨by rfl, fun U z k hz hU hc => ?_⟩ ?_
    · have hz2 := Option.some.inj hz
      cases hz2; clear hz
      exact vp_store_agg _ _ _ rfl hc rfl rfl (by kernel_rfl) rfl (by rfl)
    refine ⟨_, by (simp only [Ent.val]; go_simp <;> exact rfl), ?_⟩
    refine Seg.step _ rfl (Or.inl ⟨by rfl, fun U hU => vp_quiet (by (go_simp <;> exact rfl))⟩) ⟨_, by (simp only [Ent.val]; go_simp <;> exact rfl), ?_⟩
    refine Seg.stop (fun U4 hU hk => ?_)
    have nb7 := hge 7 _ _ rfl
    have rb7 := (hk 7 _ 8 rfl trivial).1.1 trivial _ (Nat.zero_le _) rfl
    clear hk hge hne
    generalize th (0 + 7) = p4_7 at *
    simp only [Ent.obj] at rb7
    replace r_p0_0 := held_after hU r_p0_0
    replace r_p0_1 := held_after hU r_p0_1
    replace r_p1_7 := held_after hU r_p1_7
    have r_p4_7 := rb7
    clear rb7
    have n_p4_7 := nb7
    clear nb7
    have sz4 := hU.size
    replace hB := bthen hB hU
    clear hU
    go_upto_region 5 with (fail)
    apply wp_region_seg0 (w := U4) (S := [.q [], .q [], .q [], .q [], .q [], .q [], .al 7, .st 6 [], .q []]) (E := [.q0 _, .q0 _, .c0 _, .q0 _, .q0 _, .q0 _, .al ((fun p => .pointer (some ⟨p, 0, none⟩)), _) 7, .s0 6 (.cells _ _), .q0 _]) rfl (by kernel_rfl) rfl rfl
    intro th hge hne
    refine Seg.step _ rfl (Or.inl ⟨by rfl, fun U hU => vp_quiet (by (have h0 := held_cell (held_after hU.1 r_p0_0) 0 _ rfl; have h1 := held_cell (held_after hU.1 r_p0_0) 1 _ rfl; have h2 := held_cell (held_after hU.1 r_p0_0) 2 _ rfl; have h3 := held_cell (held_after hU.1 r_p0_0) 3 _ rfl; go_simp <;> exact rfl))⟩) ⟨_, by (simp only [Ent.val]; go_simp <;> exact rfl), ?_⟩
    refine Seg.step _ rfl (Or.inl ⟨by rfl, fun U hU => vp_quiet (by (have h0 := held_cell (held_after hU.1 r_p0_1) 0 _ rfl; have h1 := held_cell (held_after hU.1 r_p0_1) 1 _ rfl; have h2 := held_cell (held_after hU.1 r_p0_1) 2 _ rfl; go_simp <;> exact rfl))⟩) ⟨_, by (simp only [Ent.val]; go_simp <;> exact rfl), ?_⟩
    refine Seg.step _ rfl (Or.inl ⟨by rfl, fun U hU => ?_⟩) ?_
    · go_simp
      refine vp_call (k3.out _)
    refine ⟨_, by (simp only [Ent.val]; go_simp <;> exact rfl), ?_⟩
    refine Seg.step _ rfl (Or.inl ⟨by rfl, fun U hU => vp_quiet (by (go_simp <;> exact rfl))⟩) ⟨_, by (simp only [Ent.val]; go_simp <;> exact rfl), ?_⟩
    refine Seg.step _ rfl (Or.inl ⟨by rfl, fun U hU => vp_quiet (by (go_simp <;> exact rfl))⟩) ⟨_, by (simp only [Ent.val]; go_simp <;> exact rfl), ?_⟩
    refine Seg.step _ rfl (Or.inl ⟨by rfl, fun U hU => vp_quiet (by (go_simp <;> exact rfl))⟩) ⟨_, by (simp only [Ent.val]; go_simp <;> exact rfl), ?_⟩
    refine Seg.step _ rfl ⟨by rfl, fun U hU => ?_⟩ ?_
    · go_simp; exact vp_alloc rfl rfl rfl
    refine ⟨_, by (simp only [Ent.val]; go_simp <;> exact rfl), ?_⟩
    refine Seg.step _ rfl ⟨by rfl, fun U z k hz hU hc => ?_⟩ ?_
    · have hz2 := Option.some.inj hz
      cases hz2; clear hz
      exact vp_store_agg _ _ _ rfl hc rfl rfl (by kernel_rfl) rfl (by rfl)
    refine ⟨_, by (simp only [Ent.val]; go_simp <;> exact rfl), ?_⟩
    refine Seg.step _ rfl (Or.inl ⟨by rfl, fun U hU => vp_quiet (by (go_simp <;> exact rfl))⟩) ⟨_, by (simp only [Ent.val]; go_simp <;> exact rfl), ?_⟩
    refine Seg.stop (fun U5 hU hk => ?_)
    have nb6 := hge 6 _ _ rfl
    have rb6 := (hk 6 _ 7 rfl trivial).1.1 trivial _ (Nat.zero_le _) rfl
    clear hk hge hne
    generalize th (0 + 6) = p5_6 at *
    simp only [Ent.obj] at rb6
    replace r_p0_0 := held_after hU r_p0_0
    replace r_p0_1 := held_after hU r_p0_1
    replace r_p1_7 := held_after hU r_p1_7
    replace r_p4_7 := held_after hU r_p4_7
    have r_p5_6 := rb6
    clear rb6
    have n_p5_6 := nb6
    clear nb6
    have sz5 := hU.size
    replace hB := bthen hB hU
    clear hU
    go_upto_region 6 with (fail)
    apply wp_region_seg0 (w := U5) (S := [.q [], .q [], .q [], .q [], .q [], .al 6, .st 5 [], .q []]) (E := [.q0 _, .c0 _, .q0 _, .q0 _, .q0 _, .al ((fun p => .pointer (some ⟨p, 0, none⟩)), _) 6, .s0 5 (.cells _ _), .q0 _]) rfl (by kernel_rfl) rfl rfl
    intro th hge hne
    refine Seg.step _ rfl (Or.inl ⟨by rfl, fun U hU => vp_quiet (by (have h0 := held_cell (held_after hU.1 r_p0_0) 0 _ rfl; have h1 := held_cell (held_after hU.1 r_p0_0) 1 _ rfl; have h2 := held_cell (held_after hU.1 r_p0_0) 2 _ rfl; have h3 := held_cell (held_after hU.1 r_p0_0) 3 _ rfl; go_simp <;> exact rfl))⟩) ⟨_, by (simp only [Ent.val]; go_simp <;> exact rfl), ?_⟩
    refine Seg.step _ rfl (Or.inl ⟨by rfl, fun U hU => ?_⟩) ?_
    · go_simp
      refine vp_call (k4.out _)
    refine ⟨_, by (simp only [Ent.val]; go_simp <;> exact rfl), ?_⟩
    refine Seg.step _ rfl (Or.inl ⟨by rfl, fun U hU => vp_quiet (by (go_simp <;> exact rfl))⟩) ⟨_, by (simp only [Ent.val]; go_simp <;> exact rfl), ?_⟩
    refine Seg.step _ rfl (Or.inl ⟨by rfl, fun U hU => vp_quiet (by (go_simp <;> exact rfl))⟩) ⟨_, by (simp only [Ent.val]; go_simp <;> exact rfl), ?_⟩
    refine Seg.step _ rfl (Or.inl ⟨by rfl, fun U hU => vp_quiet (by (go_simp <;> exact rfl))⟩) ⟨_, by (simp only [Ent.val]; go_simp <;> exact rfl), ?_⟩
    refine Seg.step _ rfl ⟨by rfl, fun U hU => ?_⟩ ?_
    · go_simp; exact vp_alloc rfl rfl rfl
    refine ⟨_, by (simp only [Ent.val]; go_simp <;> exact rfl), ?_⟩
    refine Seg.step _ rfl ⟨by rfl, fun U z k hz hU hc => ?_⟩ ?_
    · have hz2 := Option.some.inj hz
      cases hz2; clear hz
      exact vp_store_agg _ _ _ rfl hc rfl rfl (by kernel_rfl) rfl (by rfl)
    refine ⟨_, by (simp only [Ent.val]; go_simp <;> exact rfl), ?_⟩
    refine Seg.step _ rfl (Or.inl ⟨by rfl, fun U hU => vp_quiet (by (go_simp <;> exact rfl))⟩) ⟨_, by (simp only [Ent.val]; go_simp <;> exact rfl), ?_⟩
    refine Seg.stop (fun U6 hU hk => ?_)
    have nb5 := hge 5 _ _ rfl
    have rb5 := (hk 5 _ 6 rfl trivial).1.1 trivial _ (Nat.zero_le _) rfl
    clear hk hge hne
    generalize th (0 + 5) = p6_5 at *
    simp only [Ent.obj] at rb5
    replace r_p0_0 := held_after hU r_p0_0
    replace r_p0_1 := held_after hU r_p0_1
    replace r_p1_7 := held_after hU r_p1_7
    replace r_p4_7 := held_after hU r_p4_7
    replace r_p5_6 := held_after hU r_p5_6
    have r_p6_5 := rb5
    clear rb5
    have n_p6_5 := nb5
    clear nb5
    have sz6 := hU.size
    replace hB := bthen hB hU
    clear hU
    go_upto_region 7 with (fail)
    apply wp_region_seg0 (w := U6) (S := [.q [], .q [], .q [], .q [], .q [], .q [], .q [], .q [], .q [], .q [], .q [], .q [], .q [], .q [], .q [], .q [], .q [], .q [], .q [], .q [], .q [], .q [], .q [], .q [], .q [], .q [], .q [], .q [], .q []]) (E := [.q0 _, .q0 _, .q0 _, .q0 _, .q0 _, .q0 _, .q0 _, .q0 _, .q0 _, .q0 _, .q0 _, .q0 _, .q0 _, .q0 _, .q0 _, .q0 _, .q0 _, .q0 _, .q0 _, .q0 _, .q0 _, .q0 _, .q0 _, .q0 _, .q0 _, .q0 _, .q0 _, .q0 _, .q0 _]) rfl (by kernel_rfl) rfl rfl
    intro th hge hne
    refine Seg.step _ rfl (Or.inl ⟨by rfl, fun U hU => vp_quiet (by (have h0 := held_cell (held_after hU.1 r_p4_7) 0 _ rfl; have h1 := held_cell (held_after hU.1 r_p4_7) 1 _ rfl; have h2 := held_cell (held_after hU.1 r_p4_7) 2 _ rfl; have h3 := held_cell (held_after hU.1 r_p4_7) 3 _ rfl; go_simp <;> exact rfl))⟩) ⟨_, by (simp only [Ent.val]; go_simp <;> exact rfl), ?_⟩
    refine Seg.step _ rfl (Or.inl ⟨by rfl, fun U hU => vp_quiet (by (have h0 := held_cell (held_after hU.1 r_p5_6) 0 _ rfl; have h1 := held_cell (held_after hU.1 r_p5_6) 1 _ rfl; have h2 := held_cell (held_after hU.1 r_p5_6) 2 _ rfl; have h3 := held_cell (held_after hU.1 r_p5_6) 3 _ rfl; go_simp <;> exact rfl))⟩) ⟨_, by (simp only [Ent.val]; go_simp <;> exact rfl), ?_⟩
    refine Seg.step _ rfl (Or.inl ⟨by rfl, fun U hU => vp_quiet (by (go_simp <;> exact rfl))⟩) ⟨_, by (simp only [Ent.val]; go_simp <;> exact rfl), ?_⟩
    refine Seg.step _ rfl (Or.inl ⟨by rfl, fun U hU => vp_quiet (by (go_simp <;> exact rfl))⟩) ⟨_, by (simp only [Ent.val]; go_simp <;> exact rfl), ?_⟩
    refine Seg.step _ rfl (Or.inl ⟨by rfl, fun U hU => vp_quiet (by (go_simp <;> exact rfl))⟩) ⟨_, by (simp only [Ent.val]; go_simp <;> exact rfl), ?_⟩
    refine Seg.step _ rfl (Or.inl ⟨by rfl, fun U hU => vp_quiet (by (go_simp <;> exact rfl))⟩) ⟨_, by (simp only [Ent.val]; go_simp <;> exact rfl), ?_⟩
    refine Seg.step _ rfl (Or.inl ⟨by rfl, fun U hU => vp_quiet (by (go_simp <;> exact rfl))⟩) ⟨_, by (simp only [Ent.val]; go_simp <;> exact rfl), ?_⟩
    refine Seg.step _ rfl (Or.inl ⟨by rfl, fun U hU => vp_quiet (by (go_simp <;> exact rfl))⟩) ⟨_, by (simp only [Ent.val]; go_simp <;> exact rfl), ?_⟩
    refine Seg.step _ rfl (Or.inl ⟨by rfl, fun U hU => vp_quiet (by (go_simp <;> exact rfl))⟩) ⟨_, by (simp only [Ent.val]; go_simp <;> exact rfl), ?_⟩
    refine Seg.step _ rfl (Or.inl ⟨by rfl, fun U hU => vp_quiet (by (go_simp <;> exact rfl))⟩) ⟨_, by (simp only [Ent.val]; go_simp <;> exact rfl), ?_⟩
    refine Seg.step _ rfl (Or.inl ⟨by rfl, fun U hU => vp_quiet (by (go_simp <;> exact rfl))⟩) ⟨_, by (simp only [Ent.val]; go_simp <;> exact rfl), ?_⟩
    refine Seg.step _ rfl (Or.inl ⟨by rfl, fun U hU => vp_quiet (by (go_simp <;> exact rfl))⟩) ⟨_, by (simp only [Ent.val]; go_simp <;> exact rfl), ?_⟩
    refine Seg.step _ rfl (Or.inl ⟨by rfl, fun U hU => vp_quiet (by (go_simp <;> exact rfl))⟩) ⟨_, by (simp only [Ent.val]; go_simp <;> exact rfl), ?_⟩
    refine Seg.step _ rfl (Or.inl ⟨by rfl, fun U hU => vp_quiet (by (go_simp <;> exact rfl))⟩) ⟨_, by (simp only [Ent.val]; go_simp <;> exact rfl), ?_⟩
    refine Seg.step _ rfl (Or.inl ⟨by rfl, fun U hU => vp_quiet (by (go_simp <;> exact rfl))⟩) ⟨_, by (simp only [Ent.val]; go_simp <;> exact rfl), ?_⟩
    refine Seg.step _ rfl (Or.inl ⟨by rfl, fun U hU => vp_quiet (by (go_simp <;> exact rfl))⟩) ⟨_, by (simp only [Ent.val]; go_simp <;> exact rfl), ?_⟩
    refine Seg.step _ rfl (Or.inr ⟨by rfl, rfl⟩) ⟨_, by (simp only [Ent.val]; go_simp <;> exact rfl), ?_⟩
    refine Seg.step _ rfl (Or.inr ⟨by rfl, rfl⟩) ⟨_, by (simp only [Ent.val]; go_simp <;> exact rfl), ?_⟩
    refine Seg.step _ rfl (Or.inr ⟨by rfl, rfl⟩) ⟨_, by (simp only [Ent.val]; go_simp <;> exact rfl), ?_⟩
    refine Seg.step _ rfl (Or.inr ⟨by rfl, rfl⟩) ⟨_, by (simp only [Ent.val]; go_simp <;> exact rfl), ?_⟩
    refine Seg.step _ rfl (Or.inr ⟨by rfl, rfl⟩) ⟨_, by (simp only [Ent.val]; go_simp <;> exact rfl), ?_⟩
    refine Seg.step _ rfl (Or.inr ⟨by rfl, rfl⟩) ⟨_, by (simp only [Ent.val]; go_simp <;> exact rfl), ?_⟩
    refine Seg.step _ rfl (Or.inr ⟨by rfl, rfl⟩) ⟨_, by (simp only [Ent.val]; go_simp <;> exact rfl), ?_⟩
    refine Seg.step _ rfl (Or.inr ⟨by rfl, rfl⟩) ⟨_, by (simp only [Ent.val]; go_simp <;> exact rfl), ?_⟩
    refine Seg.step _ rfl (Or.inr ⟨by rfl, rfl⟩) ⟨_, by (simp only [Ent.val]; go_simp <;> exact rfl), ?_⟩
    refine Seg.step _ rfl (Or.inr ⟨by rfl, rfl⟩) ⟨_, by (simp only [Ent.val]; go_simp <;> exact rfl), ?_⟩
    refine Seg.step _ rfl (Or.inl ⟨by rfl, fun U hU => vp_quiet (by (go_simp <;> exact rfl))⟩) ⟨_, by (simp only [Ent.val]; go_simp <;> exact rfl), ?_⟩
    refine Seg.step _ rfl (Or.inl ⟨by rfl, fun U hU => vp_quiet (by (go_simp <;> exact rfl))⟩) ⟨_, by (simp only [Ent.val]; go_simp <;> exact rfl), ?_⟩
    refine Seg.step _ rfl (Or.inl ⟨by rfl, fun U hU => vp_quiet (by (go_simp <;> exact rfl))⟩) ⟨_, by (simp only [Ent.val]; go_simp <;> exact rfl), ?_⟩
    refine Seg.stop (fun U7 hU hk => ?_)
    clear hk hge hne
    replace r_p0_0 := held_after hU r_p0_0
    replace r_p0_1 := held_after hU r_p0_1
    replace r_p1_7 := held_after hU r_p1_7
    replace r_p4_7 := held_after hU r_p4_7
    replace r_p5_6 := held_after hU r_p5_6
    replace r_p6_5 := held_after hU r_p6_5
    have sz7 := hU.size
    replace hB := bthen hB hU
    clear hU
    go_wp2_with fail
    go_ret
    exact ⟨rfl, hB⟩
  case true =>
    have e : stepR true u0 u1 u2 u3 0 = .tuple #[.agg #[.int .i32 u0, .int .i32 u1, .int .i32 u2, .int .i32 u3], .int .i64 0] := rfl
    rw [e] at k2 k3
    clear e
    replace k2 := hid k2
    replace k3 := hid k3
    go_enter Try.func5, Try.ntmps5
    go_upto_region 0 with (fail)
    apply wp_region_seg0 (w := W) (S := [.al 1000, .al 1000, .q []]) (E := [.al ((fun p => .pointer (some ⟨p, 0, none⟩)), _) 1000, .al ((fun p => .pointer (some ⟨p, 0, none⟩)), _) 1000, .q0 _]) rfl (by kernel_rfl) rfl rfl
    intro th hge hne
    refine Seg.step _ rfl ⟨by rfl, fun U hU => ?_⟩ ?_
    · go_simp; exact vp_alloc rfl rfl rfl
    refine ⟨_, by (simp only [Ent.val]; go_simp <;> exact rfl), ?_⟩
    refine Seg.step _ rfl ⟨by rfl, fun U hU => ?_⟩ ?_
    · go_simp; exact vp_alloc rfl rfl rfl
    refine ⟨_, by (simp only [Ent.val]; go_simp <;> exact rfl), ?_⟩
    refine Seg.step _ rfl (Or.inl ⟨by rfl, fun U hU => vp_quiet (by (go_simp <;> exact rfl))⟩) ⟨_, by (simp only [Ent.val]; go_simp <;> exact rfl), ?_⟩
    refine Seg.stop (fun U1 hU hk => ?_)
    have nb0 := hge 0 _ _ rfl
    have rb0 := (hk 0 _ _ rfl trivial).1.2 (by simp)
    have nb1 := hge 1 _ _ rfl
    have rb1 := (hk 1 _ _ rfl trivial).1.2 (by simp)
    have ne0_1 := hne 0 1 _ _ _ _ rfl rfl (by omega)
    clear hk hge hne
    generalize th (0 + 0) = p0_0 at *
    dsimp only at rb0
    generalize th (0 + 1) = p0_1 at *
    dsimp only at rb1
    have r_p0_0 := rb0
    clear rb0
    have n_p0_0 := nb0
    clear nb0
    have d_p0_0_p0_1 := ne0_1
    clear ne0_1
    have r_p0_1 := rb1
    clear rb1
    have n_p0_1 := nb1
    clear nb1
    have sz1 := hU.size
    have hB : Below W.heap.size W U1 := hU
    clear hU
    go_upto_region 1 with (fail)
    apply wp_region_seg0 (w := U1) (S := [.q [], .q [], .q [], .q [], .q [], .q [], .q [], .al 8, .st 7 [], .q []]) (E := [.q0 _, .q0 _, .q0 _, .c0 _, .q0 _, .q0 _, .q0 _, .al ((fun p => .pointer (some ⟨p, 0, none⟩)), _) 8, .s0 7 (.cells _ _), .q0 _]) rfl (by kernel_rfl) rfl rfl
    intro th hge hne
    refine Seg.step _ rfl (Or.inl ⟨by rfl, fun U hU => vp_quiet (by (have h0 := held_cell (held_after hU.1 r_p0_0) 0 _ rfl; have h1 := held_cell (held_after hU.1 r_p0_0) 1 _ rfl; have h2 := held_cell (held_after hU.1 r_p0_0) 2 _ rfl; have h3 := held_cell (held_after hU.1 r_p0_0) 3 _ rfl; go_simp <;> exact rfl))⟩) ⟨_, by (simp only [Ent.val]; go_simp <;> exact rfl), ?_⟩
    refine Seg.step _ rfl (Or.inl ⟨by rfl, fun U hU => vp_quiet (by (have h0 := held_cell (held_after hU.1 r_p0_1) 0 _ rfl; have h1 := held_cell (held_after hU.1 r_p0_1) 1 _ rfl; have h2 := held_cell (held_after hU.1 r_p0_1) 2 _ rfl; go_simp <;> exact rfl))⟩) ⟨_, by (simp only [Ent.val]; go_simp <;> exact rfl), ?_⟩
    refine Seg.step _ rfl (Or.inl ⟨by rfl, fun U hU => vp_quiet (by (go_simp <;> exact rfl))⟩) ⟨_, by (simp only [Ent.val]; go_simp <;> exact rfl), ?_⟩
    refine Seg.step _ rfl (Or.inl ⟨by rfl, fun U hU => ?_⟩) ?_
    · go_simp
      refine vp_call (k1.out _)
    refine ⟨_, by (simp only [Ent.val]; go_simp <;> exact rfl), ?_⟩
    refine Seg.step _ rfl (Or.inl ⟨by rfl, fun U hU => vp_quiet (by (go_simp <;> exact rfl))⟩) ⟨_, by (simp only [Ent.val]; go_simp <;> exact rfl), ?_⟩
    refine Seg.step _ rfl (Or.inl ⟨by rfl, fun U hU => vp_quiet (by (go_simp <;> exact rfl))⟩) ⟨_, by (simp only [Ent.val]; go_simp <;> exact rfl), ?_⟩
    refine Seg.step _ rfl (Or.inl ⟨by rfl, fun U hU => vp_quiet (by (go_simp <;> exact rfl))⟩) ⟨_, by (simp only [Ent.val]; go_simp <;> exact rfl), ?_⟩
    refine Seg.step _ rfl ⟨by rfl, fun U hU => ?_⟩ ?_
    · go_simp; exact vp_alloc rfl rfl rfl
    refine ⟨_, by (simp only [Ent.val]; go_simp <;> exact rfl), ?_⟩
    refine Seg.step _ rfl ⟨by rfl, fun U z k hz hU hc => ?_⟩ ?_
    · have hz2 := Option.some.inj hz
      cases hz2; clear hz
      exact vp_store_agg _ _ _ rfl hc rfl rfl (by kernel_rfl) rfl (by rfl)
    refine ⟨_, by (simp only [Ent.val]; go_simp <;> exact rfl), ?_⟩
    refine Seg.step _ rfl (Or.inl ⟨by rfl, fun U hU => vp_quiet (by (go_simp <;> exact rfl))⟩) ⟨_, by (simp only [Ent.val]; go_simp <;> exact rfl), ?_⟩
    refine Seg.stop (fun U2 hU hk => ?_)
    have nb7 := hge 7 _ _ rfl
    have rb7 := (hk 7 _ 8 rfl trivial).1.1 trivial _ (Nat.zero_le _) rfl
    clear hk hge hne
    generalize th (0 + 7) = p1_7 at *
    simp only [Ent.obj] at rb7
    replace r_p0_0 := held_after hU r_p0_0
    replace r_p0_1 := held_after hU r_p0_1
    have r_p1_7 := rb7
    clear rb7
    have n_p1_7 := nb7
    clear nb7
    have sz2 := hU.size
    replace hB := bthen hB hU
    clear hU
    go_upto_region 2 with (fail)
    apply wp_region_seg0 (w := U2) (S := [.q [], .q [], .q [], .q [], .q [], .q [], .q []]) (E := [.q0 _, .c0 _, .q0 _, .q0 _, .c0 _, .q0 _, .q0 _]) rfl (by kernel_rfl) rfl rfl
    intro th hge hne
    refine Seg.step _ rfl (Or.inl ⟨by rfl, fun U hU => vp_quiet (by (have h0 := held_cell (held_after hU.1 r_p1_7) 0 _ rfl; have h1 := held_cell (held_after hU.1 r_p1_7) 1 _ rfl; have h2 := held_cell (held_after hU.1 r_p1_7) 2 _ rfl; have h3 := held_cell (held_after hU.1 r_p1_7) 3 _ rfl; go_simp <;> exact rfl))⟩) ⟨_, by (simp only [Ent.val]; go_simp <;> exact rfl), ?_⟩
    refine Seg.step _ rfl (Or.inl ⟨by rfl, fun U hU => ?_⟩) ?_
    · go_simp
      refine vp_call (kO.out _)
    refine ⟨_, by (simp only [Ent.val]; go_simp <;> exact rfl), ?_⟩
    refine Seg.step _ rfl (Or.inl ⟨by rfl, fun U hU => vp_quiet (by (go_simp <;> exact rfl))⟩) ⟨_, by (simp only [Ent.val]; go_simp <;> exact rfl), ?_⟩
    refine Seg.step _ rfl (Or.inl ⟨by rfl, fun U hU => vp_quiet (by (go_simp <;> exact rfl))⟩) ⟨_, by (simp only [Ent.val]; go_simp <;> exact rfl), ?_⟩
    refine Seg.step _ rfl (Or.inl ⟨by rfl, fun U hU => ?_⟩) ?_
    · go_simp
      refine vp_call (knows13_any _)
    refine ⟨_, by (simp only [Ent.val]; go_simp <;> exact rfl), ?_⟩
    refine Seg.step _ rfl (Or.inl ⟨by rfl, fun U hU => vp_quiet (by (go_simp <;> exact rfl))⟩) ⟨_, by (simp only [Ent.val]; go_simp <;> exact rfl), ?_⟩
    refine Seg.step _ rfl (Or.inl ⟨by rfl, fun U hU => vp_quiet (by (go_simp <;> exact rfl))⟩) ⟨_, by (simp only [Ent.val]; go_simp <;> exact rfl), ?_⟩
    refine Seg.stop (fun U3 hU hk => ?_)
    clear hk hge hne
    replace r_p0_0 := held_after hU r_p0_0
    replace r_p0_1 := held_after hU r_p0_1
    replace r_p1_7 := held_after hU r_p1_7
    have sz3 := hU.size
    replace hB := bthen hB hU
    clear hU
    go_upto_region 4 with (fail)
    apply wp_region_seg0 (w := U3) (S := [.q [], .q [], .q [], .q [], .q [], .q [], .q [], .al 8, .st 7 [], .q []]) (E := [.q0 _, .q0 _, .q0 _, .c0 _, .q0 _, .q0 _, .q0 _, .al ((fun p => .pointer (some ⟨p, 0, none⟩)), _) 8, .s0 7 (.cells _ _), .q0 _]) rfl (by kernel_rfl) rfl rfl
    intro th hge hne
    refine Seg.step _ rfl (Or.inl ⟨by rfl, fun U hU => vp_quiet (by (have h0 := held_cell (held_after hU.1 r_p0_0) 0 _ rfl; have h1 := held_cell (held_after hU.1 r_p0_0) 1 _ rfl; have h2 := held_cell (held_after hU.1 r_p0_0) 2 _ rfl; have h3 := held_cell (held_after hU.1 r_p0_0) 3 _ rfl; go_simp <;> exact rfl))⟩) ⟨_, by (simp only [Ent.val]; go_simp <;> exact rfl), ?_⟩
    refine Seg.step _ rfl (Or.inl ⟨by rfl, fun U hU => vp_quiet (by (go_simp <;> exact rfl))⟩) ⟨_, by (simp only [Ent.val]; go_simp <;> exact rfl), ?_⟩
    refine Seg.step _ rfl (Or.inl ⟨by rfl, fun U hU => vp_quiet (by (go_simp <;> exact rfl))⟩) ⟨_, by (simp only [Ent.val]; go_simp <;> exact rfl), ?_⟩
    refine Seg.step _ rfl (Or.inl ⟨by rfl, fun U hU => ?_⟩) ?_
    · go_simp
      refine vp_call (k2.out _)
    refine ⟨_, by (simp only [Ent.val]; go_simp <;> exact rfl), ?_⟩
    refine Seg.step _ rfl (Or.inl ⟨by rfl, fun U hU => vp_quiet (by (go_simp <;> exact rfl))⟩) ⟨_, by (simp only [Ent.val]; go_simp <;> exact rfl), ?_⟩
    refine Seg.step _ rfl (Or.inl ⟨by rfl, fun U hU => vp_quiet (by (go_simp <;> exact rfl))⟩) ⟨_, by (simp only [Ent.val]; go_simp <;> exact rfl), ?_⟩
    refine Seg.step _ rfl (Or.inl ⟨by rfl, fun U hU => vp_quiet (by (go_simp <;> exact rfl))⟩) ⟨_, by (simp only [Ent.val]; go_simp <;> exact rfl), ?_⟩
    refine Seg.step _ rfl ⟨by rfl, fun U hU => ?_⟩ ?_
    · go_simp; exact vp_alloc rfl rfl rfl
    refine ⟨_, by (simp only [Ent.val]; go_simp <;> exact rfl), ?_⟩
    refine Seg.step _ rfl ⟨by rfl, fun U z k hz hU hc => ?_⟩ ?_
    · have hz2 := Option.some.inj hz
      cases hz2; clear hz
      exact vp_store_agg _ _ _ rfl hc rfl rfl (by kernel_rfl) rfl (by rfl)
    refine ⟨_, by (simp only [Ent.val]; go_simp <;> exact rfl), ?_⟩
    refine Seg.step _ rfl (Or.inl ⟨by rfl, fun U hU => vp_quiet (by (go_simp <;> exact rfl))⟩) ⟨_, by (simp only [Ent.val]; go_simp <;> exact rfl), ?_⟩
    refine Seg.stop (fun U4 hU hk => ?_)
    have nb7 := hge 7 _ _ rfl
    have rb7 := (hk 7 _ 8 rfl trivial).1.1 trivial _ (Nat.zero_le _) rfl
    clear hk hge hne
    generalize th (0 + 7) = p4_7 at *
    simp only [Ent.obj] at rb7
    replace r_p0_0 := held_after hU r_p0_0
    replace r_p0_1 := held_after hU r_p0_1
    replace r_p1_7 := held_after hU r_p1_7
    have r_p4_7 := rb7
    clear rb7
    have n_p4_7 := nb7
    clear nb7
    have sz4 := hU.size
    replace hB := bthen hB hU
    clear hU
    go_upto_region 5 with (fail)
    apply wp_region_seg0 (w := U4) (S := [.q [], .q [], .q [], .q [], .q [], .q [], .al 7, .st 6 [], .q []]) (E := [.q0 _, .q0 _, .c0 _, .q0 _, .q0 _, .q0 _, .al ((fun p => .pointer (some ⟨p, 0, none⟩)), _) 7, .s0 6 (.cells _ _), .q0 _]) rfl (by kernel_rfl) rfl rfl
    intro th hge hne
    refine Seg.step _ rfl (Or.inl ⟨by rfl, fun U hU => vp_quiet (by (have h0 := held_cell (held_after hU.1 r_p0_0) 0 _ rfl; have h1 := held_cell (held_after hU.1 r_p0_0) 1 _ rfl; have h2 := held_cell (held_after hU.1 r_p0_0) 2 _ rfl; have h3 := held_cell (held_after hU.1 r_p0_0) 3 _ rfl; go_simp <;> exact rfl))⟩) ⟨_, by (simp only [Ent.val]; go_simp <;> exact rfl), ?_⟩
    refine Seg.step _ rfl (Or.inl ⟨by rfl, fun U hU => vp_quiet (by (have h0 := held_cell (held_after hU.1 r_p0_1) 0 _ rfl; have h1 := held_cell (held_after hU.1 r_p0_1) 1 _ rfl; have h2 := held_cell (held_after hU.1 r_p0_1) 2 _ rfl; go_simp <;> exact rfl))⟩) ⟨_, by (simp only [Ent.val]; go_simp <;> exact rfl), ?_⟩
    refine Seg.step _ rfl (Or.inl ⟨by rfl, fun U hU => ?_⟩) ?_
    · go_simp
      refine vp_call (k3.out _)
    refine ⟨_, by (simp only [Ent.val]; go_simp <;> exact rfl), ?_⟩
    refine Seg.step _ rfl (Or.inl ⟨by rfl, fun U hU => vp_quiet (by (go_simp <;> exact rfl))⟩) ⟨_, by (simp only [Ent.val]; go_simp <;> exact rfl), ?_⟩
    refine Seg.step _ rfl (Or.inl ⟨by rfl, fun U hU => vp_quiet (by (go_simp <;> exact rfl))⟩) ⟨_, by (simp only [Ent.val]; go_simp <;> exact rfl), ?_⟩
    refine Seg.step _ rfl (Or.inl ⟨by rfl, fun U hU => vp_quiet (by (go_simp <;> exact rfl))⟩) ⟨_, by (simp only [Ent.val]; go_simp <;> exact rfl), ?_⟩
    refine Seg.step _ rfl ⟨by rfl, fun U hU => ?_⟩ ?_
    · go_simp; exact vp_alloc rfl rfl rfl
    refine ⟨_, by (simp only [Ent.val]; go_simp <;> exact rfl), ?_⟩
    refine Seg.step _ rfl ⟨by rfl, fun U z k hz hU hc => ?_⟩ ?_
    · have hz2 := Option.some.inj hz
      cases hz2; clear hz
      exact vp_store_agg _ _ _ rfl hc rfl rfl (by kernel_rfl) rfl (by rfl)
    refine ⟨_, by (simp only [Ent.val]; go_simp <;> exact rfl), ?_⟩
    refine Seg.step _ rfl (Or.inl ⟨by rfl, fun U hU => vp_quiet (by (go_simp <;> exact rfl))⟩) ⟨_, by (simp only [Ent.val]; go_simp <;> exact rfl), ?_⟩
    refine Seg.stop (fun U5 hU hk => ?_)
    have nb6 := hge 6 _ _ rfl
    have rb6 := (hk 6 _ 7 rfl trivial).1.1 trivial _ (Nat.zero_le _) rfl
    clear hk hge hne
    generalize th (0 + 6) = p5_6 at *
    simp only [Ent.obj] at rb6
    replace r_p0_0 := held_after hU r_p0_0
    replace r_p0_1 := held_after hU r_p0_1
    replace r_p1_7 := held_after hU r_p1_7
    replace r_p4_7 := held_after hU r_p4_7
    have r_p5_6 := rb6
    clear rb6
    have n_p5_6 := nb6
    clear nb6
    have sz5 := hU.size
    replace hB := bthen hB hU
    clear hU
    go_upto_region 6 with (fail)
    apply wp_region_seg0 (w := U5) (S := [.q [], .q [], .q [], .q [], .q [], .al 6, .st 5 [], .q []]) (E := [.q0 _, .c0 _, .q0 _, .q0 _, .q0 _, .al ((fun p => .pointer (some ⟨p, 0, none⟩)), _) 6, .s0 5 (.cells _ _), .q0 _]) rfl (by kernel_rfl) rfl rfl
    intro th hge hne
    refine Seg.step _ rfl (Or.inl ⟨by rfl, fun U hU => vp_quiet (by (have h0 := held_cell (held_after hU.1 r_p0_0) 0 _ rfl; have h1 := held_cell (held_after hU.1 r_p0_0) 1 _ rfl; have h2 := held_cell (held_after hU.1 r_p0_0) 2 _ rfl; have h3 := held_cell (held_after hU.1 r_p0_0) 3 _ rfl; go_simp <;> exact rfl))⟩) ⟨_, by (simp only [Ent.val]; go_simp <;> exact rfl), ?_⟩
    refine Seg.step _ rfl (Or.inl ⟨by rfl, fun U hU => ?_⟩) ?_
    · go_simp
      refine vp_call (k4.out _)
    refine ⟨_, by (simp only [Ent.val]; go_simp <;> exact rfl), ?_⟩
    refine Seg.step _ rfl (Or.inl ⟨by rfl, fun U hU => vp_quiet (by (go_simp <;> exact rfl))⟩) ⟨_, by (simp only [Ent.val]; go_simp <;> exact rfl), ?_⟩
    refine Seg.step _ rfl (Or.inl ⟨by rfl, fun U hU => vp_quiet (by (go_simp <;> exact rfl))⟩) ⟨_, by (simp only [Ent.val]; go_simp <;> exact rfl), ?_⟩
    refine Seg.step _ rfl (Or.inl ⟨by rfl, fun U hU => vp_quiet (by (go_simp <;> exact rfl))⟩) ⟨_, by (simp only [Ent.val]; go_simp <;> exact rfl), ?_⟩
    refine Seg.step _ rfl ⟨by rfl, fun U hU => ?_⟩ ?_
    · go_simp; exact vp_alloc rfl rfl rfl
    refine ⟨_, by (simp only [Ent.val]; go_simp <;> exact rfl), ?_⟩
    refine Seg.step _ rfl ⟨by rfl, fun U z k hz hU hc => ?_⟩ ?_
    · have hz2 := Option.some.inj hz
      cases hz2; clear hz
      exact vp_store_agg _ _ _ rfl hc rfl rfl (by kernel_rfl) rfl (by rfl)
    refine ⟨_, by (simp only [Ent.val]; go_simp <;> exact rfl), ?_⟩
    refine Seg.step _ rfl (Or.inl ⟨by rfl, fun U hU => vp_quiet (by (go_simp <;> exact rfl))⟩) ⟨_, by (simp only [Ent.val]; go_simp <;> exact rfl), ?_⟩
    refine Seg.stop (fun U6 hU hk => ?_)
    have nb5 := hge 5 _ _ rfl
    have rb5 := (hk 5 _ 6 rfl trivial).1.1 trivial _ (Nat.zero_le _) rfl
    clear hk hge hne
    generalize th (0 + 5) = p6_5 at *
    simp only [Ent.obj] at rb5
    replace r_p0_0 := held_after hU r_p0_0
    replace r_p0_1 := held_after hU r_p0_1
    replace r_p1_7 := held_after hU r_p1_7
    replace r_p4_7 := held_after hU r_p4_7
    replace r_p5_6 := held_after hU r_p5_6
    have r_p6_5 := rb5
    clear rb5
    have n_p6_5 := nb5
    clear nb5
    have sz6 := hU.size
    replace hB := bthen hB hU
    clear hU
    go_upto_region 7 with (fail)
    apply wp_region_seg0 (w := U6) (S := [.q [], .q [], .q [], .q [], .q [], .q [], .q [], .q [], .q [], .q [], .q [], .q [], .q [], .q [], .q [], .q [], .q [], .q [], .q [], .q [], .q [], .q [], .q [], .q [], .q [], .q [], .q [], .q [], .q []]) (E := [.q0 _, .q0 _, .q0 _, .q0 _, .q0 _, .q0 _, .q0 _, .q0 _, .q0 _, .q0 _, .q0 _, .q0 _, .q0 _, .q0 _, .q0 _, .q0 _, .q0 _, .q0 _, .q0 _, .q0 _, .q0 _, .q0 _, .q0 _, .q0 _, .q0 _, .q0 _, .q0 _, .q0 _, .q0 _]) rfl (by kernel_rfl) rfl rfl
    intro th hge hne
    refine Seg.step _ rfl (Or.inl ⟨by rfl, fun U hU => vp_quiet (by (have h0 := held_cell (held_after hU.1 r_p4_7) 0 _ rfl; have h1 := held_cell (held_after hU.1 r_p4_7) 1 _ rfl; have h2 := held_cell (held_after hU.1 r_p4_7) 2 _ rfl; have h3 := held_cell (held_after hU.1 r_p4_7) 3 _ rfl; go_simp <;> exact rfl))⟩) ⟨_, by (simp only [Ent.val]; go_simp <;> exact rfl), ?_⟩
    refine Seg.step _ rfl (Or.inl ⟨by rfl, fun U hU => vp_quiet (by (have h0 := held_cell (held_after hU.1 r_p5_6) 0 _ rfl; have h1 := held_cell (held_after hU.1 r_p5_6) 1 _ rfl; have h2 := held_cell (held_after hU.1 r_p5_6) 2 _ rfl; have h3 := held_cell (held_after hU.1 r_p5_6) 3 _ rfl; go_simp <;> exact rfl))⟩) ⟨_, by (simp only [Ent.val]; go_simp <;> exact rfl), ?_⟩
    refine Seg.step _ rfl (Or.inl ⟨by rfl, fun U hU => vp_quiet (by (go_simp <;> exact rfl))⟩) ⟨_, by (simp only [Ent.val]; go_simp <;> exact rfl), ?_⟩
    refine Seg.step _ rfl (Or.inl ⟨by rfl, fun U hU => vp_quiet (by (go_simp <;> exact rfl))⟩) ⟨_, by (simp only [Ent.val]; go_simp <;> exact rfl), ?_⟩
    refine Seg.step _ rfl (Or.inl ⟨by rfl, fun U hU => vp_quiet (by (go_simp <;> exact rfl))⟩) ⟨_, by (simp only [Ent.val]; go_simp <;> exact rfl), ?_⟩
    refine Seg.step _ rfl (Or.inl ⟨by rfl, fun U hU => vp_quiet (by (go_simp <;> exact rfl))⟩) ⟨_, by (simp only [Ent.val]; go_simp <;> exact rfl), ?_⟩
    refine Seg.step _ rfl (Or.inl ⟨by rfl, fun U hU => vp_quiet (by (go_simp <;> exact rfl))⟩) ⟨_, by (simp only [Ent.val]; go_simp <;> exact rfl), ?_⟩
    refine Seg.step _ rfl (Or.inl ⟨by rfl, fun U hU => vp_quiet (by (go_simp <;> exact rfl))⟩) ⟨_, by (simp only [Ent.val]; go_simp <;> exact rfl), ?_⟩
    refine Seg.step _ rfl (Or.inl ⟨by rfl, fun U hU => vp_quiet (by (go_simp <;> exact rfl))⟩) ⟨_, by (simp only [Ent.val]; go_simp <;> exact rfl), ?_⟩
    refine Seg.step _ rfl (Or.inl ⟨by rfl, fun U hU => vp_quiet (by (go_simp <;> exact rfl))⟩) ⟨_, by (simp only [Ent.val]; go_simp <;> exact rfl), ?_⟩
    refine Seg.step _ rfl (Or.inl ⟨by rfl, fun U hU => vp_quiet (by (go_simp <;> exact rfl))⟩) ⟨_, by (simp only [Ent.val]; go_simp <;> exact rfl), ?_⟩
    refine Seg.step _ rfl (Or.inl ⟨by rfl, fun U hU => vp_quiet (by (go_simp <;> exact rfl))⟩) ⟨_, by (simp only [Ent.val]; go_simp <;> exact rfl), ?_⟩
    refine Seg.step _ rfl (Or.inr ⟨by rfl, rfl⟩) ⟨_, by (simp only [Ent.val]; go_simp <;> exact rfl), ?_⟩
    refine Seg.step _ rfl (Or.inr ⟨by rfl, rfl⟩) ⟨_, by (simp only [Ent.val]; go_simp <;> exact rfl), ?_⟩
    refine Seg.step _ rfl (Or.inl ⟨by rfl, fun U hU => vp_quiet (by (go_simp <;> exact rfl))⟩) ⟨_, by (simp only [Ent.val]; go_simp <;> exact rfl), ?_⟩
    refine Seg.step _ rfl (Or.inl ⟨by rfl, fun U hU => vp_quiet (by (go_simp <;> exact rfl))⟩) ⟨_, by (simp only [Ent.val]; go_simp <;> exact rfl), ?_⟩
    refine Seg.step _ rfl (Or.inl ⟨by rfl, fun U hU => vp_quiet (by (go_simp <;> exact rfl))⟩) ⟨_, by (simp only [Ent.val]; go_simp <;> exact rfl), ?_⟩
    refine Seg.step _ rfl (Or.inl ⟨by rfl, fun U hU => vp_quiet (by (go_simp <;> exact rfl))⟩) ⟨_, by (simp only [Ent.val]; go_simp <;> exact rfl), ?_⟩
    refine Seg.step _ rfl (Or.inl ⟨by rfl, fun U hU => vp_quiet (by (go_simp <;> exact rfl))⟩) ⟨_, by (simp only [Ent.val]; go_simp <;> exact rfl), ?_⟩
    refine Seg.step _ rfl (Or.inl ⟨by rfl, fun U hU => vp_quiet (by (go_simp <;> exact rfl))⟩) ⟨_, by (simp only [Ent.val]; go_simp <;> exact rfl), ?_⟩
    refine Seg.step _ rfl (Or.inl ⟨by rfl, fun U hU => vp_quiet (by (go_simp <;> exact rfl))⟩) ⟨_, by (simp only [Ent.val]; go_simp <;> exact rfl), ?_⟩
    refine Seg.step _ rfl (Or.inl ⟨by rfl, fun U hU => vp_quiet (by (go_simp <;> exact rfl))⟩) ⟨_, by (simp only [Ent.val]; go_simp <;> exact rfl), ?_⟩
    refine Seg.step _ rfl (Or.inl ⟨by rfl, fun U hU => vp_quiet (by (have h0 := held_cell (held_after hU.1 r_p4_7) 0 _ rfl; have h1 := held_cell (held_after hU.1 r_p4_7) 1 _ rfl; have h2 := held_cell (held_after hU.1 r_p4_7) 2 _ rfl; have h3 := held_cell (held_after hU.1 r_p4_7) 3 _ rfl; go_simp <;> exact rfl))⟩) ⟨_, by (simp only [Ent.val]; go_simp <;> exact rfl), ?_⟩
    refine Seg.step _ rfl (Or.inl ⟨by rfl, fun U hU => vp_quiet (by (have h0 := held_cell (held_after hU.1 r_p6_5) 0 _ rfl; have h1 := held_cell (held_after hU.1 r_p6_5) 1 _ rfl; have h2 := held_cell (held_after hU.1 r_p6_5) 2 _ rfl; have h3 := held_cell (held_after hU.1 r_p6_5) 3 _ rfl; go_simp <;> exact rfl))⟩) ⟨_, by (simp only [Ent.val]; go_simp <;> exact rfl), ?_⟩
    refine Seg.step _ rfl (Or.inl ⟨by rfl, fun U hU => vp_quiet (by (go_simp <;> exact rfl))⟩) ⟨_, by (simp only [Ent.val]; go_simp <;> exact rfl), ?_⟩
    refine Seg.step _ rfl (Or.inl ⟨by rfl, fun U hU => vp_quiet (by (go_simp <;> exact rfl))⟩) ⟨_, by (simp only [Ent.val]; go_simp <;> exact rfl), ?_⟩
    refine Seg.step _ rfl (Or.inl ⟨by rfl, fun U hU => vp_quiet (by (go_simp <;> exact rfl))⟩) ⟨_, by (simp only [Ent.val]; go_simp <;> exact rfl), ?_⟩
    refine Seg.step _ rfl (Or.inl ⟨by rfl, fun U hU => vp_quiet (by (go_simp <;> exact rfl))⟩) ⟨_, by (simp only [Ent.val]; go_simp <;> exact rfl), ?_⟩
    refine Seg.step _ rfl (Or.inl ⟨by rfl, fun U hU => vp_quiet (by (go_simp <;> exact rfl))⟩) ⟨_, by (simp only [Ent.val]; go_simp <;> exact rfl), ?_⟩
    refine Seg.stop (fun U7 hU hk => ?_)
    clear hk hge hne
    replace r_p0_0 := held_after hU r_p0_0
    replace r_p0_1 := held_after hU r_p0_1
    replace r_p1_7 := held_after hU r_p1_7
    replace r_p4_7 := held_after hU r_p4_7
    replace r_p5_6 := held_after hU r_p5_6
    replace r_p6_5 := held_after hU r_p6_5
    have sz7 := hU.size
    replace hB := bthen hB hU
    clear hU
    go_wp2_with fail
    go_ret
    exact ⟨rfl, hB⟩

end Go.Proofs.Yticfolcpnkkidaa
