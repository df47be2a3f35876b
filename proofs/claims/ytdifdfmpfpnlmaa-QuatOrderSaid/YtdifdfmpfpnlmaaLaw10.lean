/- The laws of stage 10, walked. -/
import Derived.Test.YtdifdfmpfpnlmaaQuat6
namespace Go.Proofs.Ytdifdfmpfpnlmaa
open Go.ChangeShapes Go.WideShapes Go.ChangeAt Go.RowKit
set_option linter.unusedVariables false

theorem b32_of {n : Int} (h : (Lit.int .i32 n).wf = true) : B32 n := by have := bounds_i32 h; unfold B32; omega
theorem cut4_form (x y z t : Int) : ∃ (s0 s1 s2 s3 : Int) (c : Nat), cut4 x y z t = .tuple #[.agg #[.int .i32 s0, .int .i32 s1, .int .i32 s2, .int .i32 s3], .int .i64 c] := ⟨_, _, _, _, _, rfl⟩

set_option maxRecDepth 100000 in
set_option maxHeartbeats 4000000 in
theorem knows10_any (w : World) : Calls Try.prog 11 #[] w fun e w' => e = .returned (.bool true) ∧ Below w.heap.size w w' := by
  have hV : mulV 0 1073741824 0 0 0 0 1073741824 0 = .tuple #[.agg #[.int .i32 0, .int .i32 0, .int .i32 0, .int .i32 1073741824], .int .i64 (0 : Nat)] := by kernel_rfl
  have k1 := hid (fun (v : World) => hV ▸ qmul_any 0 1073741824 0 0 0 0 1073741824 0 v (by unfold B32; omega) (by unfold B32; omega) (by unfold B32; omega) (by unfold B32; omega) (by unfold B32; omega) (by unfold B32; omega) (by unfold B32; omega) (by unfold B32; omega))
  clear hV
  go_enter Try.func11, Try.ntmps11
  go_upto_region 0 with (fail)
  apply wp_region_seg0 (w := w) (S := [.q []]) (E := [.q0 _]) rfl (by kernel_rfl) rfl
  · intro th hge hne
    refine Seg.step _ rfl (Or.inl ⟨by rfl, fun U hU => vp_quiet (by (go_simp <;> exact rfl))⟩) ⟨_, by (simp only [Ent.val]; go_simp <;> exact rfl), ?_⟩
    refine Seg.stop (fun U1 hU hk => ?_)
    clear hk hge hne
    have sz1 := hU.size
    have hB : Below w.heap.size w U1 := hU
    clear hU
    go_upto_region 1 with (fail)
    apply wp_region_seg0 (w := U1) (S := [.q [], .q [], .q [], .q [], .q [], .q [], .al 7, .st 6 [], .q []]) (E := [.q0 _, .q0 _, .c0 _, .q0 _, .q0 _, .q0 _, .al _ 7, .s0 6 (.cells _ _), .q0 _]) rfl (by kernel_rfl) rfl
    · intro th hge hne
      refine Seg.step _ rfl (Or.inl ⟨by rfl, fun U hU => vp_quiet (by (go_simp <;> exact rfl))⟩) ⟨_, by (simp only [Ent.val]; go_simp <;> exact rfl), ?_⟩
      refine Seg.step _ rfl (Or.inl ⟨by rfl, fun U hU => vp_quiet (by (go_simp <;> exact rfl))⟩) ⟨_, by (simp only [Ent.val]; go_simp <;> exact rfl), ?_⟩
      refine Seg.step _ rfl (Or.inl ⟨by rfl, fun U hU => ?_⟩) ?_
      · go_simp
        refine vp_call (k1.out _)
      refine ⟨_, by (simp only [Ent.val]; go_simp <;> exact rfl), ?_⟩
      refine Seg.step _ rfl (Or.inl ⟨by rfl, fun U hU => vp_quiet (by (go_simp <;> exact rfl))⟩) ⟨_, by (simp only [Ent.val]; go_simp <;> exact rfl), ?_⟩
      refine Seg.step _ rfl (Or.inl ⟨by rfl, fun U hU => vp_quiet (by (go_simp <;> exact rfl))⟩) ⟨_, by (simp only [Ent.val]; go_simp <;> exact rfl), ?_⟩
      refine Seg.step _ rfl (Or.inl ⟨by rfl, fun U hU => vp_quiet (by (go_simp <;> exact rfl))⟩) ⟨_, by (simp only [Ent.val]; go_simp <;> exact rfl), ?_⟩
      refine Seg.step _ rfl ⟨by rfl, fun U hU => ?_⟩ ?_
      · go_simp; exact vp_alloc rfl rfl rfl
      refine ⟨_, by (simp only [Ent.val]; go_simp <;> exact rfl), ?_⟩
      refine Seg.step _ rfl ⟨by rfl, fun U z k hz hU hc => ?_⟩ ?_
      · have hz2 := Option.some.inj hz
        cases hz2; clear hz
        exact vp_store_agg _ _ _ rfl hc rfl rfl (by kernel_rfl) rfl (by rfl)
      refine ⟨_, by (simp only [Ent.val]; go_simp <;> exact rfl), ?_⟩
      refine Seg.step _ rfl (Or.inl ⟨by rfl, fun U hU => vp_quiet (by (go_simp <;> exact rfl))⟩) ⟨_, by (simp only [Ent.val]; go_simp <;> exact rfl), ?_⟩
      refine Seg.stop (fun U2 hU hk => ?_)
      have nb6 := hge 6 _ _ rfl
      have rb6 := (hk 6 _ 7 rfl trivial).1.1 trivial _ (Nat.zero_le _) rfl
      clear hk hge hne
      generalize th (0 + 6) = p1_6 at *
      simp only [Ent.obj] at rb6
      have r_p1_6 := rb6
      clear rb6
      have n_p1_6 := nb6
      clear nb6
      have sz2 := hU.size
      replace hB := bthen hB hU
      clear hU
      go_upto_region 2 with (fail)
      apply wp_region_seg0 (w := U2) (S := [.q [], .q [], .q [], .q [], .q [], .q [], .q [], .q [], .q [], .q [], .q [], .q [], .q []]) (E := [.q0 _, .q0 _, .q0 _, .q0 _, .q0 _, .q0 _, .q0 _, .q0 _, .c0 _, .q0 _, .q0 _, .q0 _, .q0 _]) rfl (by kernel_rfl) rfl
      · intro th hge hne
        refine Seg.step _ rfl (Or.inl ⟨by rfl, fun U hU => vp_quiet (by (have h0 := held_cell (held_after hU.1 r_p1_6) 0 _ rfl; have h1 := held_cell (held_after hU.1 r_p1_6) 1 _ rfl; have h2 := held_cell (held_after hU.1 r_p1_6) 2 _ rfl; have h3 := held_cell (held_after hU.1 r_p1_6) 3 _ rfl; go_simp <;> exact rfl))⟩) ⟨_, by (simp only [Ent.val]; go_simp <;> exact rfl), ?_⟩
        refine Seg.step _ rfl (Or.inl ⟨by rfl, fun U hU => vp_quiet (by (go_simp <;> exact rfl))⟩) ⟨_, by (simp only [Ent.val]; go_simp <;> exact rfl), ?_⟩
        refine Seg.step _ rfl (Or.inl ⟨by rfl, fun U hU => vp_quiet (by (go_simp <;> exact rfl))⟩) ⟨_, by (simp only [Ent.val]; go_simp <;> exact rfl), ?_⟩
        refine Seg.step _ rfl (Or.inl ⟨by rfl, fun U hU => vp_quiet (by (go_simp <;> exact rfl))⟩) ⟨_, by (simp only [Ent.val]; go_simp <;> exact rfl), ?_⟩
        refine Seg.step _ rfl (Or.inl ⟨by rfl, fun U hU => vp_quiet (by (go_simp <;> exact rfl))⟩) ⟨_, by (simp only [Ent.val]; go_simp <;> exact rfl), ?_⟩
        refine Seg.step _ rfl (Or.inl ⟨by rfl, fun U hU => vp_quiet (by (go_simp <;> exact rfl))⟩) ⟨_, by (simp only [Ent.val]; go_simp <;> exact rfl), ?_⟩
        refine Seg.step _ rfl (Or.inl ⟨by rfl, fun U hU => vp_quiet (by (go_simp <;> exact rfl))⟩) ⟨_, by (simp only [Ent.val]; go_simp <;> exact rfl), ?_⟩
        refine Seg.step _ rfl (Or.inl ⟨by rfl, fun U hU => vp_quiet (by (go_simp <;> exact rfl))⟩) ⟨_, by (simp only [Ent.val]; go_simp <;> exact rfl), ?_⟩
        refine Seg.step _ rfl (Or.inl ⟨by rfl, fun U hU => ?_⟩) ?_
        · go_simp
          refine vp_call (qone_any _)
        refine ⟨_, by (simp only [Ent.val]; go_simp <;> exact rfl), ?_⟩
        refine Seg.step _ rfl (Or.inl ⟨by rfl, fun U hU => vp_quiet (by (go_simp <;> exact rfl))⟩) ⟨_, by (simp only [Ent.val]; go_simp <;> exact rfl), ?_⟩
        refine Seg.step _ rfl (Or.inl ⟨by rfl, fun U hU => vp_quiet (by (go_simp <;> exact rfl))⟩) ⟨_, by (simp only [Ent.val]; go_simp <;> exact rfl), ?_⟩
        refine Seg.step _ rfl (Or.inl ⟨by rfl, fun U hU => vp_quiet (by (go_simp <;> exact rfl))⟩) ⟨_, by (simp only [Ent.val]; go_simp <;> exact rfl), ?_⟩
        refine Seg.step _ rfl (Or.inl ⟨by rfl, fun U hU => vp_quiet (by (go_simp <;> exact rfl))⟩) ⟨_, by (simp only [Ent.val]; go_simp <;> exact rfl), ?_⟩
        refine Seg.stop (fun U3 hU hk => ?_)
        clear hk hge hne
        replace r_p1_6 := held_after hU r_p1_6
        have sz3 := hU.size
        replace hB := bthen hB hU
        clear hU
        go_wp2_with fail
        go_ret
        exact ⟨rfl, hB⟩

set_option maxRecDepth 100000 in
set_option maxHeartbeats 4000000 in
theorem law_QuatTells (a0_0 a0_1 a0_2 a0_3 : Int) (a1_0 a1_1 a1_2 a1_3 : Int) (W : World) (w0_0 : (Lit.int .i32 a0_0).wf = true) (w0_1 : (Lit.int .i32 a0_1).wf = true) (w0_2 : (Lit.int .i32 a0_2).wf = true) (w0_3 : (Lit.int .i32 a0_3).wf = true) (w1_0 : (Lit.int .i32 a1_0).wf = true) (w1_1 : (Lit.int .i32 a1_1).wf = true) (w1_2 : (Lit.int .i32 a1_2).wf = true) (w1_3 : (Lit.int .i32 a1_3).wf = true) :
    Calls Try.prog 3 #[.agg #[.int .i32 a0_0, .int .i32 a0_1, .int .i32 a0_2, .int .i32 a0_3], .agg #[.int .i32 a1_0, .int .i32 a1_1, .int .i32 a1_2, .int .i32 a1_3]] W fun e w' => e = .returned (.bool true) ∧ Below W.heap.size W w' := by
  obtain ⟨s0, s1, s2, s3, n, hV⟩ := cut4_form (mulW a0_0 a0_1 a0_2 a0_3 a1_0 a1_1 a1_2 a1_3) (mulX a0_0 a0_1 a0_2 a0_3 a1_0 a1_1 a1_2 a1_3) (mulY a0_0 a0_1 a0_2 a0_3 a1_0 a1_1 a1_2 a1_3) (mulZ a0_0 a0_1 a0_2 a0_3 a1_0 a1_1 a1_2 a1_3)
  have hV2 : mulV a0_0 a0_1 a0_2 a0_3 a1_0 a1_1 a1_2 a1_3 = .tuple #[.agg #[.int .i32 s0, .int .i32 s1, .int .i32 s2, .int .i32 s3], .int .i64 n] := hV
  have k1 := hid (fun (v : World) => hV2 ▸ qmul_any a0_0 a0_1 a0_2 a0_3 a1_0 a1_1 a1_2 a1_3 v (b32_of w0_0) (b32_of w0_1) (b32_of w0_2) (b32_of w0_3) (b32_of w1_0) (b32_of w1_1) (b32_of w1_2) (b32_of w1_3))
  have k2 := hid (fun (v : World) => hV2 ▸ rqmul_any a0_0 a0_1 a0_2 a0_3 a1_0 a1_1 a1_2 a1_3 v (b32_of w0_0) (b32_of w0_1) (b32_of w0_2) (b32_of w0_3) (b32_of w1_0) (b32_of w1_1) (b32_of w1_2) (b32_of w1_3))
  have k3 := hid (fun (v : World) => qdot_any a0_0 a0_1 a0_2 a0_3 a1_0 a1_1 a1_2 a1_3 v (b32_of w0_0) (b32_of w0_1) (b32_of w0_2) (b32_of w0_3) (b32_of w1_0) (b32_of w1_1) (b32_of w1_2) (b32_of w1_3))
  have k4 := hid (fun (v : World) => rqdot_any a0_0 a0_1 a0_2 a0_3 a1_0 a1_1 a1_2 a1_3 v (b32_of w0_0) (b32_of w0_1) (b32_of w0_2) (b32_of w0_3) (b32_of w1_0) (b32_of w1_1) (b32_of w1_2) (b32_of w1_3))
  generalize qdot a0_0 a0_1 a0_2 a0_3 a1_0 a1_1 a1_2 a1_3 = D at k3 k4
  clear hV hV2
  go_enter Try.func3, Try.ntmps3
  go_upto_region 0 with (fail)
  apply wp_region_seg0 (w := W) (S := [.al 1000, .al 1000, .q []]) (E := [.al _ 1000, .al _ 1000, .q0 _]) rfl (by kernel_rfl) rfl
  · intro th hge hne
    refine Seg.step _ rfl ⟨by rfl, fun U hU => ?_⟩ ?_
    · go_simp; exact vp_alloc rfl rfl rfl
    refine ⟨_, by (simp only [Ent.val]; go_simp <;> exact rfl), ?_⟩
    refine Seg.step _ rfl ⟨by rfl, fun U hU => ?_⟩ ?_
    · go_simp; exact vp_alloc rfl rfl rfl
    refine ⟨_, by (simp only [Ent.val]; go_simp <;> exact rfl), ?_⟩
    refine Seg.step _ rfl (Or.inl ⟨by rfl, fun U hU => vp_quiet (by (go_simp <;> exact rfl))⟩) ⟨_, by (simp only [Ent.val]; go_simp <;> exact rfl), ?_⟩
    refine Seg.stop (fun U1 hU hk => ?_)
    have nb0 := hge 0 _ _ rfl
    have rb0 := (hk 0 _ _ rfl trivial).1.2 (by simp)
    have nb1 := hge 1 _ _ rfl
    have rb1 := (hk 1 _ _ rfl trivial).1.2 (by simp)
    have ne0_1 := hne 0 1 _ _ _ _ rfl rfl (by omega)
    clear hk hge hne
    generalize th (0 + 0) = p0_0 at *
    skip
    generalize th (0 + 1) = p0_1 at *
    skip
    have r_p0_0 := rb0
    clear rb0
    have n_p0_0 := nb0
    clear nb0
    have d_p0_0_p0_1 := ne0_1
    clear ne0_1
    have r_p0_1 := rb1
    clear rb1
    have n_p0_1 := nb1
    clear nb1
    have sz1 := hU.size
    have hB : Below W.heap.size W U1 := hU
    clear hU
    go_upto_region 1 with (fail)
    apply wp_region_seg0 (w := U1) (S := [.q [], .q [], .q [], .q [], .q [], .q [], .al 7, .st 6 [], .q []]) (E := [.q0 _, .q0 _, .c0 _, .q0 _, .q0 _, .q0 _, .al _ 7, .s0 6 (.cells _ _), .q0 _]) rfl (by kernel_rfl) rfl
    · intro th hge hne
      refine Seg.step _ rfl (Or.inl ⟨by rfl, fun U hU => vp_quiet (by (have h0 := held_cell (held_after hU.1 r_p0_0) 0 _ rfl; have h1 := held_cell (held_after hU.1 r_p0_0) 1 _ rfl; have h2 := held_cell (held_after hU.1 r_p0_0) 2 _ rfl; have h3 := held_cell (held_after hU.1 r_p0_0) 3 _ rfl; go_simp <;> exact rfl))⟩) ⟨_, by (simp only [Ent.val]; go_simp <;> exact rfl), ?_⟩
      refine Seg.step _ rfl (Or.inl ⟨by rfl, fun U hU => vp_quiet (by (have h0 := held_cell (held_after hU.1 r_p0_1) 0 _ rfl; have h1 := held_cell (held_after hU.1 r_p0_1) 1 _ rfl; have h2 := held_cell (held_after hU.1 r_p0_1) 2 _ rfl; have h3 := held_cell (held_after hU.1 r_p0_1) 3 _ rfl; go_simp <;> exact rfl))⟩) ⟨_, by (simp only [Ent.val]; go_simp <;> exact rfl), ?_⟩
      refine Seg.step _ rfl (Or.inl ⟨by rfl, fun U hU => ?_⟩) ?_
      · go_simp
        refine vp_call (k1.out _)
      refine ⟨_, by (simp only [Ent.val]; go_simp <;> exact rfl), ?_⟩
      refine Seg.step _ rfl (Or.inl ⟨by rfl, fun U hU => vp_quiet (by (go_simp <;> exact rfl))⟩) ⟨_, by (simp only [Ent.val]; go_simp <;> exact rfl), ?_⟩
      refine Seg.step _ rfl (Or.inl ⟨by rfl, fun U hU => vp_quiet (by (go_simp <;> exact rfl))⟩) ⟨_, by (simp only [Ent.val]; go_simp <;> exact rfl), ?_⟩
      refine Seg.step _ rfl (Or.inl ⟨by rfl, fun U hU => vp_quiet (by (go_simp <;> exact rfl))⟩) ⟨_, by (simp only [Ent.val]; go_simp <;> exact rfl), ?_⟩
      refine Seg.step _ rfl ⟨by rfl, fun U hU => ?_⟩ ?_
      · go_simp; exact vp_alloc rfl rfl rfl
      refine ⟨_, by (simp only [Ent.val]; go_simp <;> exact rfl), ?_⟩
      refine Seg.step _ rfl ⟨by rfl, fun U z k hz hU hc => ?_⟩ ?_
      · have hz2 := Option.some.inj hz
        cases hz2; clear hz
        exact vp_store_agg _ _ _ rfl hc rfl rfl (by kernel_rfl) rfl (by rfl)
      refine ⟨_, by (simp only [Ent.val]; go_simp <;> exact rfl), ?_⟩
      refine Seg.step _ rfl (Or.inl ⟨by rfl, fun U hU => vp_quiet (by (go_simp <;> exact rfl))⟩) ⟨_, by (simp only [Ent.val]; go_simp <;> exact rfl), ?_⟩
      refine Seg.stop (fun U2 hU hk => ?_)
      have nb6 := hge 6 _ _ rfl
      have rb6 := (hk 6 _ 7 rfl trivial).1.1 trivial _ (Nat.zero_le _) rfl
      clear hk hge hne
      generalize th (0 + 6) = p1_6 at *
      simp only [Ent.obj] at rb6
      replace r_p0_0 := held_after hU r_p0_0
      replace r_p0_1 := held_after hU r_p0_1
      have r_p1_6 := rb6
      clear rb6
      have n_p1_6 := nb6
      clear nb6
      have sz2 := hU.size
      replace hB := bthen hB hU
      clear hU
      go_upto_region 2 with (fail)
      apply wp_region_seg0 (w := U2) (S := [.q [], .q [], .q [], .q [], .q [], .q [], .al 7, .st 6 [], .q []]) (E := [.q0 _, .q0 _, .c0 _, .q0 _, .q0 _, .q0 _, .al _ 7, .s0 6 (.cells _ _), .q0 _]) rfl (by kernel_rfl) rfl
      · intro th hge hne
        refine Seg.step _ rfl (Or.inl ⟨by rfl, fun U hU => vp_quiet (by (have h0 := held_cell (held_after hU.1 r_p0_0) 0 _ rfl; have h1 := held_cell (held_after hU.1 r_p0_0) 1 _ rfl; have h2 := held_cell (held_after hU.1 r_p0_0) 2 _ rfl; have h3 := held_cell (held_after hU.1 r_p0_0) 3 _ rfl; go_simp <;> exact rfl))⟩) ⟨_, by (simp only [Ent.val]; go_simp <;> exact rfl), ?_⟩
        refine Seg.step _ rfl (Or.inl ⟨by rfl, fun U hU => vp_quiet (by (have h0 := held_cell (held_after hU.1 r_p0_1) 0 _ rfl; have h1 := held_cell (held_after hU.1 r_p0_1) 1 _ rfl; have h2 := held_cell (held_after hU.1 r_p0_1) 2 _ rfl; have h3 := held_cell (held_after hU.1 r_p0_1) 3 _ rfl; go_simp <;> exact rfl))⟩) ⟨_, by (simp only [Ent.val]; go_simp <;> exact rfl), ?_⟩
        refine Seg.step _ rfl (Or.inl ⟨by rfl, fun U hU => ?_⟩) ?_
        · go_simp
          refine vp_call (k2.out _)
        refine ⟨_, by (simp only [Ent.val]; go_simp <;> exact rfl), ?_⟩
        refine Seg.step _ rfl (Or.inl ⟨by rfl, fun U hU => vp_quiet (by (go_simp <;> exact rfl))⟩) ⟨_, by (simp only [Ent.val]; go_simp <;> exact rfl), ?_⟩
        refine Seg.step _ rfl (Or.inl ⟨by rfl, fun U hU => vp_quiet (by (go_simp <;> exact rfl))⟩) ⟨_, by (simp only [Ent.val]; go_simp <;> exact rfl), ?_⟩
        refine Seg.step _ rfl (Or.inl ⟨by rfl, fun U hU => vp_quiet (by (go_simp <;> exact rfl))⟩) ⟨_, by (simp only [Ent.val]; go_simp <;> exact rfl), ?_⟩
        refine Seg.step _ rfl ⟨by rfl, fun U hU => ?_⟩ ?_
        · go_simp; exact vp_alloc rfl rfl rfl
        refine ⟨_, by (simp only [Ent.val]; go_simp <;> exact rfl), ?_⟩
        refine Seg.step _ rfl ⟨by rfl, fun U z k hz hU hc => ?_⟩ ?_
        · have hz2 := Option.some.inj hz
          cases hz2; clear hz
          exact vp_store_agg _ _ _ rfl hc rfl rfl (by kernel_rfl) rfl (by rfl)
        refine ⟨_, by (simp only [Ent.val]; go_simp <;> exact rfl), ?_⟩
        refine Seg.step _ rfl (Or.inl ⟨by rfl, fun U hU => vp_quiet (by (go_simp <;> exact rfl))⟩) ⟨_, by (simp only [Ent.val]; go_simp <;> exact rfl), ?_⟩
        refine Seg.stop (fun U3 hU hk => ?_)
        have nb6 := hge 6 _ _ rfl
        have rb6 := (hk 6 _ 7 rfl trivial).1.1 trivial _ (Nat.zero_le _) rfl
        clear hk hge hne
        generalize th (0 + 6) = p2_6 at *
        simp only [Ent.obj] at rb6
        replace r_p0_0 := held_after hU r_p0_0
        replace r_p0_1 := held_after hU r_p0_1
        replace r_p1_6 := held_after hU r_p1_6
        have r_p2_6 := rb6
        clear rb6
        have n_p2_6 := nb6
        clear nb6
        have sz3 := hU.size
        replace hB := bthen hB hU
        clear hU
        go_upto_region 3 with (fail)
        apply wp_region_seg (w := U3) (S := [.q [], .q [], .q [], .q [], .q [], .q [], .q [], .q [], .q [], .q [], .q [], .q [], .q [], .q [], .q [], .q [], .q [], .q [], .q [], .q [], .q []]) (E := [.q0 _, .q0 _, .q0 _, .q0 _, .q0 _, .q0 _, .q0 _, .q0 _, .q0 _, .q0 _, .q0 _, .c0 _, .q0 _, .q0 _, .c0 _, .q0 _, .q0 _, .q0 _, .c0 _, .q0 _, .q0 _]) (by kernel_rfl) rfl (by kernel_rfl) rfl
        · intro th hge hne
          refine Seg.step _ rfl (Or.inl ⟨by rfl, fun U hU => vp_quiet (by (have h0 := held_cell (held_after hU.1 r_p1_6) 0 _ rfl; have h1 := held_cell (held_after hU.1 r_p1_6) 1 _ rfl; have h2 := held_cell (held_after hU.1 r_p1_6) 2 _ rfl; have h3 := held_cell (held_after hU.1 r_p1_6) 3 _ rfl; go_simp <;> exact rfl))⟩) ⟨_, by (simp only [Ent.val]; go_simp <;> exact rfl), ?_⟩
          refine Seg.step _ rfl (Or.inl ⟨by rfl, fun U hU => vp_quiet (by (have h0 := held_cell (held_after hU.1 r_p2_6) 0 _ rfl; have h1 := held_cell (held_after hU.1 r_p2_6) 1 _ rfl; have h2 := held_cell (held_after hU.1 r_p2_6) 2 _ rfl; have h3 := held_cell (held_after hU.1 r_p2_6) 3 _ rfl; go_simp <;> exact rfl))⟩) ⟨_, by (simp only [Ent.val]; go_simp <;> exact rfl), ?_⟩
          refine Seg.step _ rfl (Or.inl ⟨by rfl, fun U hU => vp_quiet (by (go_simp <;> exact rfl))⟩) ⟨_, by (simp only [Ent.val]; go_simp <;> exact rfl), ?_⟩
          refine Seg.step _ rfl (Or.inl ⟨by rfl, fun U hU => vp_quiet (by (go_simp <;> exact rfl))⟩) ⟨_, by (simp only [Ent.val]; go_simp <;> exact rfl), ?_⟩
          refine Seg.step _ rfl (Or.inl ⟨by rfl, fun U hU => vp_quiet (by (go_simp <;> exact rfl))⟩) ⟨_, by (simp only [Ent.val]; go_simp <;> exact rfl), ?_⟩
          refine Seg.step _ rfl (Or.inl ⟨by rfl, fun U hU => vp_quiet (by (go_simp <;> exact rfl))⟩) ⟨_, by (simp only [Ent.val]; go_simp <;> exact rfl), ?_⟩
          refine Seg.step _ rfl (Or.inl ⟨by rfl, fun U hU => vp_quiet (by (go_simp <;> exact rfl))⟩) ⟨_, by (simp only [Ent.val]; go_simp <;> exact rfl), ?_⟩
          refine Seg.step _ rfl (Or.inl ⟨by rfl, fun U hU => vp_quiet (by (go_simp <;> exact rfl))⟩) ⟨_, by (simp only [Ent.val]; go_simp <;> exact rfl), ?_⟩
          refine Seg.step _ rfl (Or.inl ⟨by rfl, fun U hU => vp_quiet (by (go_simp <;> exact rfl))⟩) ⟨_, by (simp only [Ent.val]; go_simp <;> exact rfl), ?_⟩
          refine Seg.step _ rfl (Or.inl ⟨by rfl, fun U hU => vp_quiet (by (have h0 := held_cell (held_after hU.1 r_p0_0) 0 _ rfl; have h1 := held_cell (held_after hU.1 r_p0_0) 1 _ rfl; have h2 := held_cell (held_after hU.1 r_p0_0) 2 _ rfl; have h3 := held_cell (held_after hU.1 r_p0_0) 3 _ rfl; go_simp <;> exact rfl))⟩) ⟨_, by (simp only [Ent.val]; go_simp <;> exact rfl), ?_⟩
          refine Seg.step _ rfl (Or.inl ⟨by rfl, fun U hU => vp_quiet (by (have h0 := held_cell (held_after hU.1 r_p0_1) 0 _ rfl; have h1 := held_cell (held_after hU.1 r_p0_1) 1 _ rfl; have h2 := held_cell (held_after hU.1 r_p0_1) 2 _ rfl; have h3 := held_cell (held_after hU.1 r_p0_1) 3 _ rfl; go_simp <;> exact rfl))⟩) ⟨_, by (simp only [Ent.val]; go_simp <;> exact rfl), ?_⟩
          refine Seg.step _ rfl (Or.inl ⟨by rfl, fun U hU => ?_⟩) ?_
          · go_simp
            refine vp_call (k3.out _)
          refine ⟨_, by (simp only [Ent.val]; go_simp <;> exact rfl), ?_⟩
          refine Seg.step _ rfl (Or.inl ⟨by rfl, fun U hU => vp_quiet (by (have h0 := held_cell (held_after hU.1 r_p0_0) 0 _ rfl; have h1 := held_cell (held_after hU.1 r_p0_0) 1 _ rfl; have h2 := held_cell (held_after hU.1 r_p0_0) 2 _ rfl; have h3 := held_cell (held_after hU.1 r_p0_0) 3 _ rfl; go_simp <;> exact rfl))⟩) ⟨_, by (simp only [Ent.val]; go_simp <;> exact rfl), ?_⟩
          refine Seg.step _ rfl (Or.inl ⟨by rfl, fun U hU => vp_quiet (by (have h0 := held_cell (held_after hU.1 r_p0_1) 0 _ rfl; have h1 := held_cell (held_after hU.1 r_p0_1) 1 _ rfl; have h2 := held_cell (held_after hU.1 r_p0_1) 2 _ rfl; have h3 := held_cell (held_after hU.1 r_p0_1) 3 _ rfl; go_simp <;> exact rfl))⟩) ⟨_, by (simp only [Ent.val]; go_simp <;> exact rfl), ?_⟩
          refine Seg.step _ rfl (Or.inl ⟨by rfl, fun U hU => ?_⟩) ?_
          · go_simp
            refine vp_call (k4.out _)
          refine ⟨_, by (simp only [Ent.val]; go_simp <;> exact rfl), ?_⟩
          refine Seg.step _ rfl (Or.inl ⟨by rfl, fun U hU => vp_quiet (by (go_simp <;> exact rfl))⟩) ⟨_, by (simp only [Ent.val]; go_simp <;> exact rfl), ?_⟩
          refine Seg.step _ rfl (Or.inl ⟨by rfl, fun U hU => vp_quiet (by (go_simp <;> exact rfl))⟩) ⟨_, by (simp only [Ent.val]; go_simp <;> exact rfl), ?_⟩
          refine Seg.step _ rfl (Or.inl ⟨by rfl, fun U hU => vp_quiet (by (go_simp <;> exact rfl))⟩) ⟨_, by (simp only [Ent.val]; go_simp <;> exact rfl), ?_⟩
          refine Seg.step _ rfl (Or.inl ⟨by rfl, fun U hU => ?_⟩) ?_
          · go_simp
            refine vp_call (knows10_any _)
          refine ⟨_, by (simp only [Ent.val]; go_simp <;> exact rfl), ?_⟩
          refine Seg.step _ rfl (Or.inl ⟨by rfl, fun U hU => vp_quiet (by (go_simp <;> exact rfl))⟩) ⟨_, by (simp only [Ent.val]; go_simp <;> exact rfl), ?_⟩
          refine Seg.step _ rfl (Or.inl ⟨by rfl, fun U hU => vp_quiet (by (go_simp <;> exact rfl))⟩) ⟨_, by (simp only [Ent.val]; go_simp <;> exact rfl), ?_⟩
          refine Seg.stop (fun U4 hU hk => ?_)
          clear hk hge hne
          replace r_p0_0 := held_after hU r_p0_0
          replace r_p0_1 := held_after hU r_p0_1
          replace r_p1_6 := held_after hU r_p1_6
          replace r_p2_6 := held_after hU r_p2_6
          have sz4 := hU.size
          replace hB := bthen hB hU
          clear hU
          go_wp2_with fail
          go_ret
          exact ⟨rfl, hB⟩

set_option maxRecDepth 100000 in
set_option maxHeartbeats 4000000 in
theorem law_QuatParts (a0_0 a0_1 a0_2 a0_3 : Int) (W : World) (w0_0 : (Lit.int .i32 a0_0).wf = true) (w0_1 : (Lit.int .i32 a0_1).wf = true) (w0_2 : (Lit.int .i32 a0_2).wf = true) (w0_3 : (Lit.int .i32 a0_3).wf = true) :
    Calls Try.prog 4 #[.agg #[.int .i32 a0_0, .int .i32 a0_1, .int .i32 a0_2, .int .i32 a0_3]] W fun e w' => e = .returned (.bool true) ∧ Below W.heap.size W w' := by
  obtain ⟨s00, s01, s02, s03, n0, hV0⟩ := cut4_form a0_0 (-a0_1) (-a0_2) (-a0_3)
  obtain ⟨s10, s11, s12, s13, n1, hV1⟩ := cut4_form (-a0_0) (-a0_1) (-a0_2) (-a0_3)
  have k1 := hid (fun (v : World) => hV0 ▸ qconj_any a0_0 a0_1 a0_2 a0_3 v (b32_of w0_0) (b32_of w0_1) (b32_of w0_2) (b32_of w0_3))
  have k2 := hid (fun (v : World) => hV0 ▸ rconj_any a0_0 a0_1 a0_2 a0_3 v (b32_of w0_0) (b32_of w0_1) (b32_of w0_2) (b32_of w0_3))
  have k3 := hid (fun (v : World) => hV1 ▸ qneg_any a0_0 a0_1 a0_2 a0_3 v (b32_of w0_0) (b32_of w0_1) (b32_of w0_2) (b32_of w0_3))
  have k4 := hid (fun (v : World) => hV1 ▸ rqneg_any a0_0 a0_1 a0_2 a0_3 v (b32_of w0_0) (b32_of w0_1) (b32_of w0_2) (b32_of w0_3))
  have k5 := hid (fun (v : World) => qnorm_any a0_0 a0_1 a0_2 a0_3 v (b32_of w0_0) (b32_of w0_1) (b32_of w0_2) (b32_of w0_3))
  have k6 := hid (fun (v : World) => rqnorm_any a0_0 a0_1 a0_2 a0_3 v (b32_of w0_0) (b32_of w0_1) (b32_of w0_2) (b32_of w0_3))
  generalize sqs [a0_0, a0_1, a0_2, a0_3] 0 = D at k5 k6
  clear hV0 hV1
  go_enter Try.func4, Try.ntmps4
  go_upto_region 0 with (fail)
  apply wp_region_seg0 (w := W) (S := [.al 1000, .q []]) (E := [.al _ 1000, .q0 _]) rfl (by kernel_rfl) rfl
  · intro th hge hne
    refine Seg.step _ rfl ⟨by rfl, fun U hU => ?_⟩ ?_
    · go_simp; exact vp_alloc rfl rfl rfl
    refine ⟨_, by (simp only [Ent.val]; go_simp <;> exact rfl), ?_⟩
    refine Seg.step _ rfl (Or.inl ⟨by rfl, fun U hU => vp_quiet (by (go_simp <;> exact rfl))⟩) ⟨_, by (simp only [Ent.val]; go_simp <;> exact rfl), ?_⟩
    refine Seg.stop (fun U1 hU hk => ?_)
    have nb0 := hge 0 _ _ rfl
    have rb0 := (hk 0 _ _ rfl trivial).1.2 (by simp)
    clear hk hge hne
    generalize th (0 + 0) = p0_0 at *
    skip
    have r_p0_0 := rb0
    clear rb0
    have n_p0_0 := nb0
    clear nb0
    have sz1 := hU.size
    have hB : Below W.heap.size W U1 := hU
    clear hU
    go_upto_region 1 with (fail)
    apply wp_region_seg0 (w := U1) (S := [.q [], .q [], .q [], .q [], .q [], .al 6, .st 5 [], .q []]) (E := [.q0 _, .c0 _, .q0 _, .q0 _, .q0 _, .al _ 6, .s0 5 (.cells _ _), .q0 _]) rfl (by kernel_rfl) rfl
    · intro th hge hne
      refine Seg.step _ rfl (Or.inl ⟨by rfl, fun U hU => vp_quiet (by (have h0 := held_cell (held_after hU.1 r_p0_0) 0 _ rfl; have h1 := held_cell (held_after hU.1 r_p0_0) 1 _ rfl; have h2 := held_cell (held_after hU.1 r_p0_0) 2 _ rfl; have h3 := held_cell (held_after hU.1 r_p0_0) 3 _ rfl; go_simp <;> exact rfl))⟩) ⟨_, by (simp only [Ent.val]; go_simp <;> exact rfl), ?_⟩
      refine Seg.step _ rfl (Or.inl ⟨by rfl, fun U hU => ?_⟩) ?_
      · go_simp
        refine vp_call (k1.out _)
      refine ⟨_, by (simp only [Ent.val]; go_simp <;> exact rfl), ?_⟩
      refine Seg.step _ rfl (Or.inl ⟨by rfl, fun U hU => vp_quiet (by (go_simp <;> exact rfl))⟩) ⟨_, by (simp only [Ent.val]; go_simp <;> exact rfl), ?_⟩
      refine Seg.step _ rfl (Or.inl ⟨by rfl, fun U hU => vp_quiet (by (go_simp <;> exact rfl))⟩) ⟨_, by (simp only [Ent.val]; go_simp <;> exact rfl), ?_⟩
      refine Seg.step _ rfl (Or.inl ⟨by rfl, fun U hU => vp_quiet (by (go_simp <;> exact rfl))⟩) ⟨_, by (simp only [Ent.val]; go_simp <;> exact rfl), ?_⟩
      refine Seg.step _ rfl ⟨by rfl, fun U hU => ?_⟩ ?_
      · go_simp; exact vp_alloc rfl rfl rfl
      refine ⟨_, by (simp only [Ent.val]; go_simp <;> exact rfl), ?_⟩
      refine Seg.step _ rfl ⟨by rfl, fun U z k hz hU hc => ?_⟩ ?_
      · have hz2 := Option.some.inj hz
        cases hz2; clear hz
        exact vp_store_agg _ _ _ rfl hc rfl rfl (by kernel_rfl) rfl (by rfl)
      refine ⟨_, by (simp only [Ent.val]; go_simp <;> exact rfl), ?_⟩
      refine Seg.step _ rfl (Or.inl ⟨by rfl, fun U hU => vp_quiet (by (go_simp <;> exact rfl))⟩) ⟨_, by (simp only [Ent.val]; go_simp <;> exact rfl), ?_⟩
      refine Seg.stop (fun U2 hU hk => ?_)
      have nb5 := hge 5 _ _ rfl
      have rb5 := (hk 5 _ 6 rfl trivial).1.1 trivial _ (Nat.zero_le _) rfl
      clear hk hge hne
      generalize th (0 + 5) = p1_5 at *
      simp only [Ent.obj] at rb5
      replace r_p0_0 := held_after hU r_p0_0
      have r_p1_5 := rb5
      clear rb5
      have n_p1_5 := nb5
      clear nb5
      have sz2 := hU.size
      replace hB := bthen hB hU
      clear hU
      go_upto_region 2 with (fail)
      apply wp_region_seg0 (w := U2) (S := [.q [], .q [], .q [], .q [], .q [], .al 6, .st 5 [], .q []]) (E := [.q0 _, .c0 _, .q0 _, .q0 _, .q0 _, .al _ 6, .s0 5 (.cells _ _), .q0 _]) rfl (by kernel_rfl) rfl
      · intro th hge hne
        refine Seg.step _ rfl (Or.inl ⟨by rfl, fun U hU => vp_quiet (by (have h0 := held_cell (held_after hU.1 r_p0_0) 0 _ rfl; have h1 := held_cell (held_after hU.1 r_p0_0) 1 _ rfl; have h2 := held_cell (held_after hU.1 r_p0_0) 2 _ rfl; have h3 := held_cell (held_after hU.1 r_p0_0) 3 _ rfl; go_simp <;> exact rfl))⟩) ⟨_, by (simp only [Ent.val]; go_simp <;> exact rfl), ?_⟩
        refine Seg.step _ rfl (Or.inl ⟨by rfl, fun U hU => ?_⟩) ?_
        · go_simp
          refine vp_call (k2.out _)
        refine ⟨_, by (simp only [Ent.val]; go_simp <;> exact rfl), ?_⟩
        refine Seg.step _ rfl (Or.inl ⟨by rfl, fun U hU => vp_quiet (by (go_simp <;> exact rfl))⟩) ⟨_, by (simp only [Ent.val]; go_simp <;> exact rfl), ?_⟩
        refine Seg.step _ rfl (Or.inl ⟨by rfl, fun U hU => vp_quiet (by (go_simp <;> exact rfl))⟩) ⟨_, by (simp only [Ent.val]; go_simp <;> exact rfl), ?_⟩
        refine Seg.step _ rfl (Or.inl ⟨by rfl, fun U hU => vp_quiet (by (go_simp <;> exact rfl))⟩) ⟨_, by (simp only [Ent.val]; go_simp <;> exact rfl), ?_⟩
        refine Seg.step _ rfl ⟨by rfl, fun U hU => ?_⟩ ?_
        · go_simp; exact vp_alloc rfl rfl rfl
        refine ⟨_, by (simp only [Ent.val]; go_simp <;> exact rfl), ?_⟩
        refine Seg.step _ rfl ⟨by rfl, fun U z k hz hU hc => ?_⟩ ?_
        · have hz2 := Option.some.inj hz
          cases hz2; clear hz
          exact vp_store_agg _ _ _ rfl hc rfl rfl (by kernel_rfl) rfl (by rfl)
        refine ⟨_, by (simp only [Ent.val]; go_simp <;> exact rfl), ?_⟩
        refine Seg.step _ rfl (Or.inl ⟨by rfl, fun U hU => vp_quiet (by (go_simp <;> exact rfl))⟩) ⟨_, by (simp only [Ent.val]; go_simp <;> exact rfl), ?_⟩
        refine Seg.stop (fun U3 hU hk => ?_)
        have nb5 := hge 5 _ _ rfl
        have rb5 := (hk 5 _ 6 rfl trivial).1.1 trivial _ (Nat.zero_le _) rfl
        clear hk hge hne
        generalize th (0 + 5) = p2_5 at *
        simp only [Ent.obj] at rb5
        replace r_p0_0 := held_after hU r_p0_0
        replace r_p1_5 := held_after hU r_p1_5
        have r_p2_5 := rb5
        clear rb5
        have n_p2_5 := nb5
        clear nb5
        have sz3 := hU.size
        replace hB := bthen hB hU
        clear hU
        go_upto_region 3 with (fail)
        apply wp_region_seg0 (w := U3) (S := [.q [], .q [], .q [], .q [], .q [], .al 6, .st 5 [], .q []]) (E := [.q0 _, .c0 _, .q0 _, .q0 _, .q0 _, .al _ 6, .s0 5 (.cells _ _), .q0 _]) rfl (by kernel_rfl) rfl
        · intro th hge hne
          refine Seg.step _ rfl (Or.inl ⟨by rfl, fun U hU => vp_quiet (by (have h0 := held_cell (held_after hU.1 r_p0_0) 0 _ rfl; have h1 := held_cell (held_after hU.1 r_p0_0) 1 _ rfl; have h2 := held_cell (held_after hU.1 r_p0_0) 2 _ rfl; have h3 := held_cell (held_after hU.1 r_p0_0) 3 _ rfl; go_simp <;> exact rfl))⟩) ⟨_, by (simp only [Ent.val]; go_simp <;> exact rfl), ?_⟩
          refine Seg.step _ rfl (Or.inl ⟨by rfl, fun U hU => ?_⟩) ?_
          · go_simp
            refine vp_call (k3.out _)
          refine ⟨_, by (simp only [Ent.val]; go_simp <;> exact rfl), ?_⟩
          refine Seg.step _ rfl (Or.inl ⟨by rfl, fun U hU => vp_quiet (by (go_simp <;> exact rfl))⟩) ⟨_, by (simp only [Ent.val]; go_simp <;> exact rfl), ?_⟩
          refine Seg.step _ rfl (Or.inl ⟨by rfl, fun U hU => vp_quiet (by (go_simp <;> exact rfl))⟩) ⟨_, by (simp only [Ent.val]; go_simp <;> exact rfl), ?_⟩
          refine Seg.step _ rfl (Or.inl ⟨by rfl, fun U hU => vp_quiet (by (go_simp <;> exact rfl))⟩) ⟨_, by (simp only [Ent.val]; go_simp <;> exact rfl), ?_⟩
          refine Seg.step _ rfl ⟨by rfl, fun U hU => ?_⟩ ?_
          · go_simp; exact vp_alloc rfl rfl rfl
          refine ⟨_, by (simp only [Ent.val]; go_simp <;> exact rfl), ?_⟩
          refine Seg.step _ rfl ⟨by rfl, fun U z k hz hU hc => ?_⟩ ?_
          · have hz2 := Option.some.inj hz
            cases hz2; clear hz
            exact vp_store_agg _ _ _ rfl hc rfl rfl (by kernel_rfl) rfl (by rfl)
          refine ⟨_, by (simp only [Ent.val]; go_simp <;> exact rfl), ?_⟩
          refine Seg.step _ rfl (Or.inl ⟨by rfl, fun U hU => vp_quiet (by (go_simp <;> exact rfl))⟩) ⟨_, by (simp only [Ent.val]; go_simp <;> exact rfl), ?_⟩
          refine Seg.stop (fun U4 hU hk => ?_)
          have nb5 := hge 5 _ _ rfl
          have rb5 := (hk 5 _ 6 rfl trivial).1.1 trivial _ (Nat.zero_le _) rfl
          clear hk hge hne
          generalize th (0 + 5) = p3_5 at *
          simp only [Ent.obj] at rb5
          replace r_p0_0 := held_after hU r_p0_0
          replace r_p1_5 := held_after hU r_p1_5
          replace r_p2_5 := held_after hU r_p2_5
          have r_p3_5 := rb5
          clear rb5
          have n_p3_5 := nb5
          clear nb5
          have sz4 := hU.size
          replace hB := bthen hB hU
          clear hU
          go_upto_region 4 with (fail)
          apply wp_region_seg0 (w := U4) (S := [.q [], .q [], .q [], .q [], .q [], .al 6, .st 5 [], .q []]) (E := [.q0 _, .c0 _, .q0 _, .q0 _, .q0 _, .al _ 6, .s0 5 (.cells _ _), .q0 _]) rfl (by kernel_rfl) rfl
          · intro th hge hne
            refine Seg.step _ rfl (Or.inl ⟨by rfl, fun U hU => vp_quiet (by (have h0 := held_cell (held_after hU.1 r_p0_0) 0 _ rfl; have h1 := held_cell (held_after hU.1 r_p0_0) 1 _ rfl; have h2 := held_cell (held_after hU.1 r_p0_0) 2 _ rfl; have h3 := held_cell (held_after hU.1 r_p0_0) 3 _ rfl; go_simp <;> exact rfl))⟩) ⟨_, by (simp only [Ent.val]; go_simp <;> exact rfl), ?_⟩
            refine Seg.step _ rfl (Or.inl ⟨by rfl, fun U hU => ?_⟩) ?_
            · go_simp
              refine vp_call (k4.out _)
            refine ⟨_, by (simp only [Ent.val]; go_simp <;> exact rfl), ?_⟩
            refine Seg.step _ rfl (Or.inl ⟨by rfl, fun U hU => vp_quiet (by (go_simp <;> exact rfl))⟩) ⟨_, by (simp only [Ent.val]; go_simp <;> exact rfl), ?_⟩
            refine Seg.step _ rfl (Or.inl ⟨by rfl, fun U hU => vp_quiet (by (go_simp <;> exact rfl))⟩) ⟨_, by (simp only [Ent.val]; go_simp <;> exact rfl), ?_⟩
            refine Seg.step _ rfl (Or.inl ⟨by rfl, fun U hU => vp_quiet (by (go_simp <;> exact rfl))⟩) ⟨_, by (simp only [Ent.val]; go_simp <;> exact rfl), ?_⟩
            refine Seg.step _ rfl ⟨by rfl, fun U hU => ?_⟩ ?_
            · go_simp; exact vp_alloc rfl rfl rfl
            refine ⟨_, by (simp only [Ent.val]; go_simp <;> exact rfl), ?_⟩
            refine Seg.step _ rfl ⟨by rfl, fun U z k hz hU hc => ?_⟩ ?_
            · have hz2 := Option.some.inj hz
              cases hz2; clear hz
              exact vp_store_agg _ _ _ rfl hc rfl rfl (by kernel_rfl) rfl (by rfl)
            refine ⟨_, by (simp only [Ent.val]; go_simp <;> exact rfl), ?_⟩
            refine Seg.step _ rfl (Or.inl ⟨by rfl, fun U hU => vp_quiet (by (go_simp <;> exact rfl))⟩) ⟨_, by (simp only [Ent.val]; go_simp <;> exact rfl), ?_⟩
            refine Seg.stop (fun U5 hU hk => ?_)
            have nb5 := hge 5 _ _ rfl
            have rb5 := (hk 5 _ 6 rfl trivial).1.1 trivial _ (Nat.zero_le _) rfl
            clear hk hge hne
            generalize th (0 + 5) = p4_5 at *
            simp only [Ent.obj] at rb5
            replace r_p0_0 := held_after hU r_p0_0
            replace r_p1_5 := held_after hU r_p1_5
            replace r_p2_5 := held_after hU r_p2_5
            replace r_p3_5 := held_after hU r_p3_5
            have r_p4_5 := rb5
            clear rb5
            have n_p4_5 := nb5
            clear nb5
            have sz5 := hU.size
            replace hB := bthen hB hU
            clear hU
            go_upto_region 5 with (fail)
            apply wp_region_seg (w := U5) (S := [.q [], .q [], .q [], .q [], .q [], .q [], .q [], .q [], .q [], .q [], .q [], .q [], .q [], .q [], .q [], .q [], .q [], .q [], .q [], .q [], .q [], .q [], .q [], .q [], .q [], .q [], .q [], .q [], .q []]) (E := [.q0 _, .q0 _, .q0 _, .q0 _, .q0 _, .q0 _, .q0 _, .q0 _, .q0 _, .q0 _, .q0 _, .q0 _, .q0 _, .q0 _, .q0 _, .q0 _, .q0 _, .q0 _, .q0 _, .q0 _, .c0 _, .q0 _, .c0 _, .q0 _, .q0 _, .q0 _, .c0 _, .q0 _, .q0 _]) (by kernel_rfl) rfl (by kernel_rfl) rfl
            · intro th hge hne
              refine Seg.step _ rfl (Or.inl ⟨by rfl, fun U hU => vp_quiet (by (have h0 := held_cell (held_after hU.1 r_p1_5) 0 _ rfl; have h1 := held_cell (held_after hU.1 r_p1_5) 1 _ rfl; have h2 := held_cell (held_after hU.1 r_p1_5) 2 _ rfl; have h3 := held_cell (held_after hU.1 r_p1_5) 3 _ rfl; go_simp <;> exact rfl))⟩) ⟨_, by (simp only [Ent.val]; go_simp <;> exact rfl), ?_⟩
              refine Seg.step _ rfl (Or.inl ⟨by rfl, fun U hU => vp_quiet (by (have h0 := held_cell (held_after hU.1 r_p2_5) 0 _ rfl; have h1 := held_cell (held_after hU.1 r_p2_5) 1 _ rfl; have h2 := held_cell (held_after hU.1 r_p2_5) 2 _ rfl; have h3 := held_cell (held_after hU.1 r_p2_5) 3 _ rfl; go_simp <;> exact rfl))⟩) ⟨_, by (simp only [Ent.val]; go_simp <;> exact rfl), ?_⟩
              refine Seg.step _ rfl (Or.inl ⟨by rfl, fun U hU => vp_quiet (by (go_simp <;> exact rfl))⟩) ⟨_, by (simp only [Ent.val]; go_simp <;> exact rfl), ?_⟩
              refine Seg.step _ rfl (Or.inl ⟨by rfl, fun U hU => vp_quiet (by (go_simp <;> exact rfl))⟩) ⟨_, by (simp only [Ent.val]; go_simp <;> exact rfl), ?_⟩
              refine Seg.step _ rfl (Or.inl ⟨by rfl, fun U hU => vp_quiet (by (go_simp <;> exact rfl))⟩) ⟨_, by (simp only [Ent.val]; go_simp <;> exact rfl), ?_⟩
              refine Seg.step _ rfl (Or.inl ⟨by rfl, fun U hU => vp_quiet (by (go_simp <;> exact rfl))⟩) ⟨_, by (simp only [Ent.val]; go_simp <;> exact rfl), ?_⟩
              refine Seg.step _ rfl (Or.inl ⟨by rfl, fun U hU => vp_quiet (by (go_simp <;> exact rfl))⟩) ⟨_, by (simp only [Ent.val]; go_simp <;> exact rfl), ?_⟩
              refine Seg.step _ rfl (Or.inl ⟨by rfl, fun U hU => vp_quiet (by (go_simp <;> exact rfl))⟩) ⟨_, by (simp only [Ent.val]; go_simp <;> exact rfl), ?_⟩
              refine Seg.step _ rfl (Or.inl ⟨by rfl, fun U hU => vp_quiet (by (go_simp <;> exact rfl))⟩) ⟨_, by (simp only [Ent.val]; go_simp <;> exact rfl), ?_⟩
              refine Seg.step _ rfl (Or.inl ⟨by rfl, fun U hU => vp_quiet (by (have h0 := held_cell (held_after hU.1 r_p3_5) 0 _ rfl; have h1 := held_cell (held_after hU.1 r_p3_5) 1 _ rfl; have h2 := held_cell (held_after hU.1 r_p3_5) 2 _ rfl; have h3 := held_cell (held_after hU.1 r_p3_5) 3 _ rfl; go_simp <;> exact rfl))⟩) ⟨_, by (simp only [Ent.val]; go_simp <;> exact rfl), ?_⟩
              refine Seg.step _ rfl (Or.inl ⟨by rfl, fun U hU => vp_quiet (by (have h0 := held_cell (held_after hU.1 r_p4_5) 0 _ rfl; have h1 := held_cell (held_after hU.1 r_p4_5) 1 _ rfl; have h2 := held_cell (held_after hU.1 r_p4_5) 2 _ rfl; have h3 := held_cell (held_after hU.1 r_p4_5) 3 _ rfl; go_simp <;> exact rfl))⟩) ⟨_, by (simp only [Ent.val]; go_simp <;> exact rfl), ?_⟩
              refine Seg.step _ rfl (Or.inl ⟨by rfl, fun U hU => vp_quiet (by (go_simp <;> exact rfl))⟩) ⟨_, by (simp only [Ent.val]; go_simp <;> exact rfl), ?_⟩
              refine Seg.step _ rfl (Or.inl ⟨by rfl, fun U hU => vp_quiet (by (go_simp <;> exact rfl))⟩) ⟨_, by (simp only [Ent.val]; go_simp <;> exact rfl), ?_⟩
              refine Seg.step _ rfl (Or.inl ⟨by rfl, fun U hU => vp_quiet (by (go_simp <;> exact rfl))⟩) ⟨_, by (simp only [Ent.val]; go_simp <;> exact rfl), ?_⟩
              refine Seg.step _ rfl (Or.inl ⟨by rfl, fun U hU => vp_quiet (by (go_simp <;> exact rfl))⟩) ⟨_, by (simp only [Ent.val]; go_simp <;> exact rfl), ?_⟩
              refine Seg.step _ rfl (Or.inl ⟨by rfl, fun U hU => vp_quiet (by (go_simp <;> exact rfl))⟩) ⟨_, by (simp only [Ent.val]; go_simp <;> exact rfl), ?_⟩
              refine Seg.step _ rfl (Or.inl ⟨by rfl, fun U hU => vp_quiet (by (go_simp <;> exact rfl))⟩) ⟨_, by (simp only [Ent.val]; go_simp <;> exact rfl), ?_⟩
              refine Seg.step _ rfl (Or.inl ⟨by rfl, fun U hU => vp_quiet (by (go_simp <;> exact rfl))⟩) ⟨_, by (simp only [Ent.val]; go_simp <;> exact rfl), ?_⟩
              refine Seg.step _ rfl (Or.inl ⟨by rfl, fun U hU => vp_quiet (by (go_simp <;> exact rfl))⟩) ⟨_, by (simp only [Ent.val]; go_simp <;> exact rfl), ?_⟩
              refine Seg.step _ rfl (Or.inl ⟨by rfl, fun U hU => vp_quiet (by (have h0 := held_cell (held_after hU.1 r_p0_0) 0 _ rfl; have h1 := held_cell (held_after hU.1 r_p0_0) 1 _ rfl; have h2 := held_cell (held_after hU.1 r_p0_0) 2 _ rfl; have h3 := held_cell (held_after hU.1 r_p0_0) 3 _ rfl; go_simp <;> exact rfl))⟩) ⟨_, by (simp only [Ent.val]; go_simp <;> exact rfl), ?_⟩
              refine Seg.step _ rfl (Or.inl ⟨by rfl, fun U hU => ?_⟩) ?_
              · go_simp
                refine vp_call (k5.out _)
              refine ⟨_, by (simp only [Ent.val]; go_simp <;> exact rfl), ?_⟩
              refine Seg.step _ rfl (Or.inl ⟨by rfl, fun U hU => vp_quiet (by (have h0 := held_cell (held_after hU.1 r_p0_0) 0 _ rfl; have h1 := held_cell (held_after hU.1 r_p0_0) 1 _ rfl; have h2 := held_cell (held_after hU.1 r_p0_0) 2 _ rfl; have h3 := held_cell (held_after hU.1 r_p0_0) 3 _ rfl; go_simp <;> exact rfl))⟩) ⟨_, by (simp only [Ent.val]; go_simp <;> exact rfl), ?_⟩
              refine Seg.step _ rfl (Or.inl ⟨by rfl, fun U hU => ?_⟩) ?_
              · go_simp
                refine vp_call (k6.out _)
              refine ⟨_, by (simp only [Ent.val]; go_simp <;> exact rfl), ?_⟩
              refine Seg.step _ rfl (Or.inl ⟨by rfl, fun U hU => vp_quiet (by (go_simp <;> exact rfl))⟩) ⟨_, by (simp only [Ent.val]; go_simp <;> exact rfl), ?_⟩
              refine Seg.step _ rfl (Or.inl ⟨by rfl, fun U hU => vp_quiet (by (go_simp <;> exact rfl))⟩) ⟨_, by (simp only [Ent.val]; go_simp <;> exact rfl), ?_⟩
              refine Seg.step _ rfl (Or.inl ⟨by rfl, fun U hU => vp_quiet (by (go_simp <;> exact rfl))⟩) ⟨_, by (simp only [Ent.val]; go_simp <;> exact rfl), ?_⟩
              refine Seg.step _ rfl (Or.inl ⟨by rfl, fun U hU => ?_⟩) ?_
              · go_simp
                refine vp_call (knows10_any _)
              refine ⟨_, by (simp only [Ent.val]; go_simp <;> exact rfl), ?_⟩
              refine Seg.step _ rfl (Or.inl ⟨by rfl, fun U hU => vp_quiet (by (go_simp <;> exact rfl))⟩) ⟨_, by (simp only [Ent.val]; go_simp <;> exact rfl), ?_⟩
              refine Seg.step _ rfl (Or.inl ⟨by rfl, fun U hU => vp_quiet (by (go_simp <;> exact rfl))⟩) ⟨_, by (simp only [Ent.val]; go_simp <;> exact rfl), ?_⟩
              refine Seg.stop (fun U6 hU hk => ?_)
              clear hk hge hne
              replace r_p0_0 := held_after hU r_p0_0
              replace r_p1_5 := held_after hU r_p1_5
              replace r_p2_5 := held_after hU r_p2_5
              replace r_p3_5 := held_after hU r_p3_5
              replace r_p4_5 := held_after hU r_p4_5
              have sz6 := hU.size
              replace hB := bthen hB hU
              clear hU
              go_wp2_with fail
              go_ret
              exact ⟨rfl, hB⟩


end Go.Proofs.Ytdifdfmpfpnlmaa
