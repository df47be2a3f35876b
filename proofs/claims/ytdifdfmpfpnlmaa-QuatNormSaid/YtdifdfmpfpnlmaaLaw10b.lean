/- The laws QuatNorm and QuatOrder, walked. -/
import Derived.Test.YtdifdfmpfpnlmaaQuatMath
namespace Go.Proofs.Ytdifdfmpfpnlmaa
open Go.ChangeShapes Go.WideShapes Go.ChangeAt Go.RowKit
set_option linter.unusedVariables false

def nearB (n b : Int) : Bool := decide (n ≤ 1152921504606846976 + b) && decide (1152921504606846976 - b ≤ n)
set_option maxRecDepth 100000 in
theorem quatnear_any (n b : Int) (w : World) (h0 : 0 ≤ n) (h1 : n ≤ 18446744073709551615) (g0 : 0 ≤ b) (g1 : b ≤ 4398046511104) : Calls Try.prog 18 #[.int .u64 n, .int .u64 b] w fun e w' => e = .returned (.bool (nearB n b)) ∧ Below w.heap.size w w' := by
  have f1 : IntKind.u64.wrap (1152921504606846976 + b) = 1152921504606846976 + b := by rw [IntKind.wrap_u64]; omega
  have f2 : IntKind.u64.wrap (1152921504606846976 - b) = 1152921504606846976 - b := by rw [IntKind.wrap_u64]; omega
  unfold nearB
  by_cases c1 : n ≤ 1152921504606846976 + b
  · have d1 : decide (n ≤ 1152921504606846976 + b) = true := by simpa using c1
    rw [d1, Bool.true_and]
    clear d1
    go_enter Try.func18, Try.ntmps18
    go_wp2_with fail
    go_ret
    exact ⟨rfl, Below.refl _ _⟩
  · have d1 : decide (n ≤ 1152921504606846976 + b) = false := by simpa using c1
    rw [d1, Bool.false_and]
    go_enter Try.func18, Try.ntmps18
    go_wp2_with fail
    go_ret
    exact ⟨rfl, Below.refl _ _⟩
theorem nearB_iff {n b : Int} (h : nearB n b = true) : n ≤ 1152921504606846976 + b ∧ 1152921504606846976 - b ≤ n := by unfold nearB at h; simpa using h
theorem nearB_mk {n b : Int} (h1 : n ≤ 1152921504606846976 + b) (h2 : 1152921504606846976 - b ≤ n) : nearB n b = true := by unfold nearB; simpa using ⟨h1, h2⟩

set_option maxRecDepth 100000 in
set_option maxHeartbeats 8000000 in
theorem law_QuatNorm (a0_0 a0_1 a0_2 a0_3 : Int) (a1_0 a1_1 a1_2 a1_3 : Int) (W : World) (w0_0 : (Lit.int .i32 a0_0).wf = true) (w0_1 : (Lit.int .i32 a0_1).wf = true) (w0_2 : (Lit.int .i32 a0_2).wf = true) (w0_3 : (Lit.int .i32 a0_3).wf = true) (w1_0 : (Lit.int .i32 a1_0).wf = true) (w1_1 : (Lit.int .i32 a1_1).wf = true) (w1_2 : (Lit.int .i32 a1_2).wf = true) (w1_3 : (Lit.int .i32 a1_3).wf = true) :
    Calls Try.prog 5 #[.agg #[.int .i32 a0_0, .int .i32 a0_1, .int .i32 a0_2, .int .i32 a0_3], .agg #[.int .i32 a1_0, .int .i32 a1_1, .int .i32 a1_2, .int .i32 a1_3]] W fun e w' => e = .returned (.bool true) ∧ Below W.heap.size W w' := by
  have p0 := b32_of w0_0
  have q0 := b32_of w1_0
  have p1 := b32_of w0_1
  have q1 := b32_of w1_1
  have p2 := b32_of w0_2
  have q2 := b32_of w1_2
  have p3 := b32_of w0_3
  have q3 := b32_of w1_3
  have hA := sqs_min a0_0 a0_1 a0_2 a0_3 p0 p1 p2 p3
  have hC := sqs_min a1_0 a1_1 a1_2 a1_3 q0 q1 q2 q3
  have hA1 := sqs_le [a0_0, a0_1, a0_2, a0_3] 0 (by omega)
  have hC1 := sqs_le [a1_0, a1_1, a1_2, a1_3] 0 (by omega)
  have k1 := hid (fun (v : World) => rqnorm_any a0_0 a0_1 a0_2 a0_3 v p0 p1 p2 p3)
  have k2 := hid (fun (v : World) => rqnorm_any a1_0 a1_1 a1_2 a1_3 v q0 q1 q2 q3)
  obtain ⟨NA, hNA⟩ : ∃ N, sqs [a0_0, a0_1, a0_2, a0_3] 0 = N := ⟨_, rfl⟩
  obtain ⟨NC, hNC⟩ : ∃ N, sqs [a1_0, a1_1, a1_2, a1_3] 0 = N := ⟨_, rfl⟩
  rw [hNA] at hA hA1 k1
  rw [hNC] at hC hC1 k2
  clear hNA hNC
  by_cases c1 : nearB (NA : Int) 1099511627776 = true
  · by_cases c2 : nearB (NC : Int) 1099511627776 = true
    · obtain ⟨n1, n2⟩ := nearB_iff c1
      obtain ⟨n3, n4⟩ := nearB_iff c2
      obtain ⟨s0, s1, s2, s3, e0, e1, e2, e3, b0, b1, b2, b3, m1, m2⟩ := mul_near a0_0 a0_1 a0_2 a0_3 a1_0 a1_1 a1_2 a1_3 p0 p1 p2 p3 q0 q1 q2 q3 (by split at hA <;> omega) (by split at hA <;> omega) (by split at hC <;> omega) (by split at hC <;> omega)
      have hV : mulV a0_0 a0_1 a0_2 a0_3 a1_0 a1_1 a1_2 a1_3 = .tuple #[.agg #[.int .i32 s0, .int .i32 s1, .int .i32 s2, .int .i32 s3], .int .i64 (0 : Nat)] := by unfold mulV; rw [e0, e1, e2, e3]; exact cut4_in b0 b1 b2 b3
      have k3 := hid (fun (v : World) => hV ▸ qmul_any a0_0 a0_1 a0_2 a0_3 a1_0 a1_1 a1_2 a1_3 v p0 p1 p2 p3 q0 q1 q2 q3)
      have hP := sqs_min s0 s1 s2 s3 b0 b1 b2 b3
      rw [if_pos (by omega)] at hP
      have k4 := hid (fun (v : World) => rqnorm_any s0 s1 s2 s3 v b0 b1 b2 b3)
      have k5 := hid (fun (v : World) => qnorm_any s0 s1 s2 s3 v b0 b1 b2 b3)
      generalize sqs [s0, s1, s2, s3] 0 = NP at *
      have c3 : nearB (NP : Int) 4398046511104 = true := nearB_mk (by omega) (by omega)
      have k6 := hid (fun (v : World) => c1 ▸ quatnear_any (NA : Int) 1099511627776 v (by omega) (by omega) (by omega) (by omega))
      have k7 := hid (fun (v : World) => c2 ▸ quatnear_any (NC : Int) 1099511627776 v (by omega) (by omega) (by omega) (by omega))
      have k8 := hid (fun (v : World) => c3 ▸ quatnear_any (NP : Int) 4398046511104 v (by omega) (by omega) (by omega) (by omega))
      clear hA hC hA1 hC1 hP c1 c2 c3 n1 n2 n3 n4 m1 m2 hV e0 e1 e2 e3 b0 b1 b2 b3 p0 p1 p2 p3 q0 q1 q2 q3 w0_0 w0_1 w0_2 w0_3 w1_0 w1_1 w1_2 w1_3
      go_enter Try.func5, Try.ntmps5
      go_upto_region 0 with (fail)
      apply wp_region_seg0 (w := W) (S := [.al 1000, .al 1000, .q []]) (E := [.al _ 1000, .al _ 1000, .q0 _]) rfl (by kernel_rfl) rfl
      · intro th hge hne
        refine Seg.step _ rfl ⟨by rfl, fun U hU => ?_⟩ ?_
        · go_simp; exact vp_alloc rfl rfl rfl
        refine ⟨_, by (simp only [Ent.val]; go_simp <;> exact rfl), ?_⟩
        refine Seg.step _ rfl ⟨by rfl, fun U hU => ?_⟩ ?_
        · go_simp; exact vp_alloc rfl rfl rfl
        refine ⟨_, by (simp only [Ent.val]; go_simp <;> exact rfl), ?_⟩
        refine Seg.step _ rfl (Or.inl ⟨by rfl, fun U hU => vp_quiet (by (go_simp <;> exact rfl))⟩) ⟨_, by (simp only [Ent.val]; go_simp <;> exact rfl), ?_⟩
        refine Seg.stop (fun U1 hU hk => ?_)
        have nb0 := hge 0 _ _ rfl
        have rb0 := (hk 0 _ _ rfl trivial).1.2 (by simp)
        have nb1 := hge 1 _ _ rfl
        have rb1 := (hk 1 _ _ rfl trivial).1.2 (by simp)
        have ne0_1 := hne 0 1 _ _ _ _ rfl rfl (by omega)
        clear hk hge hne
        generalize th (0 + 0) = p0_0 at *
        skip
        generalize th (0 + 1) = p0_1 at *
        skip
        have r_p0_0 := rb0
        clear rb0
        have n_p0_0 := nb0
        clear nb0
        have d_p0_0_p0_1 := ne0_1
        clear ne0_1
        have r_p0_1 := rb1
        clear rb1
        have n_p0_1 := nb1
        clear nb1
        have sz1 := hU.size
        have hB : Below W.heap.size W U1 := hU
        clear hU
        go_upto_region 1 with (fail)
        apply wp_region_seg0 (w := U1) (S := [.q [], .q [], .q [], .q [], .q [], .q [], .q [], .q [], .q [], .q [], .q [], .q [], .q [], .q []]) (E := [.q0 _, .c0 _, .c0 _, .q0 _, .q0 _, .q0 _, .c0 _, .c0 _, .q0 _, .q0 _, .q0 _, .c0 _, .q0 _, .q0 _]) rfl (by kernel_rfl) rfl
        · intro th hge hne
          refine Seg.step _ rfl (Or.inl ⟨by rfl, fun U hU => vp_quiet (by (have h0 := held_cell (held_after hU.1 r_p0_0) 0 _ rfl; have h1 := held_cell (held_after hU.1 r_p0_0) 1 _ rfl; have h2 := held_cell (held_after hU.1 r_p0_0) 2 _ rfl; have h3 := held_cell (held_after hU.1 r_p0_0) 3 _ rfl; go_simp <;> exact rfl))⟩) ⟨_, by (simp only [Ent.val]; go_simp <;> exact rfl), ?_⟩
          refine Seg.step _ rfl (Or.inl ⟨by rfl, fun U hU => ?_⟩) ?_
          · go_simp
            refine vp_call (k1.out _)
          refine ⟨_, by (simp only [Ent.val]; go_simp <;> exact rfl), ?_⟩
          refine Seg.step _ rfl (Or.inl ⟨by rfl, fun U hU => ?_⟩) ?_
          · go_simp
            refine vp_call (k6.out _)
          refine ⟨_, by (simp only [Ent.val]; go_simp <;> exact rfl), ?_⟩
          refine Seg.step _ rfl (Or.inl ⟨by rfl, fun U hU => vp_quiet (by (go_simp <;> exact rfl))⟩) ⟨_, by (simp only [Ent.val]; go_simp <;> exact rfl), ?_⟩
          refine Seg.step _ rfl (Or.inl ⟨by rfl, fun U hU => vp_quiet (by (go_simp <;> exact rfl))⟩) ⟨_, by (simp only [Ent.val]; go_simp <;> exact rfl), ?_⟩
          refine Seg.step _ rfl (Or.inl ⟨by rfl, fun U hU => vp_quiet (by (have h0 := held_cell (held_after hU.1 r_p0_1) 0 _ rfl; have h1 := held_cell (held_after hU.1 r_p0_1) 1 _ rfl; have h2 := held_cell (held_after hU.1 r_p0_1) 2 _ rfl; have h3 := held_cell (held_after hU.1 r_p0_1) 3 _ rfl; go_simp <;> exact rfl))⟩) ⟨_, by (simp only [Ent.val]; go_simp <;> exact rfl), ?_⟩
          refine Seg.step _ rfl (Or.inl ⟨by rfl, fun U hU => ?_⟩) ?_
          · go_simp
            refine vp_call (k2.out _)
          refine ⟨_, by (simp only [Ent.val]; go_simp <;> exact rfl), ?_⟩
          refine Seg.step _ rfl (Or.inl ⟨by rfl, fun U hU => ?_⟩) ?_
          · go_simp
            refine vp_call (k7.out _)
          refine ⟨_, by (simp only [Ent.val]; go_simp <;> exact rfl), ?_⟩
          refine Seg.step _ rfl (Or.inl ⟨by rfl, fun U hU => vp_quiet (by (go_simp <;> exact rfl))⟩) ⟨_, by (simp only [Ent.val]; go_simp <;> exact rfl), ?_⟩
          refine Seg.step _ rfl (Or.inl ⟨by rfl, fun U hU => vp_quiet (by (go_simp <;> exact rfl))⟩) ⟨_, by (simp only [Ent.val]; go_simp <;> exact rfl), ?_⟩
          refine Seg.step _ rfl (Or.inl ⟨by rfl, fun U hU => vp_quiet (by (go_simp <;> exact rfl))⟩) ⟨_, by (simp only [Ent.val]; go_simp <;> exact rfl), ?_⟩
          refine Seg.step _ rfl (Or.inl ⟨by rfl, fun U hU => ?_⟩) ?_
          · go_simp
            refine vp_call (knows10_any _)
          refine ⟨_, by (simp only [Ent.val]; go_simp <;> exact rfl), ?_⟩
          refine Seg.step _ rfl (Or.inl ⟨by rfl, fun U hU => vp_quiet (by (go_simp <;> exact rfl))⟩) ⟨_, by (simp only [Ent.val]; go_simp <;> exact rfl), ?_⟩
          refine Seg.step _ rfl (Or.inl ⟨by rfl, fun U hU => vp_quiet (by (go_simp <;> exact rfl))⟩) ⟨_, by (simp only [Ent.val]; go_simp <;> exact rfl), ?_⟩
          refine Seg.stop (fun U2 hU hk => ?_)
          clear hk hge hne
          replace r_p0_0 := held_after hU r_p0_0
          replace r_p0_1 := held_after hU r_p0_1
          have sz2 := hU.size
          replace hB := bthen hB hU
          clear hU
          go_upto_region 3 with (fail)
          apply wp_region_seg0 (w := U2) (S := [.q [], .q [], .q [], .q [], .q [], .q [], .al 7, .st 6 [], .q []]) (E := [.q0 _, .q0 _, .c0 _, .q0 _, .q0 _, .q0 _, .al _ 7, .s0 6 (.cells _ _), .q0 _]) rfl (by kernel_rfl) rfl
          · intro th hge hne
            refine Seg.step _ rfl (Or.inl ⟨by rfl, fun U hU => vp_quiet (by (have h0 := held_cell (held_after hU.1 r_p0_0) 0 _ rfl; have h1 := held_cell (held_after hU.1 r_p0_0) 1 _ rfl; have h2 := held_cell (held_after hU.1 r_p0_0) 2 _ rfl; have h3 := held_cell (held_after hU.1 r_p0_0) 3 _ rfl; go_simp <;> exact rfl))⟩) ⟨_, by (simp only [Ent.val]; go_simp <;> exact rfl), ?_⟩
            refine Seg.step _ rfl (Or.inl ⟨by rfl, fun U hU => vp_quiet (by (have h0 := held_cell (held_after hU.1 r_p0_1) 0 _ rfl; have h1 := held_cell (held_after hU.1 r_p0_1) 1 _ rfl; have h2 := held_cell (held_after hU.1 r_p0_1) 2 _ rfl; have h3 := held_cell (held_after hU.1 r_p0_1) 3 _ rfl; go_simp <;> exact rfl))⟩) ⟨_, by (simp only [Ent.val]; go_simp <;> exact rfl), ?_⟩
            refine Seg.step _ rfl (Or.inl ⟨by rfl, fun U hU => ?_⟩) ?_
            · go_simp
              refine vp_call (k3.out _)
            refine ⟨_, by (simp only [Ent.val]; go_simp <;> exact rfl), ?_⟩
            refine Seg.step _ rfl (Or.inl ⟨by rfl, fun U hU => vp_quiet (by (go_simp <;> exact rfl))⟩) ⟨_, by (simp only [Ent.val]; go_simp <;> exact rfl), ?_⟩
            refine Seg.step _ rfl (Or.inl ⟨by rfl, fun U hU => vp_quiet (by (go_simp <;> exact rfl))⟩) ⟨_, by (simp only [Ent.val]; go_simp <;> exact rfl), ?_⟩
            refine Seg.step _ rfl (Or.inl ⟨by rfl, fun U hU => vp_quiet (by (go_simp <;> exact rfl))⟩) ⟨_, by (simp only [Ent.val]; go_simp <;> exact rfl), ?_⟩
            refine Seg.step _ rfl ⟨by rfl, fun U hU => ?_⟩ ?_
            · go_simp; exact vp_alloc rfl rfl rfl
            refine ⟨_, by (simp only [Ent.val]; go_simp <;> exact rfl), ?_⟩
            refine Seg.step _ rfl ⟨by rfl, fun U z k hz hU hc => ?_⟩ ?_
            · have hz2 := Option.some.inj hz
              cases hz2; clear hz
              exact vp_store_agg _ _ _ rfl hc rfl rfl (by kernel_rfl) rfl (by rfl)
            refine ⟨_, by (simp only [Ent.val]; go_simp <;> exact rfl), ?_⟩
            refine Seg.step _ rfl (Or.inl ⟨by rfl, fun U hU => vp_quiet (by (go_simp <;> exact rfl))⟩) ⟨_, by (simp only [Ent.val]; go_simp <;> exact rfl), ?_⟩
            refine Seg.stop (fun U3 hU hk => ?_)
            have nb6 := hge 6 _ _ rfl
            have rb6 := (hk 6 _ 7 rfl trivial).1.1 trivial _ (Nat.zero_le _) rfl
            clear hk hge hne
            generalize th (0 + 6) = p3_6 at *
            simp only [Ent.obj] at rb6
            replace r_p0_0 := held_after hU r_p0_0
            replace r_p0_1 := held_after hU r_p0_1
            have r_p3_6 := rb6
            clear rb6
            have n_p3_6 := nb6
            clear nb6
            have sz3 := hU.size
            replace hB := bthen hB hU
            clear hU
            go_upto_region 4 with (fail)
            apply wp_region_seg (w := U3) (S := [.q [], .q [], .q [], .q [], .q [], .q [], .q [], .q [], .q [], .q [], .q [], .q [], .q [], .q [], .q []]) (E := [.q0 _, .q0 _, .q0 _, .q0 _, .c0 _, .c0 _, .q0 _, .q0 _, .q0 _, .c0 _, .q0 _, .c0 _, .q0 _, .q0 _, .q0 _]) (by kernel_rfl) rfl (by kernel_rfl) rfl
            · intro th hge hne
              refine Seg.step _ rfl (Or.inl ⟨by rfl, fun U hU => vp_quiet (by (go_simp <;> exact rfl))⟩) ⟨_, by (simp only [Ent.val]; go_simp <;> exact rfl), ?_⟩
              refine Seg.step _ rfl (Or.inl ⟨by rfl, fun U hU => vp_quiet (by (go_simp <;> exact rfl))⟩) ⟨_, by (simp only [Ent.val]; go_simp <;> exact rfl), ?_⟩
              refine Seg.step _ rfl (Or.inl ⟨by rfl, fun U hU => vp_quiet (by (go_simp <;> exact rfl))⟩) ⟨_, by (simp only [Ent.val]; go_simp <;> exact rfl), ?_⟩
              refine Seg.step _ rfl (Or.inl ⟨by rfl, fun U hU => vp_quiet (by (have h0 := held_cell (held_after hU.1 r_p3_6) 0 _ rfl; have h1 := held_cell (held_after hU.1 r_p3_6) 1 _ rfl; have h2 := held_cell (held_after hU.1 r_p3_6) 2 _ rfl; have h3 := held_cell (held_after hU.1 r_p3_6) 3 _ rfl; go_simp <;> exact rfl))⟩) ⟨_, by (simp only [Ent.val]; go_simp <;> exact rfl), ?_⟩
              refine Seg.step _ rfl (Or.inl ⟨by rfl, fun U hU => ?_⟩) ?_
              · go_simp
                refine vp_call (k4.out _)
              refine ⟨_, by (simp only [Ent.val]; go_simp <;> exact rfl), ?_⟩
              refine Seg.step _ rfl (Or.inl ⟨by rfl, fun U hU => ?_⟩) ?_
              · go_simp
                refine vp_call (k8.out _)
              refine ⟨_, by (simp only [Ent.val]; go_simp <;> exact rfl), ?_⟩
              refine Seg.step _ rfl (Or.inl ⟨by rfl, fun U hU => vp_quiet (by (go_simp <;> exact rfl))⟩) ⟨_, by (simp only [Ent.val]; go_simp <;> exact rfl), ?_⟩
              refine Seg.step _ rfl (Or.inl ⟨by rfl, fun U hU => vp_quiet (by (go_simp <;> exact rfl))⟩) ⟨_, by (simp only [Ent.val]; go_simp <;> exact rfl), ?_⟩
              refine Seg.step _ rfl (Or.inl ⟨by rfl, fun U hU => vp_quiet (by (have h0 := held_cell (held_after hU.1 r_p3_6) 0 _ rfl; have h1 := held_cell (held_after hU.1 r_p3_6) 1 _ rfl; have h2 := held_cell (held_after hU.1 r_p3_6) 2 _ rfl; have h3 := held_cell (held_after hU.1 r_p3_6) 3 _ rfl; go_simp <;> exact rfl))⟩) ⟨_, by (simp only [Ent.val]; go_simp <;> exact rfl), ?_⟩
              refine Seg.step _ rfl (Or.inl ⟨by rfl, fun U hU => ?_⟩) ?_
              · go_simp
                refine vp_call (k5.out _)
              refine ⟨_, by (simp only [Ent.val]; go_simp <;> exact rfl), ?_⟩
              refine Seg.step _ rfl (Or.inl ⟨by rfl, fun U hU => vp_quiet (by (have h0 := held_cell (held_after hU.1 r_p3_6) 0 _ rfl; have h1 := held_cell (held_after hU.1 r_p3_6) 1 _ rfl; have h2 := held_cell (held_after hU.1 r_p3_6) 2 _ rfl; have h3 := held_cell (held_after hU.1 r_p3_6) 3 _ rfl; go_simp <;> exact rfl))⟩) ⟨_, by (simp only [Ent.val]; go_simp <;> exact rfl), ?_⟩
              refine Seg.step _ rfl (Or.inl ⟨by rfl, fun U hU => ?_⟩) ?_
              · go_simp
                refine vp_call (k4.out _)
              refine ⟨_, by (simp only [Ent.val]; go_simp <;> exact rfl), ?_⟩
              refine Seg.step _ rfl (Or.inl ⟨by rfl, fun U hU => vp_quiet (by (go_simp <;> exact rfl))⟩) ⟨_, by (simp only [Ent.val]; go_simp <;> exact rfl), ?_⟩
              refine Seg.step _ rfl (Or.inl ⟨by rfl, fun U hU => vp_quiet (by (go_simp <;> exact rfl))⟩) ⟨_, by (simp only [Ent.val]; go_simp <;> exact rfl), ?_⟩
              refine Seg.step _ rfl (Or.inl ⟨by rfl, fun U hU => vp_quiet (by (go_simp <;> exact rfl))⟩) ⟨_, by (simp only [Ent.val]; go_simp <;> exact rfl), ?_⟩
              refine Seg.stop (fun U4 hU hk => ?_)
              clear hk hge hne
              replace r_p0_0 := held_after hU r_p0_0
              replace r_p0_1 := held_after hU r_p0_1
              replace r_p3_6 := held_after hU r_p3_6
              have sz4 := hU.size
              replace hB := bthen hB hU
              clear hU
              go_wp2_with fail
              go_ret
              exact ⟨rfl, hB⟩
    · rw [Bool.not_eq_true] at c2
      have k6 := hid (fun (v : World) => c1 ▸ quatnear_any (NA : Int) 1099511627776 v (by omega) (by omega) (by omega) (by omega))
      have k7 := hid (fun (v : World) => c2 ▸ quatnear_any (NC : Int) 1099511627776 v (by omega) (by omega) (by omega) (by omega))
      clear hA hC hA1 hC1 c1 c2 p0 p1 p2 p3 q0 q1 q2 q3 w0_0 w0_1 w0_2 w0_3 w1_0 w1_1 w1_2 w1_3
      go_enter Try.func5, Try.ntmps5
      go_upto_region 0 with (fail)
      apply wp_region_seg0 (w := W) (S := [.al 1000, .al 1000, .q []]) (E := [.al _ 1000, .al _ 1000, .q0 _]) rfl (by kernel_rfl) rfl
      · intro th hge hne
        refine Seg.step _ rfl ⟨by rfl, fun U hU => ?_⟩ ?_
        · go_simp; exact vp_alloc rfl rfl rfl
        refine ⟨_, by (simp only [Ent.val]; go_simp <;> exact rfl), ?_⟩
        refine Seg.step _ rfl ⟨by rfl, fun U hU => ?_⟩ ?_
        · go_simp; exact vp_alloc rfl rfl rfl
        refine ⟨_, by (simp only [Ent.val]; go_simp <;> exact rfl), ?_⟩
        refine Seg.step _ rfl (Or.inl ⟨by rfl, fun U hU => vp_quiet (by (go_simp <;> exact rfl))⟩) ⟨_, by (simp only [Ent.val]; go_simp <;> exact rfl), ?_⟩
        refine Seg.stop (fun U1 hU hk => ?_)
        have nb0 := hge 0 _ _ rfl
        have rb0 := (hk 0 _ _ rfl trivial).1.2 (by simp)
        have nb1 := hge 1 _ _ rfl
        have rb1 := (hk 1 _ _ rfl trivial).1.2 (by simp)
        have ne0_1 := hne 0 1 _ _ _ _ rfl rfl (by omega)
        clear hk hge hne
        generalize th (0 + 0) = p0_0 at *
        skip
        generalize th (0 + 1) = p0_1 at *
        skip
        have r_p0_0 := rb0
        clear rb0
        have n_p0_0 := nb0
        clear nb0
        have d_p0_0_p0_1 := ne0_1
        clear ne0_1
        have r_p0_1 := rb1
        clear rb1
        have n_p0_1 := nb1
        clear nb1
        have sz1 := hU.size
        have hB : Below W.heap.size W U1 := hU
        clear hU
        go_upto_region 1 with (fail)
        apply wp_region_seg0 (w := U1) (S := [.q [], .q [], .q [], .q [], .q [], .q [], .q [], .q [], .q [], .q [], .q [], .q [], .q [], .q []]) (E := [.q0 _, .c0 _, .c0 _, .q0 _, .q0 _, .q0 _, .c0 _, .c0 _, .q0 _, .q0 _, .q0 _, .c0 _, .q0 _, .q0 _]) rfl (by kernel_rfl) rfl
        · intro th hge hne
          refine Seg.step _ rfl (Or.inl ⟨by rfl, fun U hU => vp_quiet (by (have h0 := held_cell (held_after hU.1 r_p0_0) 0 _ rfl; have h1 := held_cell (held_after hU.1 r_p0_0) 1 _ rfl; have h2 := held_cell (held_after hU.1 r_p0_0) 2 _ rfl; have h3 := held_cell (held_after hU.1 r_p0_0) 3 _ rfl; go_simp <;> exact rfl))⟩) ⟨_, by (simp only [Ent.val]; go_simp <;> exact rfl), ?_⟩
          refine Seg.step _ rfl (Or.inl ⟨by rfl, fun U hU => ?_⟩) ?_
          · go_simp
            refine vp_call (k1.out _)
          refine ⟨_, by (simp only [Ent.val]; go_simp <;> exact rfl), ?_⟩
          refine Seg.step _ rfl (Or.inl ⟨by rfl, fun U hU => ?_⟩) ?_
          · go_simp
            refine vp_call (k6.out _)
          refine ⟨_, by (simp only [Ent.val]; go_simp <;> exact rfl), ?_⟩
          refine Seg.step _ rfl (Or.inl ⟨by rfl, fun U hU => vp_quiet (by (go_simp <;> exact rfl))⟩) ⟨_, by (simp only [Ent.val]; go_simp <;> exact rfl), ?_⟩
          refine Seg.step _ rfl (Or.inl ⟨by rfl, fun U hU => vp_quiet (by (go_simp <;> exact rfl))⟩) ⟨_, by (simp only [Ent.val]; go_simp <;> exact rfl), ?_⟩
          refine Seg.step _ rfl (Or.inl ⟨by rfl, fun U hU => vp_quiet (by (have h0 := held_cell (held_after hU.1 r_p0_1) 0 _ rfl; have h1 := held_cell (held_after hU.1 r_p0_1) 1 _ rfl; have h2 := held_cell (held_after hU.1 r_p0_1) 2 _ rfl; have h3 := held_cell (held_after hU.1 r_p0_1) 3 _ rfl; go_simp <;> exact rfl))⟩) ⟨_, by (simp only [Ent.val]; go_simp <;> exact rfl), ?_⟩
          refine Seg.step _ rfl (Or.inl ⟨by rfl, fun U hU => ?_⟩) ?_
          · go_simp
            refine vp_call (k2.out _)
          refine ⟨_, by (simp only [Ent.val]; go_simp <;> exact rfl), ?_⟩
          refine Seg.step _ rfl (Or.inl ⟨by rfl, fun U hU => ?_⟩) ?_
          · go_simp
            refine vp_call (k7.out _)
          refine ⟨_, by (simp only [Ent.val]; go_simp <;> exact rfl), ?_⟩
          refine Seg.step _ rfl (Or.inl ⟨by rfl, fun U hU => vp_quiet (by (go_simp <;> exact rfl))⟩) ⟨_, by (simp only [Ent.val]; go_simp <;> exact rfl), ?_⟩
          refine Seg.step _ rfl (Or.inl ⟨by rfl, fun U hU => vp_quiet (by (go_simp <;> exact rfl))⟩) ⟨_, by (simp only [Ent.val]; go_simp <;> exact rfl), ?_⟩
          refine Seg.step _ rfl (Or.inl ⟨by rfl, fun U hU => vp_quiet (by (go_simp <;> exact rfl))⟩) ⟨_, by (simp only [Ent.val]; go_simp <;> exact rfl), ?_⟩
          refine Seg.step _ rfl (Or.inr ⟨by rfl, rfl⟩) ⟨_, by (simp only [Ent.val]; go_simp <;> exact rfl), ?_⟩
          refine Seg.step _ rfl (Or.inr ⟨by rfl, rfl⟩) ⟨_, by (simp only [Ent.val]; go_simp <;> exact rfl), ?_⟩
          refine Seg.step _ rfl (Or.inl ⟨by rfl, fun U hU => vp_quiet (by (go_simp <;> exact rfl))⟩) ⟨_, by (simp only [Ent.val]; go_simp <;> exact rfl), ?_⟩
          refine Seg.stop (fun U2 hU hk => ?_)
          clear hk hge hne
          replace r_p0_0 := held_after hU r_p0_0
          replace r_p0_1 := held_after hU r_p0_1
          have sz2 := hU.size
          replace hB := bthen hB hU
          clear hU
          go_upto_region 2 with (fail)
          apply wp_region_seg0 (w := U2) (S := [.q [], .q []]) (E := [.c0 _, .q0 _]) rfl (by kernel_rfl) rfl
          · intro th hge hne
            refine Seg.step _ rfl (Or.inl ⟨by rfl, fun U hU => ?_⟩) ?_
            · go_simp
              refine vp_call (knows10_any _)
            refine ⟨_, by (simp only [Ent.val]; go_simp <;> exact rfl), ?_⟩
            refine Seg.step _ rfl (Or.inl ⟨by rfl, fun U hU => vp_quiet (by (go_simp <;> exact rfl))⟩) ⟨_, by (simp only [Ent.val]; go_simp <;> exact rfl), ?_⟩
            refine Seg.stop (fun U3 hU hk => ?_)
            clear hk hge hne
            replace r_p0_0 := held_after hU r_p0_0
            replace r_p0_1 := held_after hU r_p0_1
            have sz3 := hU.size
            replace hB := bthen hB hU
            clear hU
            go_wp2_with fail
            go_ret
            exact ⟨rfl, hB⟩
  · rw [Bool.not_eq_true] at c1
    have k6 := hid (fun (v : World) => c1 ▸ quatnear_any (NA : Int) 1099511627776 v (by omega) (by omega) (by omega) (by omega))
    clear hA hC hA1 hC1 c1 p0 p1 p2 p3 q0 q1 q2 q3 w0_0 w0_1 w0_2 w0_3 w1_0 w1_1 w1_2 w1_3
    go_enter Try.func5, Try.ntmps5
    go_upto_region 0 with (fail)
    apply wp_region_seg0 (w := W) (S := [.al 1000, .al 1000, .q []]) (E := [.al _ 1000, .al _ 1000, .q0 _]) rfl (by kernel_rfl) rfl
    · intro th hge hne
      refine Seg.step _ rfl ⟨by rfl, fun U hU => ?_⟩ ?_
      · go_simp; exact vp_alloc rfl rfl rfl
      refine ⟨_, by (simp only [Ent.val]; go_simp <;> exact rfl), ?_⟩
      refine Seg.step _ rfl ⟨by rfl, fun U hU => ?_⟩ ?_
      · go_simp; exact vp_alloc rfl rfl rfl
      refine ⟨_, by (simp only [Ent.val]; go_simp <;> exact rfl), ?_⟩
      refine Seg.step _ rfl (Or.inl ⟨by rfl, fun U hU => vp_quiet (by (go_simp <;> exact rfl))⟩) ⟨_, by (simp only [Ent.val]; go_simp <;> exact rfl), ?_⟩
      refine Seg.stop (fun U1 hU hk => ?_)
      have nb0 := hge 0 _ _ rfl
      have rb0 := (hk 0 _ _ rfl trivial).1.2 (by simp)
      have nb1 := hge 1 _ _ rfl
      have rb1 := (hk 1 _ _ rfl trivial).1.2 (by simp)
      have ne0_1 := hne 0 1 _ _ _ _ rfl rfl (by omega)
      clear hk hge hne
      generalize th (0 + 0) = p0_0 at *
      skip
      generalize th (0 + 1) = p0_1 at *
      skip
      have r_p0_0 := rb0
      clear rb0
      have n_p0_0 := nb0
      clear nb0
      have d_p0_0_p0_1 := ne0_1
      clear ne0_1
      have r_p0_1 := rb1
      clear rb1
      have n_p0_1 := nb1
      clear nb1
      have sz1 := hU.size
      have hB : Below W.heap.size W U1 := hU
      clear hU
      go_upto_region 1 with (fail)
      apply wp_region_seg0 (w := U1) (S := [.q [], .q [], .q [], .q [], .q [], .q [], .q [], .q [], .q [], .q [], .q [], .q [], .q [], .q []]) (E := [.q0 _, .c0 _, .c0 _, .q0 _, .q0 _, .q0 _, .c0 _, .c0 _, .q0 _, .q0 _, .q0 _, .c0 _, .q0 _, .q0 _]) rfl (by kernel_rfl) rfl
      · intro th hge hne
        refine Seg.step _ rfl (Or.inl ⟨by rfl, fun U hU => vp_quiet (by (have h0 := held_cell (held_after hU.1 r_p0_0) 0 _ rfl; have h1 := held_cell (held_after hU.1 r_p0_0) 1 _ rfl; have h2 := held_cell (held_after hU.1 r_p0_0) 2 _ rfl; have h3 := held_cell (held_after hU.1 r_p0_0) 3 _ rfl; go_simp <;> exact rfl))⟩) ⟨_, by (simp only [Ent.val]; go_simp <;> exact rfl), ?_⟩
        refine Seg.step _ rfl (Or.inl ⟨by rfl, fun U hU => ?_⟩) ?_
        · go_simp
          refine vp_call (k1.out _)
        refine ⟨_, by (simp only [Ent.val]; go_simp <;> exact rfl), ?_⟩
        refine Seg.step _ rfl (Or.inl ⟨by rfl, fun U hU => ?_⟩) ?_
        · go_simp
          refine vp_call (k6.out _)
        refine ⟨_, by (simp only [Ent.val]; go_simp <;> exact rfl), ?_⟩
        refine Seg.step _ rfl (Or.inl ⟨by rfl, fun U hU => vp_quiet (by (go_simp <;> exact rfl))⟩) ⟨_, by (simp only [Ent.val]; go_simp <;> exact rfl), ?_⟩
        refine Seg.step _ rfl (Or.inl ⟨by rfl, fun U hU => vp_quiet (by (go_simp <;> exact rfl))⟩) ⟨_, by (simp only [Ent.val]; go_simp <;> exact rfl), ?_⟩
        refine Seg.step _ rfl (Or.inr ⟨by rfl, rfl⟩) ⟨_, by (simp only [Ent.val]; go_simp <;> exact rfl), ?_⟩
        refine Seg.step _ rfl (Or.inr ⟨by rfl, rfl⟩) ⟨_, by (simp only [Ent.val]; go_simp <;> exact rfl), ?_⟩
        refine Seg.step _ rfl (Or.inr ⟨by rfl, rfl⟩) ⟨_, by (simp only [Ent.val]; go_simp <;> exact rfl), ?_⟩
        refine Seg.step _ rfl (Or.inr ⟨by rfl, rfl⟩) ⟨_, by (simp only [Ent.val]; go_simp <;> exact rfl), ?_⟩
        refine Seg.step _ rfl (Or.inl ⟨by rfl, fun U hU => vp_quiet (by (go_simp <;> exact rfl))⟩) ⟨_, by (simp only [Ent.val]; go_simp <;> exact rfl), ?_⟩
        refine Seg.step _ rfl (Or.inl ⟨by rfl, fun U hU => vp_quiet (by (go_simp <;> exact rfl))⟩) ⟨_, by (simp only [Ent.val]; go_simp <;> exact rfl), ?_⟩
        refine Seg.step _ rfl (Or.inr ⟨by rfl, rfl⟩) ⟨_, by (simp only [Ent.val]; go_simp <;> exact rfl), ?_⟩
        refine Seg.step _ rfl (Or.inr ⟨by rfl, rfl⟩) ⟨_, by (simp only [Ent.val]; go_simp <;> exact rfl), ?_⟩
        refine Seg.step _ rfl (Or.inl ⟨by rfl, fun U hU => vp_quiet (by (go_simp <;> exact rfl))⟩) ⟨_, by (simp only [Ent.val]; go_simp <;> exact rfl), ?_⟩
        refine Seg.stop (fun U2 hU hk => ?_)
        clear hk hge hne
        replace r_p0_0 := held_after hU r_p0_0
        replace r_p0_1 := held_after hU r_p0_1
        have sz2 := hU.size
        replace hB := bthen hB hU
        clear hU
        go_upto_region 2 with (fail)
        apply wp_region_seg0 (w := U2) (S := [.q [], .q []]) (E := [.c0 _, .q0 _]) rfl (by kernel_rfl) rfl
        · intro th hge hne
          refine Seg.step _ rfl (Or.inl ⟨by rfl, fun U hU => ?_⟩) ?_
          · go_simp
            refine vp_call (knows10_any _)
          refine ⟨_, by (simp only [Ent.val]; go_simp <;> exact rfl), ?_⟩
          refine Seg.step _ rfl (Or.inl ⟨by rfl, fun U hU => vp_quiet (by (go_simp <;> exact rfl))⟩) ⟨_, by (simp only [Ent.val]; go_simp <;> exact rfl), ?_⟩
          refine Seg.stop (fun U3 hU hk => ?_)
          clear hk hge hne
          replace r_p0_0 := held_after hU r_p0_0
          replace r_p0_1 := held_after hU r_p0_1
          have sz3 := hU.size
          replace hB := bthen hB hU
          clear hU
          go_wp2_with fail
          go_ret
          exact ⟨rfl, hB⟩

set_option maxRecDepth 100000 in
set_option maxHeartbeats 16000000 in
theorem law_QuatOrder (a0_0 a0_1 a0_2 a0_3 : Int) (a1_0 a1_1 a1_2 a1_3 : Int) (W : World) (w0_0 : (Lit.int .i32 a0_0).wf = true) (w0_1 : (Lit.int .i32 a0_1).wf = true) (w0_2 : (Lit.int .i32 a0_2).wf = true) (w0_3 : (Lit.int .i32 a0_3).wf = true) (w1_0 : (Lit.int .i32 a1_0).wf = true) (w1_1 : (Lit.int .i32 a1_1).wf = true) (w1_2 : (Lit.int .i32 a1_2).wf = true) (w1_3 : (Lit.int .i32 a1_3).wf = true) :
    Calls Try.prog 6 #[.agg #[.int .i32 a0_0, .int .i32 a0_1, .int .i32 a0_2, .int .i32 a0_3], .agg #[.int .i32 a1_0, .int .i32 a1_1, .int .i32 a1_2, .int .i32 a1_3]] W fun e w' => e = .returned (.bool true) ∧ Below W.heap.size W w' := by
  have p0 := b32_of w0_0
  have q0 := b32_of w1_0
  have p1 := b32_of w0_1
  have q1 := b32_of w1_1
  have p2 := b32_of w0_2
  have q2 := b32_of w1_2
  have p3 := b32_of w0_3
  have q3 := b32_of w1_3
  obtain ⟨s0, s1, s2, s3, u0, u1, u2, u3, v0, v1, v2, v3, z0, z1, z2, z3, y0, y1, y2, y3, n1, n2, n3, n4, n5, h1, h2, h3, h4, h5, bs0, bs1, bs2, bs3, bv0, bv1, bv2, bv3, bz0, bz1, bz2, bz3, l1, l2, l3, l4, l5, hc⟩ := order_cases a0_0 a0_1 a0_2 a0_3 a1_0 a1_1 a1_2 a1_3 p0 p1 p2 p3 q0 q1 q2 q3
  have k1 := hid (fun (v : World) => (mul_one_r p0 p1 p2 p3) ▸ qmul_any a0_0 a0_1 a0_2 a0_3 1073741824 0 0 0 v p0 p1 p2 p3 (by unfold B32; omega) (by unfold B32; omega) (by unfold B32; omega) (by unfold B32; omega))
  have k2 := hid (fun (v : World) => (mul_one_l p0 p1 p2 p3) ▸ qmul_any 1073741824 0 0 0 a0_0 a0_1 a0_2 a0_3 v (by unfold B32; omega) (by unfold B32; omega) (by unfold B32; omega) (by unfold B32; omega) p0 p1 p2 p3)
  have k3 := hid (fun (v : World) => h1 ▸ qmul_any a0_0 a0_1 a0_2 a0_3 a1_0 a1_1 a1_2 a1_3 v p0 p1 p2 p3 q0 q1 q2 q3)
  have k4 := hid (fun (v : World) => h2 ▸ qconj_any s0 s1 s2 s3 v bs0 bs1 bs2 bs3)
  have k5 := hid (fun (v : World) => h3 ▸ qconj_any a0_0 a0_1 a0_2 a0_3 v p0 p1 p2 p3)
  have k6 := hid (fun (v : World) => h4 ▸ qconj_any a1_0 a1_1 a1_2 a1_3 v q0 q1 q2 q3)
  have k7 := hid (fun (v : World) => h5 ▸ qmul_any z0 z1 z2 z3 v0 v1 v2 v3 v bz0 bz1 bz2 bz3 bv0 bv1 bv2 bv3)
  clear h1 h2 h3 h4 h5 p0 p1 p2 p3 q0 q1 q2 q3 bs0 bs1 bs2 bs3 bv0 bv1 bv2 bv3 bz0 bz1 bz2 bz3 w0_0 w0_1 w0_2 w0_3 w1_0 w1_1 w1_2 w1_3
  rcases hc with hc | ⟨rfl, rfl, rfl, rfl, rfl, rfl, rfl, rfl, rfl⟩
  · have g1 : (0 : Int) < n1 + n2 + n3 + n4 + n5 := by omega
    have f0 : IntKind.i64.wrap ((n1 : Int) + n2) = (n1 : Int) + n2 := by rw [IntKind.wrap_i64]; omega
    have f1 : IntKind.i64.wrap ((n1 : Int) + n2 + n3) = (n1 : Int) + n2 + n3 := by rw [IntKind.wrap_i64]; omega
    have f2 : IntKind.i64.wrap ((n1 : Int) + n2 + n3 + n4) = (n1 : Int) + n2 + n3 + n4 := by rw [IntKind.wrap_i64]; omega
    have f3 : IntKind.i64.wrap ((n1 : Int) + n2 + n3 + n4 + n5) = (n1 : Int) + n2 + n3 + n4 + n5 := by rw [IntKind.wrap_i64]; omega
    go_enter Try.func6, Try.ntmps6
    go_upto_region 0 with (fail)
    apply wp_region_seg0 (w := W) (S := [.al 1000, .al 1000, .q []]) (E := [.al _ 1000, .al _ 1000, .q0 _]) rfl (by kernel_rfl) rfl
    · intro th hge hne
      refine Seg.step _ rfl ⟨by rfl, fun U hU => ?_⟩ ?_
      · go_simp; exact vp_alloc rfl rfl rfl
      refine ⟨_, by (simp only [Ent.val]; go_simp <;> exact rfl), ?_⟩
      refine Seg.step _ rfl ⟨by rfl, fun U hU => ?_⟩ ?_
      · go_simp; exact vp_alloc rfl rfl rfl
      refine ⟨_, by (simp only [Ent.val]; go_simp <;> exact rfl), ?_⟩
      refine Seg.step _ rfl (Or.inl ⟨by rfl, fun U hU => vp_quiet (by (go_simp <;> exact rfl))⟩) ⟨_, by (simp only [Ent.val]; go_simp <;> exact rfl), ?_⟩
      refine Seg.stop (fun U1 hU hk => ?_)
      have nb0 := hge 0 _ _ rfl
      have rb0 := (hk 0 _ _ rfl trivial).1.2 (by simp)
      have nb1 := hge 1 _ _ rfl
      have rb1 := (hk 1 _ _ rfl trivial).1.2 (by simp)
      have ne0_1 := hne 0 1 _ _ _ _ rfl rfl (by omega)
      clear hk hge hne
      generalize th (0 + 0) = p0_0 at *
      skip
      generalize th (0 + 1) = p0_1 at *
      skip
      have r_p0_0 := rb0
      clear rb0
      have n_p0_0 := nb0
      clear nb0
      have d_p0_0_p0_1 := ne0_1
      clear ne0_1
      have r_p0_1 := rb1
      clear rb1
      have n_p0_1 := nb1
      clear nb1
      have sz1 := hU.size
      have hB : Below W.heap.size W U1 := hU
      clear hU
      go_upto_region 1 with (fail)
      apply wp_region_seg (w := U1) (S := [.q [], .q [], .q [], .q [], .q [], .q [], .al 7, .st 6 [], .q []]) (E := [.q0 _, .c0 _, .c0 _, .q0 _, .q0 _, .q0 _, .al _ 7, .s0 6 (.cells _ _), .q0 _]) (by kernel_rfl) rfl (by kernel_rfl) rfl
      · intro th hge hne
        refine Seg.step _ rfl (Or.inl ⟨by rfl, fun U hU => vp_quiet (by (have h0 := held_cell (held_after hU.1 r_p0_0) 0 _ rfl; have h1 := held_cell (held_after hU.1 r_p0_0) 1 _ rfl; have h2 := held_cell (held_after hU.1 r_p0_0) 2 _ rfl; have h3 := held_cell (held_after hU.1 r_p0_0) 3 _ rfl; go_simp <;> exact rfl))⟩) ⟨_, by (simp only [Ent.val]; go_simp <;> exact rfl), ?_⟩
        refine Seg.step _ rfl (Or.inl ⟨by rfl, fun U hU => ?_⟩) ?_
        · go_simp
          refine vp_call (qone_any _)
        refine ⟨_, by (simp only [Ent.val]; go_simp <;> exact rfl), ?_⟩
        refine Seg.step _ rfl (Or.inl ⟨by rfl, fun U hU => ?_⟩) ?_
        · go_simp
          refine vp_call (k1.out _)
        refine ⟨_, by (simp only [Ent.val]; go_simp <;> exact rfl), ?_⟩
        refine Seg.step _ rfl (Or.inl ⟨by rfl, fun U hU => vp_quiet (by (go_simp <;> exact rfl))⟩) ⟨_, by (simp only [Ent.val]; go_simp <;> exact rfl), ?_⟩
        refine Seg.step _ rfl (Or.inl ⟨by rfl, fun U hU => vp_quiet (by (go_simp <;> exact rfl))⟩) ⟨_, by (simp only [Ent.val]; go_simp <;> exact rfl), ?_⟩
        refine Seg.step _ rfl (Or.inl ⟨by rfl, fun U hU => vp_quiet (by (go_simp <;> exact rfl))⟩) ⟨_, by (simp only [Ent.val]; go_simp <;> exact rfl), ?_⟩
        refine Seg.step _ rfl ⟨by rfl, fun U hU => ?_⟩ ?_
        · go_simp; exact vp_alloc rfl rfl rfl
        refine ⟨_, by (simp only [Ent.val]; go_simp <;> exact rfl), ?_⟩
        refine Seg.step _ rfl ⟨by rfl, fun U z k hz hU hc => ?_⟩ ?_
        · have hz2 := Option.some.inj hz
          cases hz2; clear hz
          exact vp_store_agg _ _ _ rfl hc rfl rfl (by kernel_rfl) rfl (by rfl)
        refine ⟨_, by (simp only [Ent.val]; go_simp <;> exact rfl), ?_⟩
        refine Seg.step _ rfl (Or.inl ⟨by rfl, fun U hU => vp_quiet (by (go_simp <;> exact rfl))⟩) ⟨_, by (simp only [Ent.val]; go_simp <;> exact rfl), ?_⟩
        refine Seg.stop (fun U2 hU hk => ?_)
        have nb6 := hge 6 _ _ rfl
        have rb6 := (hk 6 _ 7 rfl trivial).1.1 trivial _ (Nat.zero_le _) rfl
        clear hk hge hne
        generalize th (0 + 6) = p1_6 at *
        simp only [Ent.obj] at rb6
        replace r_p0_0 := held_after hU r_p0_0
        replace r_p0_1 := held_after hU r_p0_1
        have r_p1_6 := rb6
        clear rb6
        have n_p1_6 := nb6
        clear nb6
        have sz2 := hU.size
        replace hB := bthen hB hU
        clear hU
        go_upto_region 2 with (fail)
        apply wp_region_seg (w := U2) (S := [.q [], .q [], .q [], .q [], .q [], .q [], .al 7, .st 6 [], .q []]) (E := [.c0 _, .q0 _, .c0 _, .q0 _, .q0 _, .q0 _, .al _ 7, .s0 6 (.cells _ _), .q0 _]) (by kernel_rfl) rfl (by kernel_rfl) rfl
        · intro th hge hne
          refine Seg.step _ rfl (Or.inl ⟨by rfl, fun U hU => ?_⟩) ?_
          · go_simp
            refine vp_call (qone_any _)
          refine ⟨_, by (simp only [Ent.val]; go_simp <;> exact rfl), ?_⟩
          refine Seg.step _ rfl (Or.inl ⟨by rfl, fun U hU => vp_quiet (by (have h0 := held_cell (held_after hU.1 r_p0_0) 0 _ rfl; have h1 := held_cell (held_after hU.1 r_p0_0) 1 _ rfl; have h2 := held_cell (held_after hU.1 r_p0_0) 2 _ rfl; have h3 := held_cell (held_after hU.1 r_p0_0) 3 _ rfl; go_simp <;> exact rfl))⟩) ⟨_, by (simp only [Ent.val]; go_simp <;> exact rfl), ?_⟩
          refine Seg.step _ rfl (Or.inl ⟨by rfl, fun U hU => ?_⟩) ?_
          · go_simp
            refine vp_call (k2.out _)
          refine ⟨_, by (simp only [Ent.val]; go_simp <;> exact rfl), ?_⟩
          refine Seg.step _ rfl (Or.inl ⟨by rfl, fun U hU => vp_quiet (by (go_simp <;> exact rfl))⟩) ⟨_, by (simp only [Ent.val]; go_simp <;> exact rfl), ?_⟩
          refine Seg.step _ rfl (Or.inl ⟨by rfl, fun U hU => vp_quiet (by (go_simp <;> exact rfl))⟩) ⟨_, by (simp only [Ent.val]; go_simp <;> exact rfl), ?_⟩
          refine Seg.step _ rfl (Or.inl ⟨by rfl, fun U hU => vp_quiet (by (go_simp <;> exact rfl))⟩) ⟨_, by (simp only [Ent.val]; go_simp <;> exact rfl), ?_⟩
          refine Seg.step _ rfl ⟨by rfl, fun U hU => ?_⟩ ?_
          · go_simp; exact vp_alloc rfl rfl rfl
          refine ⟨_, by (simp only [Ent.val]; go_simp <;> exact rfl), ?_⟩
          refine Seg.step _ rfl ⟨by rfl, fun U z k hz hU hc => ?_⟩ ?_
          · have hz2 := Option.some.inj hz
            cases hz2; clear hz
            exact vp_store_agg _ _ _ rfl hc rfl rfl (by kernel_rfl) rfl (by rfl)
          refine ⟨_, by (simp only [Ent.val]; go_simp <;> exact rfl), ?_⟩
          refine Seg.step _ rfl (Or.inl ⟨by rfl, fun U hU => vp_quiet (by (go_simp <;> exact rfl))⟩) ⟨_, by (simp only [Ent.val]; go_simp <;> exact rfl), ?_⟩
          refine Seg.stop (fun U3 hU hk => ?_)
          have nb6 := hge 6 _ _ rfl
          have rb6 := (hk 6 _ 7 rfl trivial).1.1 trivial _ (Nat.zero_le _) rfl
          clear hk hge hne
          generalize th (0 + 6) = p2_6 at *
          simp only [Ent.obj] at rb6
          replace r_p0_0 := held_after hU r_p0_0
          replace r_p0_1 := held_after hU r_p0_1
          replace r_p1_6 := held_after hU r_p1_6
          have r_p2_6 := rb6
          clear rb6
          have n_p2_6 := nb6
          clear nb6
          have sz3 := hU.size
          replace hB := bthen hB hU
          clear hU
          go_upto_region 3 with (fail)
          apply wp_region_seg0 (w := U3) (S := [.q [], .q [], .q [], .q [], .q [], .q [], .q [], .q [], .q [], .q [], .q [], .q [], .q [], .q [], .q [], .q [], .q [], .q []]) (E := [.q0 _, .q0 _, .q0 _, .q0 _, .q0 _, .q0 _, .q0 _, .q0 _, .q0 _, .q0 _, .q0 _, .q0 _, .q0 _, .q0 _, .q0 _, .c0 _, .q0 _, .q0 _]) rfl (by kernel_rfl) rfl
          · intro th hge hne
            refine Seg.step _ rfl (Or.inl ⟨by rfl, fun U hU => vp_quiet (by (have h0 := held_cell (held_after hU.1 r_p1_6) 0 _ rfl; have h1 := held_cell (held_after hU.1 r_p1_6) 1 _ rfl; have h2 := held_cell (held_after hU.1 r_p1_6) 2 _ rfl; have h3 := held_cell (held_after hU.1 r_p1_6) 3 _ rfl; go_simp <;> exact rfl))⟩) ⟨_, by (simp only [Ent.val]; go_simp <;> exact rfl), ?_⟩
            refine Seg.step _ rfl (Or.inl ⟨by rfl, fun U hU => vp_quiet (by (have h0 := held_cell (held_after hU.1 r_p0_0) 0 _ rfl; have h1 := held_cell (held_after hU.1 r_p0_0) 1 _ rfl; have h2 := held_cell (held_after hU.1 r_p0_0) 2 _ rfl; have h3 := held_cell (held_after hU.1 r_p0_0) 3 _ rfl; go_simp <;> exact rfl))⟩) ⟨_, by (simp only [Ent.val]; go_simp <;> exact rfl), ?_⟩
            refine Seg.step _ rfl (Or.inl ⟨by rfl, fun U hU => vp_quiet (by (go_simp <;> exact rfl))⟩) ⟨_, by (simp only [Ent.val]; go_simp <;> exact rfl), ?_⟩
            refine Seg.step _ rfl (Or.inl ⟨by rfl, fun U hU => vp_quiet (by (go_simp <;> exact rfl))⟩) ⟨_, by (simp only [Ent.val]; go_simp <;> exact rfl), ?_⟩
            refine Seg.step _ rfl (Or.inl ⟨by rfl, fun U hU => vp_quiet (by (have h0 := held_cell (held_after hU.1 r_p2_6) 0 _ rfl; have h1 := held_cell (held_after hU.1 r_p2_6) 1 _ rfl; have h2 := held_cell (held_after hU.1 r_p2_6) 2 _ rfl; have h3 := held_cell (held_after hU.1 r_p2_6) 3 _ rfl; go_simp <;> exact rfl))⟩) ⟨_, by (simp only [Ent.val]; go_simp <;> exact rfl), ?_⟩
            refine Seg.step _ rfl (Or.inl ⟨by rfl, fun U hU => vp_quiet (by (have h0 := held_cell (held_after hU.1 r_p0_0) 0 _ rfl; have h1 := held_cell (held_after hU.1 r_p0_0) 1 _ rfl; have h2 := held_cell (held_after hU.1 r_p0_0) 2 _ rfl; have h3 := held_cell (held_after hU.1 r_p0_0) 3 _ rfl; go_simp <;> exact rfl))⟩) ⟨_, by (simp only [Ent.val]; go_simp <;> exact rfl), ?_⟩
            refine Seg.step _ rfl (Or.inl ⟨by rfl, fun U hU => vp_quiet (by (go_simp <;> exact rfl))⟩) ⟨_, by (simp only [Ent.val]; go_simp <;> exact rfl), ?_⟩
            refine Seg.step _ rfl (Or.inl ⟨by rfl, fun U hU => vp_quiet (by (go_simp <;> exact rfl))⟩) ⟨_, by (simp only [Ent.val]; go_simp <;> exact rfl), ?_⟩
            refine Seg.step _ rfl (Or.inl ⟨by rfl, fun U hU => vp_quiet (by (go_simp <;> exact rfl))⟩) ⟨_, by (simp only [Ent.val]; go_simp <;> exact rfl), ?_⟩
            refine Seg.step _ rfl (Or.inl ⟨by rfl, fun U hU => vp_quiet (by (go_simp <;> exact rfl))⟩) ⟨_, by (simp only [Ent.val]; go_simp <;> exact rfl), ?_⟩
            refine Seg.step _ rfl (Or.inl ⟨by rfl, fun U hU => vp_quiet (by (go_simp <;> exact rfl))⟩) ⟨_, by (simp only [Ent.val]; go_simp <;> exact rfl), ?_⟩
            refine Seg.step _ rfl (Or.inl ⟨by rfl, fun U hU => vp_quiet (by (go_simp <;> exact rfl))⟩) ⟨_, by (simp only [Ent.val]; go_simp <;> exact rfl), ?_⟩
            refine Seg.step _ rfl (Or.inl ⟨by rfl, fun U hU => vp_quiet (by (go_simp <;> exact rfl))⟩) ⟨_, by (simp only [Ent.val]; go_simp <;> exact rfl), ?_⟩
            refine Seg.step _ rfl (Or.inl ⟨by rfl, fun U hU => vp_quiet (by (go_simp <;> exact rfl))⟩) ⟨_, by (simp only [Ent.val]; go_simp <;> exact rfl), ?_⟩
            refine Seg.step _ rfl (Or.inl ⟨by rfl, fun U hU => vp_quiet (by (go_simp <;> exact rfl))⟩) ⟨_, by (simp only [Ent.val]; go_simp <;> exact rfl), ?_⟩
            refine Seg.step _ rfl (Or.inl ⟨by rfl, fun U hU => ?_⟩) ?_
            · go_simp
              refine vp_call (knows10_any _)
            refine ⟨_, by (simp only [Ent.val]; go_simp <;> exact rfl), ?_⟩
            refine Seg.step _ rfl (Or.inl ⟨by rfl, fun U hU => vp_quiet (by (go_simp <;> exact rfl))⟩) ⟨_, by (simp only [Ent.val]; go_simp <;> exact rfl), ?_⟩
            refine Seg.step _ rfl (Or.inl ⟨by rfl, fun U hU => vp_quiet (by (go_simp <;> exact rfl))⟩) ⟨_, by (simp only [Ent.val]; go_simp <;> exact rfl), ?_⟩
            refine Seg.stop (fun U4 hU hk => ?_)
            clear hk hge hne
            replace r_p0_0 := held_after hU r_p0_0
            replace r_p0_1 := held_after hU r_p0_1
            replace r_p1_6 := held_after hU r_p1_6
            replace r_p2_6 := held_after hU r_p2_6
            have sz4 := hU.size
            replace hB := bthen hB hU
            clear hU
            go_upto_region 5 with (fail)
            apply wp_region_seg0 (w := U4) (S := [.q [], .q [], .q [], .q [], .q [], .q [], .al 7, .st 6 [], .q []]) (E := [.q0 _, .q0 _, .c0 _, .q0 _, .q0 _, .q0 _, .al _ 7, .s0 6 (.cells _ _), .q0 _]) rfl (by kernel_rfl) rfl
            · intro th hge hne
              refine Seg.step _ rfl (Or.inl ⟨by rfl, fun U hU => vp_quiet (by (have h0 := held_cell (held_after hU.1 r_p0_0) 0 _ rfl; have h1 := held_cell (held_after hU.1 r_p0_0) 1 _ rfl; have h2 := held_cell (held_after hU.1 r_p0_0) 2 _ rfl; have h3 := held_cell (held_after hU.1 r_p0_0) 3 _ rfl; go_simp <;> exact rfl))⟩) ⟨_, by (simp only [Ent.val]; go_simp <;> exact rfl), ?_⟩
              refine Seg.step _ rfl (Or.inl ⟨by rfl, fun U hU => vp_quiet (by (have h0 := held_cell (held_after hU.1 r_p0_1) 0 _ rfl; have h1 := held_cell (held_after hU.1 r_p0_1) 1 _ rfl; have h2 := held_cell (held_after hU.1 r_p0_1) 2 _ rfl; have h3 := held_cell (held_after hU.1 r_p0_1) 3 _ rfl; go_simp <;> exact rfl))⟩) ⟨_, by (simp only [Ent.val]; go_simp <;> exact rfl), ?_⟩
              refine Seg.step _ rfl (Or.inl ⟨by rfl, fun U hU => ?_⟩) ?_
              · go_simp
                refine vp_call (k3.out _)
              refine ⟨_, by (simp only [Ent.val]; go_simp <;> exact rfl), ?_⟩
              refine Seg.step _ rfl (Or.inl ⟨by rfl, fun U hU => vp_quiet (by (go_simp <;> exact rfl))⟩) ⟨_, by (simp only [Ent.val]; go_simp <;> exact rfl), ?_⟩
              refine Seg.step _ rfl (Or.inl ⟨by rfl, fun U hU => vp_quiet (by (go_simp <;> exact rfl))⟩) ⟨_, by (simp only [Ent.val]; go_simp <;> exact rfl), ?_⟩
              refine Seg.step _ rfl (Or.inl ⟨by rfl, fun U hU => vp_quiet (by (go_simp <;> exact rfl))⟩) ⟨_, by (simp only [Ent.val]; go_simp <;> exact rfl), ?_⟩
              refine Seg.step _ rfl ⟨by rfl, fun U hU => ?_⟩ ?_
              · go_simp; exact vp_alloc rfl rfl rfl
              refine ⟨_, by (simp only [Ent.val]; go_simp <;> exact rfl), ?_⟩
              refine Seg.step _ rfl ⟨by rfl, fun U z k hz hU hc => ?_⟩ ?_
              · have hz2 := Option.some.inj hz
                cases hz2; clear hz
                exact vp_store_agg _ _ _ rfl hc rfl rfl (by kernel_rfl) rfl (by rfl)
              refine ⟨_, by (simp only [Ent.val]; go_simp <;> exact rfl), ?_⟩
              refine Seg.step _ rfl (Or.inl ⟨by rfl, fun U hU => vp_quiet (by (go_simp <;> exact rfl))⟩) ⟨_, by (simp only [Ent.val]; go_simp <;> exact rfl), ?_⟩
              refine Seg.stop (fun U5 hU hk => ?_)
              have nb6 := hge 6 _ _ rfl
              have rb6 := (hk 6 _ 7 rfl trivial).1.1 trivial _ (Nat.zero_le _) rfl
              clear hk hge hne
              generalize th (0 + 6) = p5_6 at *
              simp only [Ent.obj] at rb6
              replace r_p0_0 := held_after hU r_p0_0
              replace r_p0_1 := held_after hU r_p0_1
              replace r_p1_6 := held_after hU r_p1_6
              replace r_p2_6 := held_after hU r_p2_6
              have r_p5_6 := rb6
              clear rb6
              have n_p5_6 := nb6
              clear nb6
              have sz5 := hU.size
              replace hB := bthen hB hU
              clear hU
              go_upto_region 6 with (fail)
              apply wp_region_seg0 (w := U5) (S := [.q [], .q [], .q [], .q [], .q [], .al 6, .st 5 [], .q []]) (E := [.q0 _, .c0 _, .q0 _, .q0 _, .q0 _, .al _ 6, .s0 5 (.cells _ _), .q0 _]) rfl (by kernel_rfl) rfl
              · intro th hge hne
                refine Seg.step _ rfl (Or.inl ⟨by rfl, fun U hU => vp_quiet (by (have h0 := held_cell (held_after hU.1 r_p5_6) 0 _ rfl; have h1 := held_cell (held_after hU.1 r_p5_6) 1 _ rfl; have h2 := held_cell (held_after hU.1 r_p5_6) 2 _ rfl; have h3 := held_cell (held_after hU.1 r_p5_6) 3 _ rfl; go_simp <;> exact rfl))⟩) ⟨_, by (simp only [Ent.val]; go_simp <;> exact rfl), ?_⟩
                refine Seg.step _ rfl (Or.inl ⟨by rfl, fun U hU => ?_⟩) ?_
                · go_simp
                  refine vp_call (k4.out _)
                refine ⟨_, by (simp only [Ent.val]; go_simp <;> exact rfl), ?_⟩
                refine Seg.step _ rfl (Or.inl ⟨by rfl, fun U hU => vp_quiet (by (go_simp <;> exact rfl))⟩) ⟨_, by (simp only [Ent.val]; go_simp <;> exact rfl), ?_⟩
                refine Seg.step _ rfl (Or.inl ⟨by rfl, fun U hU => vp_quiet (by (go_simp <;> exact rfl))⟩) ⟨_, by (simp only [Ent.val]; go_simp <;> exact rfl), ?_⟩
                refine Seg.step _ rfl (Or.inl ⟨by rfl, fun U hU => vp_quiet (by (go_simp <;> exact rfl))⟩) ⟨_, by (simp only [Ent.val]; go_simp <;> exact rfl), ?_⟩
                refine Seg.step _ rfl ⟨by rfl, fun U hU => ?_⟩ ?_
                · go_simp; exact vp_alloc rfl rfl rfl
                refine ⟨_, by (simp only [Ent.val]; go_simp <;> exact rfl), ?_⟩
                refine Seg.step _ rfl ⟨by rfl, fun U z k hz hU hc => ?_⟩ ?_
                · have hz2 := Option.some.inj hz
                  cases hz2; clear hz
                  exact vp_store_agg _ _ _ rfl hc rfl rfl (by kernel_rfl) rfl (by rfl)
                refine ⟨_, by (simp only [Ent.val]; go_simp <;> exact rfl), ?_⟩
                refine Seg.step _ rfl (Or.inl ⟨by rfl, fun U hU => vp_quiet (by (go_simp <;> exact rfl))⟩) ⟨_, by (simp only [Ent.val]; go_simp <;> exact rfl), ?_⟩
                refine Seg.stop (fun U6 hU hk => ?_)
                have nb5 := hge 5 _ _ rfl
                have rb5 := (hk 5 _ 6 rfl trivial).1.1 trivial _ (Nat.zero_le _) rfl
                clear hk hge hne
                generalize th (0 + 5) = p6_5 at *
                simp only [Ent.obj] at rb5
                replace r_p0_0 := held_after hU r_p0_0
                replace r_p0_1 := held_after hU r_p0_1
                replace r_p1_6 := held_after hU r_p1_6
                replace r_p2_6 := held_after hU r_p2_6
                replace r_p5_6 := held_after hU r_p5_6
                have r_p6_5 := rb5
                clear rb5
                have n_p6_5 := nb5
                clear nb5
                have sz6 := hU.size
                replace hB := bthen hB hU
                clear hU
                go_upto_region 7 with (fail)
                apply wp_region_seg0 (w := U6) (S := [.q [], .q [], .q [], .q [], .q [], .al 6, .st 5 [], .q []]) (E := [.q0 _, .c0 _, .q0 _, .q0 _, .q0 _, .al _ 6, .s0 5 (.cells _ _), .q0 _]) rfl (by kernel_rfl) rfl
                · intro th hge hne
                  refine Seg.step _ rfl (Or.inl ⟨by rfl, fun U hU => vp_quiet (by (have h0 := held_cell (held_after hU.1 r_p0_0) 0 _ rfl; have h1 := held_cell (held_after hU.1 r_p0_0) 1 _ rfl; have h2 := held_cell (held_after hU.1 r_p0_0) 2 _ rfl; have h3 := held_cell (held_after hU.1 r_p0_0) 3 _ rfl; go_simp <;> exact rfl))⟩) ⟨_, by (simp only [Ent.val]; go_simp <;> exact rfl), ?_⟩
                  refine Seg.step _ rfl (Or.inl ⟨by rfl, fun U hU => ?_⟩) ?_
                  · go_simp
                    refine vp_call (k5.out _)
                  refine ⟨_, by (simp only [Ent.val]; go_simp <;> exact rfl), ?_⟩
                  refine Seg.step _ rfl (Or.inl ⟨by rfl, fun U hU => vp_quiet (by (go_simp <;> exact rfl))⟩) ⟨_, by (simp only [Ent.val]; go_simp <;> exact rfl), ?_⟩
                  refine Seg.step _ rfl (Or.inl ⟨by rfl, fun U hU => vp_quiet (by (go_simp <;> exact rfl))⟩) ⟨_, by (simp only [Ent.val]; go_simp <;> exact rfl), ?_⟩
                  refine Seg.step _ rfl (Or.inl ⟨by rfl, fun U hU => vp_quiet (by (go_simp <;> exact rfl))⟩) ⟨_, by (simp only [Ent.val]; go_simp <;> exact rfl), ?_⟩
                  refine Seg.step _ rfl ⟨by rfl, fun U hU => ?_⟩ ?_
                  · go_simp; exact vp_alloc rfl rfl rfl
                  refine ⟨_, by (simp only [Ent.val]; go_simp <;> exact rfl), ?_⟩
                  refine Seg.step _ rfl ⟨by rfl, fun U z k hz hU hc => ?_⟩ ?_
                  · have hz2 := Option.some.inj hz
                    cases hz2; clear hz
                    exact vp_store_agg _ _ _ rfl hc rfl rfl (by kernel_rfl) rfl (by rfl)
                  refine ⟨_, by (simp only [Ent.val]; go_simp <;> exact rfl), ?_⟩
                  refine Seg.step _ rfl (Or.inl ⟨by rfl, fun U hU => vp_quiet (by (go_simp <;> exact rfl))⟩) ⟨_, by (simp only [Ent.val]; go_simp <;> exact rfl), ?_⟩
                  refine Seg.stop (fun U7 hU hk => ?_)
                  have nb5 := hge 5 _ _ rfl
                  have rb5 := (hk 5 _ 6 rfl trivial).1.1 trivial _ (Nat.zero_le _) rfl
                  clear hk hge hne
                  generalize th (0 + 5) = p7_5 at *
                  simp only [Ent.obj] at rb5
                  replace r_p0_0 := held_after hU r_p0_0
                  replace r_p0_1 := held_after hU r_p0_1
                  replace r_p1_6 := held_after hU r_p1_6
                  replace r_p2_6 := held_after hU r_p2_6
                  replace r_p5_6 := held_after hU r_p5_6
                  replace r_p6_5 := held_after hU r_p6_5
                  have r_p7_5 := rb5
                  clear rb5
                  have n_p7_5 := nb5
                  clear nb5
                  have sz7 := hU.size
                  replace hB := bthen hB hU
                  clear hU
                  go_upto_region 8 with (fail)
                  apply wp_region_seg0 (w := U7) (S := [.q [], .q [], .q [], .q [], .q [], .al 6, .st 5 [], .q []]) (E := [.q0 _, .c0 _, .q0 _, .q0 _, .q0 _, .al _ 6, .s0 5 (.cells _ _), .q0 _]) rfl (by kernel_rfl) rfl
                  · intro th hge hne
                    refine Seg.step _ rfl (Or.inl ⟨by rfl, fun U hU => vp_quiet (by (have h0 := held_cell (held_after hU.1 r_p0_1) 0 _ rfl; have h1 := held_cell (held_after hU.1 r_p0_1) 1 _ rfl; have h2 := held_cell (held_after hU.1 r_p0_1) 2 _ rfl; have h3 := held_cell (held_after hU.1 r_p0_1) 3 _ rfl; go_simp <;> exact rfl))⟩) ⟨_, by (simp only [Ent.val]; go_simp <;> exact rfl), ?_⟩
                    refine Seg.step _ rfl (Or.inl ⟨by rfl, fun U hU => ?_⟩) ?_
                    · go_simp
                      refine vp_call (k6.out _)
                    refine ⟨_, by (simp only [Ent.val]; go_simp <;> exact rfl), ?_⟩
                    refine Seg.step _ rfl (Or.inl ⟨by rfl, fun U hU => vp_quiet (by (go_simp <;> exact rfl))⟩) ⟨_, by (simp only [Ent.val]; go_simp <;> exact rfl), ?_⟩
                    refine Seg.step _ rfl (Or.inl ⟨by rfl, fun U hU => vp_quiet (by (go_simp <;> exact rfl))⟩) ⟨_, by (simp only [Ent.val]; go_simp <;> exact rfl), ?_⟩
                    refine Seg.step _ rfl (Or.inl ⟨by rfl, fun U hU => vp_quiet (by (go_simp <;> exact rfl))⟩) ⟨_, by (simp only [Ent.val]; go_simp <;> exact rfl), ?_⟩
                    refine Seg.step _ rfl ⟨by rfl, fun U hU => ?_⟩ ?_
                    · go_simp; exact vp_alloc rfl rfl rfl
                    refine ⟨_, by (simp only [Ent.val]; go_simp <;> exact rfl), ?_⟩
                    refine Seg.step _ rfl ⟨by rfl, fun U z k hz hU hc => ?_⟩ ?_
                    · have hz2 := Option.some.inj hz
                      cases hz2; clear hz
                      exact vp_store_agg _ _ _ rfl hc rfl rfl (by kernel_rfl) rfl (by rfl)
                    refine ⟨_, by (simp only [Ent.val]; go_simp <;> exact rfl), ?_⟩
                    refine Seg.step _ rfl (Or.inl ⟨by rfl, fun U hU => vp_quiet (by (go_simp <;> exact rfl))⟩) ⟨_, by (simp only [Ent.val]; go_simp <;> exact rfl), ?_⟩
                    refine Seg.stop (fun U8 hU hk => ?_)
                    have nb5 := hge 5 _ _ rfl
                    have rb5 := (hk 5 _ 6 rfl trivial).1.1 trivial _ (Nat.zero_le _) rfl
                    clear hk hge hne
                    generalize th (0 + 5) = p8_5 at *
                    simp only [Ent.obj] at rb5
                    replace r_p0_0 := held_after hU r_p0_0
                    replace r_p0_1 := held_after hU r_p0_1
                    replace r_p1_6 := held_after hU r_p1_6
                    replace r_p2_6 := held_after hU r_p2_6
                    replace r_p5_6 := held_after hU r_p5_6
                    replace r_p6_5 := held_after hU r_p6_5
                    replace r_p7_5 := held_after hU r_p7_5
                    have r_p8_5 := rb5
                    clear rb5
                    have n_p8_5 := nb5
                    clear nb5
                    have sz8 := hU.size
                    replace hB := bthen hB hU
                    clear hU
                    go_upto_region 9 with (fail)
                    apply wp_region_seg0 (w := U8) (S := [.q [], .q [], .q [], .q [], .q [], .q [], .al 7, .st 6 [], .q []]) (E := [.q0 _, .q0 _, .c0 _, .q0 _, .q0 _, .q0 _, .al _ 7, .s0 6 (.cells _ _), .q0 _]) rfl (by kernel_rfl) rfl
                    · intro th hge hne
                      refine Seg.step _ rfl (Or.inl ⟨by rfl, fun U hU => vp_quiet (by (have h0 := held_cell (held_after hU.1 r_p8_5) 0 _ rfl; have h1 := held_cell (held_after hU.1 r_p8_5) 1 _ rfl; have h2 := held_cell (held_after hU.1 r_p8_5) 2 _ rfl; have h3 := held_cell (held_after hU.1 r_p8_5) 3 _ rfl; go_simp <;> exact rfl))⟩) ⟨_, by (simp only [Ent.val]; go_simp <;> exact rfl), ?_⟩
                      refine Seg.step _ rfl (Or.inl ⟨by rfl, fun U hU => vp_quiet (by (have h0 := held_cell (held_after hU.1 r_p7_5) 0 _ rfl; have h1 := held_cell (held_after hU.1 r_p7_5) 1 _ rfl; have h2 := held_cell (held_after hU.1 r_p7_5) 2 _ rfl; have h3 := held_cell (held_after hU.1 r_p7_5) 3 _ rfl; go_simp <;> exact rfl))⟩) ⟨_, by (simp only [Ent.val]; go_simp <;> exact rfl), ?_⟩
                      refine Seg.step _ rfl (Or.inl ⟨by rfl, fun U hU => ?_⟩) ?_
                      · go_simp
                        refine vp_call (k7.out _)
                      refine ⟨_, by (simp only [Ent.val]; go_simp <;> exact rfl), ?_⟩
                      refine Seg.step _ rfl (Or.inl ⟨by rfl, fun U hU => vp_quiet (by (go_simp <;> exact rfl))⟩) ⟨_, by (simp only [Ent.val]; go_simp <;> exact rfl), ?_⟩
                      refine Seg.step _ rfl (Or.inl ⟨by rfl, fun U hU => vp_quiet (by (go_simp <;> exact rfl))⟩) ⟨_, by (simp only [Ent.val]; go_simp <;> exact rfl), ?_⟩
                      refine Seg.step _ rfl (Or.inl ⟨by rfl, fun U hU => vp_quiet (by (go_simp <;> exact rfl))⟩) ⟨_, by (simp only [Ent.val]; go_simp <;> exact rfl), ?_⟩
                      refine Seg.step _ rfl ⟨by rfl, fun U hU => ?_⟩ ?_
                      · go_simp; exact vp_alloc rfl rfl rfl
                      refine ⟨_, by (simp only [Ent.val]; go_simp <;> exact rfl), ?_⟩
                      refine Seg.step _ rfl ⟨by rfl, fun U z k hz hU hc => ?_⟩ ?_
                      · have hz2 := Option.some.inj hz
                        cases hz2; clear hz
                        exact vp_store_agg _ _ _ rfl hc rfl rfl (by kernel_rfl) rfl (by rfl)
                      refine ⟨_, by (simp only [Ent.val]; go_simp <;> exact rfl), ?_⟩
                      refine Seg.step _ rfl (Or.inl ⟨by rfl, fun U hU => vp_quiet (by (go_simp <;> exact rfl))⟩) ⟨_, by (simp only [Ent.val]; go_simp <;> exact rfl), ?_⟩
                      refine Seg.stop (fun U9 hU hk => ?_)
                      have nb6 := hge 6 _ _ rfl
                      have rb6 := (hk 6 _ 7 rfl trivial).1.1 trivial _ (Nat.zero_le _) rfl
                      clear hk hge hne
                      generalize th (0 + 6) = p9_6 at *
                      simp only [Ent.obj] at rb6
                      replace r_p0_0 := held_after hU r_p0_0
                      replace r_p0_1 := held_after hU r_p0_1
                      replace r_p1_6 := held_after hU r_p1_6
                      replace r_p2_6 := held_after hU r_p2_6
                      replace r_p5_6 := held_after hU r_p5_6
                      replace r_p6_5 := held_after hU r_p6_5
                      replace r_p7_5 := held_after hU r_p7_5
                      replace r_p8_5 := held_after hU r_p8_5
                      have r_p9_6 := rb6
                      clear rb6
                      have n_p9_6 := nb6
                      clear nb6
                      have sz9 := hU.size
                      replace hB := bthen hB hU
                      clear hU
                      go_upto_region 10 with (fail)
                      apply wp_region_seg0 (w := U9) (S := [.q [], .q [], .q [], .q [], .q [], .q [], .q [], .q [], .q [], .q [], .q [], .q [], .q [], .q [], .q [], .q []]) (E := [.q0 _, .q0 _, .q0 _, .q0 _, .q0 _, .q0 _, .q0 _, .q0 _, .q0 _, .q0 _, .q0 _, .q0 _, .q0 _, .q0 _, .q0 _, .q0 _]) rfl (by kernel_rfl) rfl
                      · intro th hge hne
                        refine Seg.step _ rfl (Or.inl ⟨by rfl, fun U hU => vp_quiet (by (go_simp <;> exact rfl))⟩) ⟨_, by (simp only [Ent.val]; go_simp <;> exact rfl), ?_⟩
                        refine Seg.step _ rfl (Or.inl ⟨by rfl, fun U hU => vp_quiet (by (go_simp <;> exact rfl))⟩) ⟨_, by (simp only [Ent.val]; go_simp <;> exact rfl), ?_⟩
                        refine Seg.step _ rfl (Or.inl ⟨by rfl, fun U hU => vp_quiet (by (go_simp <;> exact rfl))⟩) ⟨_, by (simp only [Ent.val]; go_simp <;> exact rfl), ?_⟩
                        refine Seg.step _ rfl (Or.inl ⟨by rfl, fun U hU => vp_quiet (by (go_simp <;> exact rfl))⟩) ⟨_, by (simp only [Ent.val]; go_simp <;> exact rfl), ?_⟩
                        refine Seg.step _ rfl (Or.inl ⟨by rfl, fun U hU => vp_quiet (by (go_simp <;> exact rfl))⟩) ⟨_, by (simp only [Ent.val]; go_simp <;> exact rfl), ?_⟩
                        refine Seg.step _ rfl (Or.inl ⟨by rfl, fun U hU => vp_quiet (by (go_simp <;> exact rfl))⟩) ⟨_, by (simp only [Ent.val]; go_simp <;> exact rfl), ?_⟩
                        refine Seg.step _ rfl (Or.inl ⟨by rfl, fun U hU => vp_quiet (by (go_simp <;> exact rfl))⟩) ⟨_, by (simp only [Ent.val]; go_simp <;> exact rfl), ?_⟩
                        refine Seg.step _ rfl (Or.inl ⟨by rfl, fun U hU => vp_quiet (by (go_simp <;> exact rfl))⟩) ⟨_, by (simp only [Ent.val]; go_simp <;> exact rfl), ?_⟩
                        refine Seg.step _ rfl (Or.inl ⟨by rfl, fun U hU => vp_quiet (by (go_simp <;> exact rfl))⟩) ⟨_, by (simp only [Ent.val]; go_simp <;> exact rfl), ?_⟩
                        refine Seg.step _ rfl (Or.inl ⟨by rfl, fun U hU => vp_quiet (by (go_simp <;> exact rfl))⟩) ⟨_, by (simp only [Ent.val]; go_simp <;> exact rfl), ?_⟩
                        refine Seg.step _ rfl (Or.inl ⟨by rfl, fun U hU => vp_quiet (by (go_simp <;> exact rfl))⟩) ⟨_, by (simp only [Ent.val]; go_simp <;> exact rfl), ?_⟩
                        refine Seg.step _ rfl (Or.inr ⟨by rfl, rfl⟩) ⟨_, by (simp only [Ent.val]; go_simp <;> exact rfl), ?_⟩
                        refine Seg.step _ rfl (Or.inr ⟨by rfl, rfl⟩) ⟨_, by (simp only [Ent.val]; go_simp <;> exact rfl), ?_⟩
                        refine Seg.step _ rfl (Or.inr ⟨by rfl, rfl⟩) ⟨_, by (simp only [Ent.val]; go_simp <;> exact rfl), ?_⟩
                        refine Seg.step _ rfl (Or.inl ⟨by rfl, fun U hU => vp_quiet (by (go_simp <;> exact rfl))⟩) ⟨_, by (simp only [Ent.val]; go_simp <;> exact rfl), ?_⟩
                        refine Seg.step _ rfl (Or.inl ⟨by rfl, fun U hU => vp_quiet (by (go_simp <;> exact rfl))⟩) ⟨_, by (simp only [Ent.val]; go_simp <;> exact rfl), ?_⟩
                        refine Seg.stop (fun U10 hU hk => ?_)
                        clear hk hge hne
                        replace r_p0_0 := held_after hU r_p0_0
                        replace r_p0_1 := held_after hU r_p0_1
                        replace r_p1_6 := held_after hU r_p1_6
                        replace r_p2_6 := held_after hU r_p2_6
                        replace r_p5_6 := held_after hU r_p5_6
                        replace r_p6_5 := held_after hU r_p6_5
                        replace r_p7_5 := held_after hU r_p7_5
                        replace r_p8_5 := held_after hU r_p8_5
                        replace r_p9_6 := held_after hU r_p9_6
                        have sz10 := hU.size
                        replace hB := bthen hB hU
                        clear hU
                        go_wp2_with fail
                        go_ret
                        exact ⟨rfl, hB⟩
  · go_enter Try.func6, Try.ntmps6
    go_upto_region 0 with (fail)
    apply wp_region_seg0 (w := W) (S := [.al 1000, .al 1000, .q []]) (E := [.al _ 1000, .al _ 1000, .q0 _]) rfl (by kernel_rfl) rfl
    · intro th hge hne
      refine Seg.step _ rfl ⟨by rfl, fun U hU => ?_⟩ ?_
      · go_simp; exact vp_alloc rfl rfl rfl
      refine ⟨_, by (simp only [Ent.val]; go_simp <;> exact rfl), ?_⟩
      refine Seg.step _ rfl ⟨by rfl, fun U hU => ?_⟩ ?_
      · go_simp; exact vp_alloc rfl rfl rfl
      refine ⟨_, by (simp only [Ent.val]; go_simp <;> exact rfl), ?_⟩
      refine Seg.step _ rfl (Or.inl ⟨by rfl, fun U hU => vp_quiet (by (go_simp <;> exact rfl))⟩) ⟨_, by (simp only [Ent.val]; go_simp <;> exact rfl), ?_⟩
      refine Seg.stop (fun U1 hU hk => ?_)
      have nb0 := hge 0 _ _ rfl
      have rb0 := (hk 0 _ _ rfl trivial).1.2 (by simp)
      have nb1 := hge 1 _ _ rfl
      have rb1 := (hk 1 _ _ rfl trivial).1.2 (by simp)
      have ne0_1 := hne 0 1 _ _ _ _ rfl rfl (by omega)
      clear hk hge hne
      generalize th (0 + 0) = p0_0 at *
      skip
      generalize th (0 + 1) = p0_1 at *
      skip
      have r_p0_0 := rb0
      clear rb0
      have n_p0_0 := nb0
      clear nb0
      have d_p0_0_p0_1 := ne0_1
      clear ne0_1
      have r_p0_1 := rb1
      clear rb1
      have n_p0_1 := nb1
      clear nb1
      have sz1 := hU.size
      have hB : Below W.heap.size W U1 := hU
      clear hU
      go_upto_region 1 with (fail)
      apply wp_region_seg (w := U1) (S := [.q [], .q [], .q [], .q [], .q [], .q [], .al 7, .st 6 [], .q []]) (E := [.q0 _, .c0 _, .c0 _, .q0 _, .q0 _, .q0 _, .al _ 7, .s0 6 (.cells _ _), .q0 _]) (by kernel_rfl) rfl (by kernel_rfl) rfl
      · intro th hge hne
        refine Seg.step _ rfl (Or.inl ⟨by rfl, fun U hU => vp_quiet (by (have h0 := held_cell (held_after hU.1 r_p0_0) 0 _ rfl; have h1 := held_cell (held_after hU.1 r_p0_0) 1 _ rfl; have h2 := held_cell (held_after hU.1 r_p0_0) 2 _ rfl; have h3 := held_cell (held_after hU.1 r_p0_0) 3 _ rfl; go_simp <;> exact rfl))⟩) ⟨_, by (simp only [Ent.val]; go_simp <;> exact rfl), ?_⟩
        refine Seg.step _ rfl (Or.inl ⟨by rfl, fun U hU => ?_⟩) ?_
        · go_simp
          refine vp_call (qone_any _)
        refine ⟨_, by (simp only [Ent.val]; go_simp <;> exact rfl), ?_⟩
        refine Seg.step _ rfl (Or.inl ⟨by rfl, fun U hU => ?_⟩) ?_
        · go_simp
          refine vp_call (k1.out _)
        refine ⟨_, by (simp only [Ent.val]; go_simp <;> exact rfl), ?_⟩
        refine Seg.step _ rfl (Or.inl ⟨by rfl, fun U hU => vp_quiet (by (go_simp <;> exact rfl))⟩) ⟨_, by (simp only [Ent.val]; go_simp <;> exact rfl), ?_⟩
        refine Seg.step _ rfl (Or.inl ⟨by rfl, fun U hU => vp_quiet (by (go_simp <;> exact rfl))⟩) ⟨_, by (simp only [Ent.val]; go_simp <;> exact rfl), ?_⟩
        refine Seg.step _ rfl (Or.inl ⟨by rfl, fun U hU => vp_quiet (by (go_simp <;> exact rfl))⟩) ⟨_, by (simp only [Ent.val]; go_simp <;> exact rfl), ?_⟩
        refine Seg.step _ rfl ⟨by rfl, fun U hU => ?_⟩ ?_
        · go_simp; exact vp_alloc rfl rfl rfl
        refine ⟨_, by (simp only [Ent.val]; go_simp <;> exact rfl), ?_⟩
        refine Seg.step _ rfl ⟨by rfl, fun U z k hz hU hc => ?_⟩ ?_
        · have hz2 := Option.some.inj hz
          cases hz2; clear hz
          exact vp_store_agg _ _ _ rfl hc rfl rfl (by kernel_rfl) rfl (by rfl)
        refine ⟨_, by (simp only [Ent.val]; go_simp <;> exact rfl), ?_⟩
        refine Seg.step _ rfl (Or.inl ⟨by rfl, fun U hU => vp_quiet (by (go_simp <;> exact rfl))⟩) ⟨_, by (simp only [Ent.val]; go_simp <;> exact rfl), ?_⟩
        refine Seg.stop (fun U2 hU hk => ?_)
        have nb6 := hge 6 _ _ rfl
        have rb6 := (hk 6 _ 7 rfl trivial).1.1 trivial _ (Nat.zero_le _) rfl
        clear hk hge hne
        generalize th (0 + 6) = p1_6 at *
        simp only [Ent.obj] at rb6
        replace r_p0_0 := held_after hU r_p0_0
        replace r_p0_1 := held_after hU r_p0_1
        have r_p1_6 := rb6
        clear rb6
        have n_p1_6 := nb6
        clear nb6
        have sz2 := hU.size
        replace hB := bthen hB hU
        clear hU
        go_upto_region 2 with (fail)
        apply wp_region_seg (w := U2) (S := [.q [], .q [], .q [], .q [], .q [], .q [], .al 7, .st 6 [], .q []]) (E := [.c0 _, .q0 _, .c0 _, .q0 _, .q0 _, .q0 _, .al _ 7, .s0 6 (.cells _ _), .q0 _]) (by kernel_rfl) rfl (by kernel_rfl) rfl
        · intro th hge hne
          refine Seg.step _ rfl (Or.inl ⟨by rfl, fun U hU => ?_⟩) ?_
          · go_simp
            refine vp_call (qone_any _)
          refine ⟨_, by (simp only [Ent.val]; go_simp <;> exact rfl), ?_⟩
          refine Seg.step _ rfl (Or.inl ⟨by rfl, fun U hU => vp_quiet (by (have h0 := held_cell (held_after hU.1 r_p0_0) 0 _ rfl; have h1 := held_cell (held_after hU.1 r_p0_0) 1 _ rfl; have h2 := held_cell (held_after hU.1 r_p0_0) 2 _ rfl; have h3 := held_cell (held_after hU.1 r_p0_0) 3 _ rfl; go_simp <;> exact rfl))⟩) ⟨_, by (simp only [Ent.val]; go_simp <;> exact rfl), ?_⟩
          refine Seg.step _ rfl (Or.inl ⟨by rfl, fun U hU => ?_⟩) ?_
          · go_simp
            refine vp_call (k2.out _)
          refine ⟨_, by (simp only [Ent.val]; go_simp <;> exact rfl), ?_⟩
          refine Seg.step _ rfl (Or.inl ⟨by rfl, fun U hU => vp_quiet (by (go_simp <;> exact rfl))⟩) ⟨_, by (simp only [Ent.val]; go_simp <;> exact rfl), ?_⟩
          refine Seg.step _ rfl (Or.inl ⟨by rfl, fun U hU => vp_quiet (by (go_simp <;> exact rfl))⟩) ⟨_, by (simp only [Ent.val]; go_simp <;> exact rfl), ?_⟩
          refine Seg.step _ rfl (Or.inl ⟨by rfl, fun U hU => vp_quiet (by (go_simp <;> exact rfl))⟩) ⟨_, by (simp only [Ent.val]; go_simp <;> exact rfl), ?_⟩
          refine Seg.step _ rfl ⟨by rfl, fun U hU => ?_⟩ ?_
          · go_simp; exact vp_alloc rfl rfl rfl
          refine ⟨_, by (simp only [Ent.val]; go_simp <;> exact rfl), ?_⟩
          refine Seg.step _ rfl ⟨by rfl, fun U z k hz hU hc => ?_⟩ ?_
          · have hz2 := Option.some.inj hz
            cases hz2; clear hz
            exact vp_store_agg _ _ _ rfl hc rfl rfl (by kernel_rfl) rfl (by rfl)
          refine ⟨_, by (simp only [Ent.val]; go_simp <;> exact rfl), ?_⟩
          refine Seg.step _ rfl (Or.inl ⟨by rfl, fun U hU => vp_quiet (by (go_simp <;> exact rfl))⟩) ⟨_, by (simp only [Ent.val]; go_simp <;> exact rfl), ?_⟩
          refine Seg.stop (fun U3 hU hk => ?_)
          have nb6 := hge 6 _ _ rfl
          have rb6 := (hk 6 _ 7 rfl trivial).1.1 trivial _ (Nat.zero_le _) rfl
          clear hk hge hne
          generalize th (0 + 6) = p2_6 at *
          simp only [Ent.obj] at rb6
          replace r_p0_0 := held_after hU r_p0_0
          replace r_p0_1 := held_after hU r_p0_1
          replace r_p1_6 := held_after hU r_p1_6
          have r_p2_6 := rb6
          clear rb6
          have n_p2_6 := nb6
          clear nb6
          have sz3 := hU.size
          replace hB := bthen hB hU
          clear hU
          go_upto_region 3 with (fail)
          apply wp_region_seg0 (w := U3) (S := [.q [], .q [], .q [], .q [], .q [], .q [], .q [], .q [], .q [], .q [], .q [], .q [], .q [], .q [], .q [], .q [], .q [], .q []]) (E := [.q0 _, .q0 _, .q0 _, .q0 _, .q0 _, .q0 _, .q0 _, .q0 _, .q0 _, .q0 _, .q0 _, .q0 _, .q0 _, .q0 _, .q0 _, .c0 _, .q0 _, .q0 _]) rfl (by kernel_rfl) rfl
          · intro th hge hne
            refine Seg.step _ rfl (Or.inl ⟨by rfl, fun U hU => vp_quiet (by (have h0 := held_cell (held_after hU.1 r_p1_6) 0 _ rfl; have h1 := held_cell (held_after hU.1 r_p1_6) 1 _ rfl; have h2 := held_cell (held_after hU.1 r_p1_6) 2 _ rfl; have h3 := held_cell (held_after hU.1 r_p1_6) 3 _ rfl; go_simp <;> exact rfl))⟩) ⟨_, by (simp only [Ent.val]; go_simp <;> exact rfl), ?_⟩
            refine Seg.step _ rfl (Or.inl ⟨by rfl, fun U hU => vp_quiet (by (have h0 := held_cell (held_after hU.1 r_p0_0) 0 _ rfl; have h1 := held_cell (held_after hU.1 r_p0_0) 1 _ rfl; have h2 := held_cell (held_after hU.1 r_p0_0) 2 _ rfl; have h3 := held_cell (held_after hU.1 r_p0_0) 3 _ rfl; go_simp <;> exact rfl))⟩) ⟨_, by (simp only [Ent.val]; go_simp <;> exact rfl), ?_⟩
            refine Seg.step _ rfl (Or.inl ⟨by rfl, fun U hU => vp_quiet (by (go_simp <;> exact rfl))⟩) ⟨_, by (simp only [Ent.val]; go_simp <;> exact rfl), ?_⟩
            refine Seg.step _ rfl (Or.inl ⟨by rfl, fun U hU => vp_quiet (by (go_simp <;> exact rfl))⟩) ⟨_, by (simp only [Ent.val]; go_simp <;> exact rfl), ?_⟩
            refine Seg.step _ rfl (Or.inl ⟨by rfl, fun U hU => vp_quiet (by (have h0 := held_cell (held_after hU.1 r_p2_6) 0 _ rfl; have h1 := held_cell (held_after hU.1 r_p2_6) 1 _ rfl; have h2 := held_cell (held_after hU.1 r_p2_6) 2 _ rfl; have h3 := held_cell (held_after hU.1 r_p2_6) 3 _ rfl; go_simp <;> exact rfl))⟩) ⟨_, by (simp only [Ent.val]; go_simp <;> exact rfl), ?_⟩
            refine Seg.step _ rfl (Or.inl ⟨by rfl, fun U hU => vp_quiet (by (have h0 := held_cell (held_after hU.1 r_p0_0) 0 _ rfl; have h1 := held_cell (held_after hU.1 r_p0_0) 1 _ rfl; have h2 := held_cell (held_after hU.1 r_p0_0) 2 _ rfl; have h3 := held_cell (held_after hU.1 r_p0_0) 3 _ rfl; go_simp <;> exact rfl))⟩) ⟨_, by (simp only [Ent.val]; go_simp <;> exact rfl), ?_⟩
            refine Seg.step _ rfl (Or.inl ⟨by rfl, fun U hU => vp_quiet (by (go_simp <;> exact rfl))⟩) ⟨_, by (simp only [Ent.val]; go_simp <;> exact rfl), ?_⟩
            refine Seg.step _ rfl (Or.inl ⟨by rfl, fun U hU => vp_quiet (by (go_simp <;> exact rfl))⟩) ⟨_, by (simp only [Ent.val]; go_simp <;> exact rfl), ?_⟩
            refine Seg.step _ rfl (Or.inl ⟨by rfl, fun U hU => vp_quiet (by (go_simp <;> exact rfl))⟩) ⟨_, by (simp only [Ent.val]; go_simp <;> exact rfl), ?_⟩
            refine Seg.step _ rfl (Or.inl ⟨by rfl, fun U hU => vp_quiet (by (go_simp <;> exact rfl))⟩) ⟨_, by (simp only [Ent.val]; go_simp <;> exact rfl), ?_⟩
            refine Seg.step _ rfl (Or.inl ⟨by rfl, fun U hU => vp_quiet (by (go_simp <;> exact rfl))⟩) ⟨_, by (simp only [Ent.val]; go_simp <;> exact rfl), ?_⟩
            refine Seg.step _ rfl (Or.inl ⟨by rfl, fun U hU => vp_quiet (by (go_simp <;> exact rfl))⟩) ⟨_, by (simp only [Ent.val]; go_simp <;> exact rfl), ?_⟩
            refine Seg.step _ rfl (Or.inl ⟨by rfl, fun U hU => vp_quiet (by (go_simp <;> exact rfl))⟩) ⟨_, by (simp only [Ent.val]; go_simp <;> exact rfl), ?_⟩
            refine Seg.step _ rfl (Or.inl ⟨by rfl, fun U hU => vp_quiet (by (go_simp <;> exact rfl))⟩) ⟨_, by (simp only [Ent.val]; go_simp <;> exact rfl), ?_⟩
            refine Seg.step _ rfl (Or.inl ⟨by rfl, fun U hU => vp_quiet (by (go_simp <;> exact rfl))⟩) ⟨_, by (simp only [Ent.val]; go_simp <;> exact rfl), ?_⟩
            refine Seg.step _ rfl (Or.inl ⟨by rfl, fun U hU => ?_⟩) ?_
            · go_simp
              refine vp_call (knows10_any _)
            refine ⟨_, by (simp only [Ent.val]; go_simp <;> exact rfl), ?_⟩
            refine Seg.step _ rfl (Or.inl ⟨by rfl, fun U hU => vp_quiet (by (go_simp <;> exact rfl))⟩) ⟨_, by (simp only [Ent.val]; go_simp <;> exact rfl), ?_⟩
            refine Seg.step _ rfl (Or.inl ⟨by rfl, fun U hU => vp_quiet (by (go_simp <;> exact rfl))⟩) ⟨_, by (simp only [Ent.val]; go_simp <;> exact rfl), ?_⟩
            refine Seg.stop (fun U4 hU hk => ?_)
            clear hk hge hne
            replace r_p0_0 := held_after hU r_p0_0
            replace r_p0_1 := held_after hU r_p0_1
            replace r_p1_6 := held_after hU r_p1_6
            replace r_p2_6 := held_after hU r_p2_6
            have sz4 := hU.size
            replace hB := bthen hB hU
            clear hU
            go_upto_region 5 with (fail)
            apply wp_region_seg0 (w := U4) (S := [.q [], .q [], .q [], .q [], .q [], .q [], .al 7, .st 6 [], .q []]) (E := [.q0 _, .q0 _, .c0 _, .q0 _, .q0 _, .q0 _, .al _ 7, .s0 6 (.cells _ _), .q0 _]) rfl (by kernel_rfl) rfl
            · intro th hge hne
              refine Seg.step _ rfl (Or.inl ⟨by rfl, fun U hU => vp_quiet (by (have h0 := held_cell (held_after hU.1 r_p0_0) 0 _ rfl; have h1 := held_cell (held_after hU.1 r_p0_0) 1 _ rfl; have h2 := held_cell (held_after hU.1 r_p0_0) 2 _ rfl; have h3 := held_cell (held_after hU.1 r_p0_0) 3 _ rfl; go_simp <;> exact rfl))⟩) ⟨_, by (simp only [Ent.val]; go_simp <;> exact rfl), ?_⟩
              refine Seg.step _ rfl (Or.inl ⟨by rfl, fun U hU => vp_quiet (by (have h0 := held_cell (held_after hU.1 r_p0_1) 0 _ rfl; have h1 := held_cell (held_after hU.1 r_p0_1) 1 _ rfl; have h2 := held_cell (held_after hU.1 r_p0_1) 2 _ rfl; have h3 := held_cell (held_after hU.1 r_p0_1) 3 _ rfl; go_simp <;> exact rfl))⟩) ⟨_, by (simp only [Ent.val]; go_simp <;> exact rfl), ?_⟩
              refine Seg.step _ rfl (Or.inl ⟨by rfl, fun U hU => ?_⟩) ?_
              · go_simp
                refine vp_call (k3.out _)
              refine ⟨_, by (simp only [Ent.val]; go_simp <;> exact rfl), ?_⟩
              refine Seg.step _ rfl (Or.inl ⟨by rfl, fun U hU => vp_quiet (by (go_simp <;> exact rfl))⟩) ⟨_, by (simp only [Ent.val]; go_simp <;> exact rfl), ?_⟩
              refine Seg.step _ rfl (Or.inl ⟨by rfl, fun U hU => vp_quiet (by (go_simp <;> exact rfl))⟩) ⟨_, by (simp only [Ent.val]; go_simp <;> exact rfl), ?_⟩
              refine Seg.step _ rfl (Or.inl ⟨by rfl, fun U hU => vp_quiet (by (go_simp <;> exact rfl))⟩) ⟨_, by (simp only [Ent.val]; go_simp <;> exact rfl), ?_⟩
              refine Seg.step _ rfl ⟨by rfl, fun U hU => ?_⟩ ?_
              · go_simp; exact vp_alloc rfl rfl rfl
              refine ⟨_, by (simp only [Ent.val]; go_simp <;> exact rfl), ?_⟩
              refine Seg.step _ rfl ⟨by rfl, fun U z k hz hU hc => ?_⟩ ?_
              · have hz2 := Option.some.inj hz
                cases hz2; clear hz
                exact vp_store_agg _ _ _ rfl hc rfl rfl (by kernel_rfl) rfl (by rfl)
              refine ⟨_, by (simp only [Ent.val]; go_simp <;> exact rfl), ?_⟩
              refine Seg.step _ rfl (Or.inl ⟨by rfl, fun U hU => vp_quiet (by (go_simp <;> exact rfl))⟩) ⟨_, by (simp only [Ent.val]; go_simp <;> exact rfl), ?_⟩
              refine Seg.stop (fun U5 hU hk => ?_)
              have nb6 := hge 6 _ _ rfl
              have rb6 := (hk 6 _ 7 rfl trivial).1.1 trivial _ (Nat.zero_le _) rfl
              clear hk hge hne
              generalize th (0 + 6) = p5_6 at *
              simp only [Ent.obj] at rb6
              replace r_p0_0 := held_after hU r_p0_0
              replace r_p0_1 := held_after hU r_p0_1
              replace r_p1_6 := held_after hU r_p1_6
              replace r_p2_6 := held_after hU r_p2_6
              have r_p5_6 := rb6
              clear rb6
              have n_p5_6 := nb6
              clear nb6
              have sz5 := hU.size
              replace hB := bthen hB hU
              clear hU
              go_upto_region 6 with (fail)
              apply wp_region_seg0 (w := U5) (S := [.q [], .q [], .q [], .q [], .q [], .al 6, .st 5 [], .q []]) (E := [.q0 _, .c0 _, .q0 _, .q0 _, .q0 _, .al _ 6, .s0 5 (.cells _ _), .q0 _]) rfl (by kernel_rfl) rfl
              · intro th hge hne
                refine Seg.step _ rfl (Or.inl ⟨by rfl, fun U hU => vp_quiet (by (have h0 := held_cell (held_after hU.1 r_p5_6) 0 _ rfl; have h1 := held_cell (held_after hU.1 r_p5_6) 1 _ rfl; have h2 := held_cell (held_after hU.1 r_p5_6) 2 _ rfl; have h3 := held_cell (held_after hU.1 r_p5_6) 3 _ rfl; go_simp <;> exact rfl))⟩) ⟨_, by (simp only [Ent.val]; go_simp <;> exact rfl), ?_⟩
                refine Seg.step _ rfl (Or.inl ⟨by rfl, fun U hU => ?_⟩) ?_
                · go_simp
                  refine vp_call (k4.out _)
                refine ⟨_, by (simp only [Ent.val]; go_simp <;> exact rfl), ?_⟩
                refine Seg.step _ rfl (Or.inl ⟨by rfl, fun U hU => vp_quiet (by (go_simp <;> exact rfl))⟩) ⟨_, by (simp only [Ent.val]; go_simp <;> exact rfl), ?_⟩
                refine Seg.step _ rfl (Or.inl ⟨by rfl, fun U hU => vp_quiet (by (go_simp <;> exact rfl))⟩) ⟨_, by (simp only [Ent.val]; go_simp <;> exact rfl), ?_⟩
                refine Seg.step _ rfl (Or.inl ⟨by rfl, fun U hU => vp_quiet (by (go_simp <;> exact rfl))⟩) ⟨_, by (simp only [Ent.val]; go_simp <;> exact rfl), ?_⟩
                refine Seg.step _ rfl ⟨by rfl, fun U hU => ?_⟩ ?_
                · go_simp; exact vp_alloc rfl rfl rfl
                refine ⟨_, by (simp only [Ent.val]; go_simp <;> exact rfl), ?_⟩
                refine Seg.step _ rfl ⟨by rfl, fun U z k hz hU hc => ?_⟩ ?_
                · have hz2 := Option.some.inj hz
                  cases hz2; clear hz
                  exact vp_store_agg _ _ _ rfl hc rfl rfl (by kernel_rfl) rfl (by rfl)
                refine ⟨_, by (simp only [Ent.val]; go_simp <;> exact rfl), ?_⟩
                refine Seg.step _ rfl (Or.inl ⟨by rfl, fun U hU => vp_quiet (by (go_simp <;> exact rfl))⟩) ⟨_, by (simp only [Ent.val]; go_simp <;> exact rfl), ?_⟩
                refine Seg.stop (fun U6 hU hk => ?_)
                have nb5 := hge 5 _ _ rfl
                have rb5 := (hk 5 _ 6 rfl trivial).1.1 trivial _ (Nat.zero_le _) rfl
                clear hk hge hne
                generalize th (0 + 5) = p6_5 at *
                simp only [Ent.obj] at rb5
                replace r_p0_0 := held_after hU r_p0_0
                replace r_p0_1 := held_after hU r_p0_1
                replace r_p1_6 := held_after hU r_p1_6
                replace r_p2_6 := held_after hU r_p2_6
                replace r_p5_6 := held_after hU r_p5_6
                have r_p6_5 := rb5
                clear rb5
                have n_p6_5 := nb5
                clear nb5
                have sz6 := hU.size
                replace hB := bthen hB hU
                clear hU
                go_upto_region 7 with (fail)
                apply wp_region_seg0 (w := U6) (S := [.q [], .q [], .q [], .q [], .q [], .al 6, .st 5 [], .q []]) (E := [.q0 _, .c0 _, .q0 _, .q0 _, .q0 _, .al _ 6, .s0 5 (.cells _ _), .q0 _]) rfl (by kernel_rfl) rfl
                · intro th hge hne
                  refine Seg.step _ rfl (Or.inl ⟨by rfl, fun U hU => vp_quiet (by (have h0 := held_cell (held_after hU.1 r_p0_0) 0 _ rfl; have h1 := held_cell (held_after hU.1 r_p0_0) 1 _ rfl; have h2 := held_cell (held_after hU.1 r_p0_0) 2 _ rfl; have h3 := held_cell (held_after hU.1 r_p0_0) 3 _ rfl; go_simp <;> exact rfl))⟩) ⟨_, by (simp only [Ent.val]; go_simp <;> exact rfl), ?_⟩
                  refine Seg.step _ rfl (Or.inl ⟨by rfl, fun U hU => ?_⟩) ?_
                  · go_simp
                    refine vp_call (k5.out _)
                  refine ⟨_, by (simp only [Ent.val]; go_simp <;> exact rfl), ?_⟩
                  refine Seg.step _ rfl (Or.inl ⟨by rfl, fun U hU => vp_quiet (by (go_simp <;> exact rfl))⟩) ⟨_, by (simp only [Ent.val]; go_simp <;> exact rfl), ?_⟩
                  refine Seg.step _ rfl (Or.inl ⟨by rfl, fun U hU => vp_quiet (by (go_simp <;> exact rfl))⟩) ⟨_, by (simp only [Ent.val]; go_simp <;> exact rfl), ?_⟩
                  refine Seg.step _ rfl (Or.inl ⟨by rfl, fun U hU => vp_quiet (by (go_simp <;> exact rfl))⟩) ⟨_, by (simp only [Ent.val]; go_simp <;> exact rfl), ?_⟩
                  refine Seg.step _ rfl ⟨by rfl, fun U hU => ?_⟩ ?_
                  · go_simp; exact vp_alloc rfl rfl rfl
                  refine ⟨_, by (simp only [Ent.val]; go_simp <;> exact rfl), ?_⟩
                  refine Seg.step _ rfl ⟨by rfl, fun U z k hz hU hc => ?_⟩ ?_
                  · have hz2 := Option.some.inj hz
                    cases hz2; clear hz
                    exact vp_store_agg _ _ _ rfl hc rfl rfl (by kernel_rfl) rfl (by rfl)
                  refine ⟨_, by (simp only [Ent.val]; go_simp <;> exact rfl), ?_⟩
                  refine Seg.step _ rfl (Or.inl ⟨by rfl, fun U hU => vp_quiet (by (go_simp <;> exact rfl))⟩) ⟨_, by (simp only [Ent.val]; go_simp <;> exact rfl), ?_⟩
                  refine Seg.stop (fun U7 hU hk => ?_)
                  have nb5 := hge 5 _ _ rfl
                  have rb5 := (hk 5 _ 6 rfl trivial).1.1 trivial _ (Nat.zero_le _) rfl
                  clear hk hge hne
                  generalize th (0 + 5) = p7_5 at *
                  simp only [Ent.obj] at rb5
                  replace r_p0_0 := held_after hU r_p0_0
                  replace r_p0_1 := held_after hU r_p0_1
                  replace r_p1_6 := held_after hU r_p1_6
                  replace r_p2_6 := held_after hU r_p2_6
                  replace r_p5_6 := held_after hU r_p5_6
                  replace r_p6_5 := held_after hU r_p6_5
                  have r_p7_5 := rb5
                  clear rb5
                  have n_p7_5 := nb5
                  clear nb5
                  have sz7 := hU.size
                  replace hB := bthen hB hU
                  clear hU
                  go_upto_region 8 with (fail)
                  apply wp_region_seg0 (w := U7) (S := [.q [], .q [], .q [], .q [], .q [], .al 6, .st 5 [], .q []]) (E := [.q0 _, .c0 _, .q0 _, .q0 _, .q0 _, .al _ 6, .s0 5 (.cells _ _), .q0 _]) rfl (by kernel_rfl) rfl
                  · intro th hge hne
                    refine Seg.step _ rfl (Or.inl ⟨by rfl, fun U hU => vp_quiet (by (have h0 := held_cell (held_after hU.1 r_p0_1) 0 _ rfl; have h1 := held_cell (held_after hU.1 r_p0_1) 1 _ rfl; have h2 := held_cell (held_after hU.1 r_p0_1) 2 _ rfl; have h3 := held_cell (held_after hU.1 r_p0_1) 3 _ rfl; go_simp <;> exact rfl))⟩) ⟨_, by (simp only [Ent.val]; go_simp <;> exact rfl), ?_⟩
                    refine Seg.step _ rfl (Or.inl ⟨by rfl, fun U hU => ?_⟩) ?_
                    · go_simp
                      refine vp_call (k6.out _)
                    refine ⟨_, by (simp only [Ent.val]; go_simp <;> exact rfl), ?_⟩
                    refine Seg.step _ rfl (Or.inl ⟨by rfl, fun U hU => vp_quiet (by (go_simp <;> exact rfl))⟩) ⟨_, by (simp only [Ent.val]; go_simp <;> exact rfl), ?_⟩
                    refine Seg.step _ rfl (Or.inl ⟨by rfl, fun U hU => vp_quiet (by (go_simp <;> exact rfl))⟩) ⟨_, by (simp only [Ent.val]; go_simp <;> exact rfl), ?_⟩
                    refine Seg.step _ rfl (Or.inl ⟨by rfl, fun U hU => vp_quiet (by (go_simp <;> exact rfl))⟩) ⟨_, by (simp only [Ent.val]; go_simp <;> exact rfl), ?_⟩
                    refine Seg.step _ rfl ⟨by rfl, fun U hU => ?_⟩ ?_
                    · go_simp; exact vp_alloc rfl rfl rfl
                    refine ⟨_, by (simp only [Ent.val]; go_simp <;> exact rfl), ?_⟩
                    refine Seg.step _ rfl ⟨by rfl, fun U z k hz hU hc => ?_⟩ ?_
                    · have hz2 := Option.some.inj hz
                      cases hz2; clear hz
                      exact vp_store_agg _ _ _ rfl hc rfl rfl (by kernel_rfl) rfl (by rfl)
                    refine ⟨_, by (simp only [Ent.val]; go_simp <;> exact rfl), ?_⟩
                    refine Seg.step _ rfl (Or.inl ⟨by rfl, fun U hU => vp_quiet (by (go_simp <;> exact rfl))⟩) ⟨_, by (simp only [Ent.val]; go_simp <;> exact rfl), ?_⟩
                    refine Seg.stop (fun U8 hU hk => ?_)
                    have nb5 := hge 5 _ _ rfl
                    have rb5 := (hk 5 _ 6 rfl trivial).1.1 trivial _ (Nat.zero_le _) rfl
                    clear hk hge hne
                    generalize th (0 + 5) = p8_5 at *
                    simp only [Ent.obj] at rb5
                    replace r_p0_0 := held_after hU r_p0_0
                    replace r_p0_1 := held_after hU r_p0_1
                    replace r_p1_6 := held_after hU r_p1_6
                    replace r_p2_6 := held_after hU r_p2_6
                    replace r_p5_6 := held_after hU r_p5_6
                    replace r_p6_5 := held_after hU r_p6_5
                    replace r_p7_5 := held_after hU r_p7_5
                    have r_p8_5 := rb5
                    clear rb5
                    have n_p8_5 := nb5
                    clear nb5
                    have sz8 := hU.size
                    replace hB := bthen hB hU
                    clear hU
                    go_upto_region 9 with (fail)
                    apply wp_region_seg0 (w := U8) (S := [.q [], .q [], .q [], .q [], .q [], .q [], .al 7, .st 6 [], .q []]) (E := [.q0 _, .q0 _, .c0 _, .q0 _, .q0 _, .q0 _, .al _ 7, .s0 6 (.cells _ _), .q0 _]) rfl (by kernel_rfl) rfl
                    · intro th hge hne
                      refine Seg.step _ rfl (Or.inl ⟨by rfl, fun U hU => vp_quiet (by (have h0 := held_cell (held_after hU.1 r_p8_5) 0 _ rfl; have h1 := held_cell (held_after hU.1 r_p8_5) 1 _ rfl; have h2 := held_cell (held_after hU.1 r_p8_5) 2 _ rfl; have h3 := held_cell (held_after hU.1 r_p8_5) 3 _ rfl; go_simp <;> exact rfl))⟩) ⟨_, by (simp only [Ent.val]; go_simp <;> exact rfl), ?_⟩
                      refine Seg.step _ rfl (Or.inl ⟨by rfl, fun U hU => vp_quiet (by (have h0 := held_cell (held_after hU.1 r_p7_5) 0 _ rfl; have h1 := held_cell (held_after hU.1 r_p7_5) 1 _ rfl; have h2 := held_cell (held_after hU.1 r_p7_5) 2 _ rfl; have h3 := held_cell (held_after hU.1 r_p7_5) 3 _ rfl; go_simp <;> exact rfl))⟩) ⟨_, by (simp only [Ent.val]; go_simp <;> exact rfl), ?_⟩
                      refine Seg.step _ rfl (Or.inl ⟨by rfl, fun U hU => ?_⟩) ?_
                      · go_simp
                        refine vp_call (k7.out _)
                      refine ⟨_, by (simp only [Ent.val]; go_simp <;> exact rfl), ?_⟩
                      refine Seg.step _ rfl (Or.inl ⟨by rfl, fun U hU => vp_quiet (by (go_simp <;> exact rfl))⟩) ⟨_, by (simp only [Ent.val]; go_simp <;> exact rfl), ?_⟩
                      refine Seg.step _ rfl (Or.inl ⟨by rfl, fun U hU => vp_quiet (by (go_simp <;> exact rfl))⟩) ⟨_, by (simp only [Ent.val]; go_simp <;> exact rfl), ?_⟩
                      refine Seg.step _ rfl (Or.inl ⟨by rfl, fun U hU => vp_quiet (by (go_simp <;> exact rfl))⟩) ⟨_, by (simp only [Ent.val]; go_simp <;> exact rfl), ?_⟩
                      refine Seg.step _ rfl ⟨by rfl, fun U hU => ?_⟩ ?_
                      · go_simp; exact vp_alloc rfl rfl rfl
                      refine ⟨_, by (simp only [Ent.val]; go_simp <;> exact rfl), ?_⟩
                      refine Seg.step _ rfl ⟨by rfl, fun U z k hz hU hc => ?_⟩ ?_
                      · have hz2 := Option.some.inj hz
                        cases hz2; clear hz
                        exact vp_store_agg _ _ _ rfl hc rfl rfl (by kernel_rfl) rfl (by rfl)
                      refine ⟨_, by (simp only [Ent.val]; go_simp <;> exact rfl), ?_⟩
                      refine Seg.step _ rfl (Or.inl ⟨by rfl, fun U hU => vp_quiet (by (go_simp <;> exact rfl))⟩) ⟨_, by (simp only [Ent.val]; go_simp <;> exact rfl), ?_⟩
                      refine Seg.stop (fun U9 hU hk => ?_)
                      have nb6 := hge 6 _ _ rfl
                      have rb6 := (hk 6 _ 7 rfl trivial).1.1 trivial _ (Nat.zero_le _) rfl
                      clear hk hge hne
                      generalize th (0 + 6) = p9_6 at *
                      simp only [Ent.obj] at rb6
                      replace r_p0_0 := held_after hU r_p0_0
                      replace r_p0_1 := held_after hU r_p0_1
                      replace r_p1_6 := held_after hU r_p1_6
                      replace r_p2_6 := held_after hU r_p2_6
                      replace r_p5_6 := held_after hU r_p5_6
                      replace r_p6_5 := held_after hU r_p6_5
                      replace r_p7_5 := held_after hU r_p7_5
                      replace r_p8_5 := held_after hU r_p8_5
                      have r_p9_6 := rb6
                      clear rb6
                      have n_p9_6 := nb6
                      clear nb6
                      have sz9 := hU.size
                      replace hB := bthen hB hU
                      clear hU
                      go_upto_region 10 with (fail)
                      apply wp_region_seg0 (w := U9) (S := [.q [], .q [], .q [], .q [], .q [], .q [], .q [], .q [], .q [], .q [], .q [], .q [], .q [], .q [], .q [], .q []]) (E := [.q0 _, .q0 _, .q0 _, .q0 _, .q0 _, .q0 _, .q0 _, .q0 _, .q0 _, .q0 _, .q0 _, .q0 _, .q0 _, .q0 _, .q0 _, .q0 _]) rfl (by kernel_rfl) rfl
                      · intro th hge hne
                        refine Seg.step _ rfl (Or.inl ⟨by rfl, fun U hU => vp_quiet (by (go_simp <;> exact rfl))⟩) ⟨_, by (simp only [Ent.val]; go_simp <;> exact rfl), ?_⟩
                        refine Seg.step _ rfl (Or.inl ⟨by rfl, fun U hU => vp_quiet (by (go_simp <;> exact rfl))⟩) ⟨_, by (simp only [Ent.val]; go_simp <;> exact rfl), ?_⟩
                        refine Seg.step _ rfl (Or.inl ⟨by rfl, fun U hU => vp_quiet (by (go_simp <;> exact rfl))⟩) ⟨_, by (simp only [Ent.val]; go_simp <;> exact rfl), ?_⟩
                        refine Seg.step _ rfl (Or.inl ⟨by rfl, fun U hU => vp_quiet (by (go_simp <;> exact rfl))⟩) ⟨_, by (simp only [Ent.val]; go_simp <;> exact rfl), ?_⟩
                        refine Seg.step _ rfl (Or.inl ⟨by rfl, fun U hU => vp_quiet (by (go_simp <;> exact rfl))⟩) ⟨_, by (simp only [Ent.val]; go_simp <;> exact rfl), ?_⟩
                        refine Seg.step _ rfl (Or.inl ⟨by rfl, fun U hU => vp_quiet (by (go_simp <;> exact rfl))⟩) ⟨_, by (simp only [Ent.val]; go_simp <;> exact rfl), ?_⟩
                        refine Seg.step _ rfl (Or.inl ⟨by rfl, fun U hU => vp_quiet (by (go_simp <;> exact rfl))⟩) ⟨_, by (simp only [Ent.val]; go_simp <;> exact rfl), ?_⟩
                        refine Seg.step _ rfl (Or.inl ⟨by rfl, fun U hU => vp_quiet (by (go_simp <;> exact rfl))⟩) ⟨_, by (simp only [Ent.val]; go_simp <;> exact rfl), ?_⟩
                        refine Seg.step _ rfl (Or.inl ⟨by rfl, fun U hU => vp_quiet (by (go_simp <;> exact rfl))⟩) ⟨_, by (simp only [Ent.val]; go_simp <;> exact rfl), ?_⟩
                        refine Seg.step _ rfl (Or.inl ⟨by rfl, fun U hU => vp_quiet (by (go_simp <;> exact rfl))⟩) ⟨_, by (simp only [Ent.val]; go_simp <;> exact rfl), ?_⟩
                        refine Seg.step _ rfl (Or.inl ⟨by rfl, fun U hU => vp_quiet (by (go_simp <;> exact rfl))⟩) ⟨_, by (simp only [Ent.val]; go_simp <;> exact rfl), ?_⟩
                        refine Seg.step _ rfl (Or.inl ⟨by rfl, fun U hU => vp_quiet (by (have h0 := held_cell (held_after hU.1 r_p6_5) 0 _ rfl; have h1 := held_cell (held_after hU.1 r_p6_5) 1 _ rfl; have h2 := held_cell (held_after hU.1 r_p6_5) 2 _ rfl; have h3 := held_cell (held_after hU.1 r_p6_5) 3 _ rfl; go_simp <;> exact rfl))⟩) ⟨_, by (simp only [Ent.val]; go_simp <;> exact rfl), ?_⟩
                        refine Seg.step _ rfl (Or.inl ⟨by rfl, fun U hU => vp_quiet (by (have h0 := held_cell (held_after hU.1 r_p9_6) 0 _ rfl; have h1 := held_cell (held_after hU.1 r_p9_6) 1 _ rfl; have h2 := held_cell (held_after hU.1 r_p9_6) 2 _ rfl; have h3 := held_cell (held_after hU.1 r_p9_6) 3 _ rfl; go_simp <;> exact rfl))⟩) ⟨_, by (simp only [Ent.val]; go_simp <;> exact rfl), ?_⟩
                        refine Seg.step _ rfl (Or.inl ⟨by rfl, fun U hU => vp_quiet (by (go_simp <;> exact rfl))⟩) ⟨_, by (simp only [Ent.val]; go_simp <;> exact rfl), ?_⟩
                        refine Seg.step _ rfl (Or.inl ⟨by rfl, fun U hU => vp_quiet (by (go_simp <;> exact rfl))⟩) ⟨_, by (simp only [Ent.val]; go_simp <;> exact rfl), ?_⟩
                        refine Seg.step _ rfl (Or.inl ⟨by rfl, fun U hU => vp_quiet (by (go_simp <;> exact rfl))⟩) ⟨_, by (simp only [Ent.val]; go_simp <;> exact rfl), ?_⟩
                        refine Seg.stop (fun U10 hU hk => ?_)
                        clear hk hge hne
                        replace r_p0_0 := held_after hU r_p0_0
                        replace r_p0_1 := held_after hU r_p0_1
                        replace r_p1_6 := held_after hU r_p1_6
                        replace r_p2_6 := held_after hU r_p2_6
                        replace r_p5_6 := held_after hU r_p5_6
                        replace r_p6_5 := held_after hU r_p6_5
                        replace r_p7_5 := held_after hU r_p7_5
                        replace r_p8_5 := held_after hU r_p8_5
                        replace r_p9_6 := held_after hU r_p9_6
                        have sz10 := hU.size
                        replace hB := bthen hB hU
                        clear hU
                        go_wp2_with fail
                        go_ret
                        exact ⟨rfl, hB⟩

end Go.Proofs.Ytdifdfmpfpnlmaa
