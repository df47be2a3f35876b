/- The laws FuseRange and FuseRest, walked. -/
import Derived.Test.YtpdpcdifnlellaaFZ5
import Derived.Test.YtpdpcdifnlellaaFZ6
import Derived.Deep.DeepCutAuto
namespace Go.Proofs.Ytpdpcdifnlellaa
open Go.ChangeShapes Go.WideShapes Go.ChangeAt Go.RowKit
set_option maxRecDepth 100000
set_option linter.unusedVariables false
set_option linter.unusedSimpArgs false

set_option maxHeartbeats 32000000 in
theorem law_FuseRange (a0_0 : Int) (a0_1 : Int) (a0_2 : Int) (a0_3 : Int) (a0_4 : Int) (a0_5 : Int) (a0_6 : Int) (a0_7 : Int) (a0_8 : Int) (a1_0 : Int) (a1_1 : Int) (a1_2 : Int) (a1_3 : Int) (a1_4 : Int) (a1_5 : Int) (a1_6 : Int) (W : World) (w0_0 : (Lit.int .i32 a0_0).wf = true) (w0_1 : (Lit.int .i32 a0_1).wf = true) (w0_2 : (Lit.int .i32 a0_2).wf = true) (w0_3 : (Lit.int .i32 a0_3).wf = true) (w0_4 : (Lit.int .i32 a0_4).wf = true) (w0_5 : (Lit.int .i32 a0_5).wf = true) (w0_6 : (Lit.int .i32 a0_6).wf = true) (w0_7 : (Lit.int .i64 a0_7).wf = true) (w0_8 : (Lit.int .i64 a0_8).wf = true) (w1_0 : (Lit.int .i32 a1_0).wf = true) (w1_1 : (Lit.int .i32 a1_1).wf = true) (w1_2 : (Lit.int .i32 a1_2).wf = true) (w1_3 : (Lit.int .i32 a1_3).wf = true) (w1_4 : (Lit.int .i32 a1_4).wf = true) (w1_5 : (Lit.int .i32 a1_5).wf = true) (w1_6 : (Lit.int .i32 a1_6).wf = true) :
    Calls Try.prog 3 #[.agg #[.int .i32 a0_0, .int .i32 a0_1, .int .i32 a0_2, .int .i32 a0_3, .int .i32 a0_4, .int .i32 a0_5, .int .i32 a0_6, .int .i64 a0_7, .int .i64 a0_8], .agg #[.int .i32 a1_0, .int .i32 a1_1, .int .i32 a1_2, .int .i32 a1_3, .int .i32 a1_4, .int .i32 a1_5, .int .i32 a1_6]] W fun e w' => e = .returned (.bool true) ∧ Below W.heap.size W w' := by
  have kM := hid (fun U => may_any a0_0 a0_1 a0_2 a0_3 a0_4 a0_5 a0_6 a0_7 a0_8 U)
  have p0 := b32_42 w0_0
  have p1 := b32_42 w0_1
  have p2 := b32_42 w0_2
  have p3 := b32_42 w0_3
  have p4 := b32_42 w0_4
  have p5 := b32_42 w0_5
  have p6 := b32_42 w0_6
  have r0 := b32_42 w1_0
  have r1 := b32_42 w1_1
  have r2 := b32_42 w1_2
  have r3 := b32_42 w1_3
  have r4 := b32_42 w1_4
  have r5 := b32_42 w1_5
  have r6 := b32_42 w1_6
  by_cases hm : 0 ≤ a0_7 ∧ a0_7 ≤ 1099511627776 ∧ 0 ≤ a0_8 ∧ a0_8 ≤ 1099511627776
  case neg =>
    rw [show decide (0 ≤ a0_7 ∧ a0_7 ≤ 1099511627776 ∧ 0 ≤ a0_8 ∧ a0_8 ≤ 1099511627776) = false from decide_eq_false hm] at kM
    clear hm p0 r0 p1 r1 p2 r2 p3 r3 p4 r4 p5 r5 p6 r6 w0_0 w0_1 w0_2 w0_3 w0_4 w0_5 w0_6 w0_7 w0_8 w1_0 w1_1 w1_2 w1_3 w1_4 w1_5 w1_6
    go_enter Try.func3, Try.ntmps3
    go_upto_region 0 with (fail)
    apply wp_region_seg0 (w := W) (S := [.al 1000, .al 1000, .q []]) (E := [.al ((fun p => .pointer (some ⟨p, 0, none⟩)), _) 1000, .al ((fun p => .pointer (some ⟨p, 0, none⟩)), _) 1000, .q0 _]) rfl (by kernel_rfl) rfl rfl
    intro th hge hne
    refine Seg.step _ rfl ⟨by rfl, fun U hU => ?_⟩ ?_
    · go_simp; exact vp_alloc rfl rfl rfl
    refine Seg.sa ?_
    refine Seg.step _ rfl ⟨by rfl, fun U hU => ?_⟩ ?_
    · go_simp; exact vp_alloc rfl rfl rfl
    refine Seg.sa ?_
    refine Seg.sq ?_
    refine Seg.stop (fun U1 hU hk => ?_)
    have nb0 := hge 0 _ _ rfl
    have rb0 := (hk 0 _ _ rfl trivial).1.2 (by simp)
    have nb1 := hge 1 _ _ rfl
    have rb1 := (hk 1 _ _ rfl trivial).1.2 (by simp)
    have ne0_1 := hne 0 1 _ _ _ _ rfl rfl (by omega)
    clear hk hge hne
    generalize th (0 + 0) = p0_0 at *
    dsimp only at rb0
    generalize th (0 + 1) = p0_1 at *
    dsimp only at rb1
    have r_p0_0 := rb0
    clear rb0
    have n_p0_0 := nb0
    clear nb0
    have d_p0_0_p0_1 := ne0_1
    clear ne0_1
    have r_p0_1 := rb1
    clear rb1
    have n_p0_1 := nb1
    clear nb1
    have sz1 := hU.size
    have hB : Below W.heap.size W U1 := hU
    clear hU
    go_upto_region 1 with (fail)
    apply wp_region_seg0 (w := U1) (S := [.q [], .q [], .q [], .q [], .q [], .q [], .q []]) (E := [.q0 _, .c0 _, .q0 _, .q0 _, .c0 _, .q0 _, .q0 _]) rfl (by kernel_rfl) rfl rfl
    intro th hge hne
    refine Seg.sq ?_ (ht := Or.inl ⟨by rfl, fun U hU => vp_quiet (by (have h0 := held_cell (held_after hU.1 r_p0_0) 0 _ rfl; have h1 := held_cell (held_after hU.1 r_p0_0) 1 _ rfl; have h2 := held_cell (held_after hU.1 r_p0_0) 2 _ rfl; have h3 := held_cell (held_after hU.1 r_p0_0) 3 _ rfl; have h4 := held_cell (held_after hU.1 r_p0_0) 4 _ rfl; have h5 := held_cell (held_after hU.1 r_p0_0) 5 _ rfl; have h6 := held_cell (held_after hU.1 r_p0_0) 6 _ rfl; have h7 := held_cell (held_after hU.1 r_p0_0) 7 _ rfl; have h8 := held_cell (held_after hU.1 r_p0_0) 8 _ rfl; go_simp <;> exact rfl))⟩)
    refine Seg.step _ rfl (Or.inl ⟨by rfl, fun U hU => ?_⟩) ?_
    · go_simp
      refine vp_call (kM.out _)
    refine Seg.sa ?_
    refine Seg.sq ?_
    refine Seg.sq ?_
    refine Seg.sq ?_ (ht := Or.inr ⟨by rfl, rfl⟩)
    refine Seg.sq ?_ (ht := Or.inr ⟨by rfl, rfl⟩)
    refine Seg.sq ?_
    refine Seg.stop (fun U2 hU hk => ?_)
    clear hk hge hne
    replace r_p0_0 := held_after hU r_p0_0
    replace r_p0_1 := held_after hU r_p0_1
    have sz2 := hU.size
    replace hB := bthen hB hU
    clear hU
    go_upto_region 2 with (fail)
    apply wp_region_seg0 (w := U2) (S := [.q [], .q []]) (E := [.c0 _, .q0 _]) rfl (by kernel_rfl) rfl rfl
    intro th hge hne
    refine Seg.step _ rfl (Or.inl ⟨by rfl, fun U hU => ?_⟩) ?_
    · go_simp
      refine vp_call (knows42_any _)
    refine Seg.sa ?_
    refine Seg.sq ?_
    refine Seg.stop (fun U3 hU hk => ?_)
    clear hk hge hne
    replace r_p0_0 := held_after hU r_p0_0
    replace r_p0_1 := held_after hU r_p0_1
    have sz3 := hU.size
    replace hB := bthen hB hU
    clear hU
    go_wp2_with fail
    go_ret
    exact ⟨rfl, hB⟩
  rw [show decide (0 ≤ a0_7 ∧ a0_7 ≤ 1099511627776 ∧ 0 ≤ a0_8 ∧ a0_8 ≤ 1099511627776) = true from decide_eq_true hm] at kM
  obtain ⟨m1, m2, m3, m4⟩ := hm
  obtain ⟨Q0, Q1, Q2, Q3, B0, B1, B2, N, hS, ⟨o0, o1, o2, o3⟩, ⟨f1, f2⟩, ⟨g1, g2, g3, g4, g5, g6⟩, n1, n2⟩ := step_form a0_0 a0_1 a0_2 a0_3 a0_4 a0_5 a0_6 a1_0 a1_1 a1_2 a1_3 a1_4 a1_5 a1_6 ⟨p4, p5, p6⟩
  obtain ⟨x, hP, hx⟩ := pack_word f1
  have k1 := hid (fun U => fstep_any a0_0 a0_1 a0_2 a0_3 a0_4 a0_5 a0_6 a1_0 a1_1 a1_2 a1_3 a1_4 a1_5 a1_6 a0_7 a0_8 U p0 p1 p2 p3 p4 p5 p6 r0 r1 r2 r3 r4 r5 r6 m1 (by omega) m3 (by omega) Q0 Q1 Q2 Q3 B0 B1 B2 N hS)
  have k2 := hid (fun U => roff_any Q0 Q1 Q2 Q3 U o0 o1 o2 o3)
  have k3 := hid (fun U => fword_any Q0 Q1 Q2 Q3 B0 B1 B2 (a0_7 + 1) (a0_8 + N) x true hP U o0 o1 o2 o3)
  generalize offS (sqs [Q0, Q1, Q2, Q3] 0) = F at *
  have d0 : decide (F ≤ 8589934592) = true := by simp; omega
  have d1 : decide (B0 ≤ 16384) = true := by simp; omega
  have d2 : decide (B1 ≤ 16384) = true := by simp; omega
  have d3 : decide (B2 ≤ 16384) = true := by simp; omega
  have d4 : decide (-16384 ≤ B0) = true := by simp; omega
  have d5 : decide (-16384 ≤ B1) = true := by simp; omega
  have d6 : decide (-16384 ≤ B2) = true := by simp; omega
  have d7 : decide (a0_8 ≤ a0_8 + N) = true := by simp; omega
  have d8 : decide (a0_8 + N ≤ a0_8 + 40) = true := by simp; omega
  have d9 : decide (N ≤ 40) = true := by simp; omega
  have d10 : decide (0 ≤ N) = true := by simp; omega
  have d20 : (x != 0) = true := by simp; omega
  have wS : IntKind.i64.wrap (a0_7 + 1) = a0_7 + 1 := (by rw [IntKind.wrap_i64]; omega)
  have wC : IntKind.i64.wrap (a0_8 + 40) = a0_8 + 40 := (by rw [IntKind.wrap_i64]; omega)
  clear hS hP hx o0 o1 o2 o3 f1 f2 g1 g2 g3 g4 g5 g6 n1 n2 m1 m2 m3 m4 p0 r0 p1 r1 p2 r2 p3 r3 p4 r4 p5 r5 p6 r6 w0_0 w0_1 w0_2 w0_3 w0_4 w0_5 w0_6 w0_7 w0_8 w1_0 w1_1 w1_2 w1_3 w1_4 w1_5 w1_6
  go_enter Try.func3, Try.ntmps3
  go_upto_region 0 with (fail)
  apply wp_region_seg0 (w := W) (S := [.al 1000, .al 1000, .q []]) (E := [.al ((fun p => .pointer (some ⟨p, 0, none⟩)), _) 1000, .al ((fun p => .pointer (some ⟨p, 0, none⟩)), _) 1000, .q0 _]) rfl (by kernel_rfl) rfl rfl
  intro th hge hne
  refine Seg.step _ rfl ⟨by rfl, fun U hU => ?_⟩ ?_
  · go_simp; exact vp_alloc rfl rfl rfl
  refine Seg.sa ?_
  refine Seg.step _ rfl ⟨by rfl, fun U hU => ?_⟩ ?_
  · go_simp; exact vp_alloc rfl rfl rfl
  refine Seg.sa ?_
  refine Seg.sq ?_
  refine Seg.stop (fun U1 hU hk => ?_)
  have nb0 := hge 0 _ _ rfl
  have rb0 := (hk 0 _ _ rfl trivial).1.2 (by simp)
  have nb1 := hge 1 _ _ rfl
  have rb1 := (hk 1 _ _ rfl trivial).1.2 (by simp)
  have ne0_1 := hne 0 1 _ _ _ _ rfl rfl (by omega)
  clear hk hge hne
  generalize th (0 + 0) = p0_0 at *
  dsimp only at rb0
  generalize th (0 + 1) = p0_1 at *
  dsimp only at rb1
  have r_p0_0 := rb0
  clear rb0
  have n_p0_0 := nb0
  clear nb0
  have d_p0_0_p0_1 := ne0_1
  clear ne0_1
  have r_p0_1 := rb1
  clear rb1
  have n_p0_1 := nb1
  clear nb1
  have sz1 := hU.size
  have hB : Below W.heap.size W U1 := hU
  clear hU
  go_upto_region 1 with (fail)
  apply wp_region_seg0 (w := U1) (S := [.q [], .q [], .q [], .q [], .q [], .q [], .q []]) (E := [.q0 _, .c0 _, .q0 _, .q0 _, .c0 _, .q0 _, .q0 _]) rfl (by kernel_rfl) rfl rfl
  intro th hge hne
  refine Seg.sq ?_ (ht := Or.inl ⟨by rfl, fun U hU => vp_quiet (by (have h0 := held_cell (held_after hU.1 r_p0_0) 0 _ rfl; have h1 := held_cell (held_after hU.1 r_p0_0) 1 _ rfl; have h2 := held_cell (held_after hU.1 r_p0_0) 2 _ rfl; have h3 := held_cell (held_after hU.1 r_p0_0) 3 _ rfl; have h4 := held_cell (held_after hU.1 r_p0_0) 4 _ rfl; have h5 := held_cell (held_after hU.1 r_p0_0) 5 _ rfl; have h6 := held_cell (held_after hU.1 r_p0_0) 6 _ rfl; have h7 := held_cell (held_after hU.1 r_p0_0) 7 _ rfl; have h8 := held_cell (held_after hU.1 r_p0_0) 8 _ rfl; go_simp <;> exact rfl))⟩)
  refine Seg.step _ rfl (Or.inl ⟨by rfl, fun U hU => ?_⟩) ?_
  · go_simp
    refine vp_call (kM.out _)
  refine Seg.sa ?_
  refine Seg.sq ?_
  refine Seg.sq ?_
  refine Seg.step _ rfl (Or.inl ⟨by rfl, fun U hU => ?_⟩) ?_
  · go_simp
    refine vp_call (knows42_any _)
  refine Seg.sa ?_
  refine Seg.sq ?_
  refine Seg.sq ?_
  refine Seg.stop (fun U2 hU hk => ?_)
  clear hk hge hne
  replace r_p0_0 := held_after hU r_p0_0
  replace r_p0_1 := held_after hU r_p0_1
  have sz2 := hU.size
  replace hB := bthen hB hU
  clear hU
  go_upto_region 3 with (fail)
  apply wp_region_seg0 (w := U2) (S := [.q [], .q [], .q [], .q [], .q [], .q [], .q [], .q [], .q [], .q [], .q [], .q [], .q [], .q [], .q [], .q [], .al 17, .st 16 []]) (E := [.q0 _, .q0 _, .q0 _, .q0 _, .q0 _, .q0 _, .q0 _, .q0 _, .q0 _, .q0 _, .q0 _, .q0 _, .q0 _, .q0 _, .q0 _, .c0 _, .al ((fun p => .pointer (some ⟨p, 0, none⟩)), _) 17, .s0 16 (.cells _ _)]) rfl (by kernel_rfl) rfl rfl
  intro th hge hne
  refine Seg.sq ?_
  refine Seg.sq ?_ (ht := Or.inl ⟨by rfl, fun U hU => vp_quiet (by (have h0 := held_cell (held_after hU.1 r_p0_0) 0 _ rfl; have h1 := held_cell (held_after hU.1 r_p0_0) 1 _ rfl; have h2 := held_cell (held_after hU.1 r_p0_0) 2 _ rfl; have h3 := held_cell (held_after hU.1 r_p0_0) 3 _ rfl; go_simp <;> exact rfl))⟩)
  refine Seg.sq ?_
  refine Seg.sq ?_ (ht := Or.inl ⟨by rfl, fun U hU => vp_quiet (by (have h0 := held_cell (held_after hU.1 r_p0_0) 4 _ rfl; have h1 := held_cell (held_after hU.1 r_p0_0) 5 _ rfl; have h2 := held_cell (held_after hU.1 r_p0_0) 6 _ rfl; go_simp <;> exact rfl))⟩)
  refine Seg.sq ?_
  refine Seg.sq ?_ (ht := Or.inl ⟨by rfl, fun U hU => vp_quiet (by (have h0 := held_cell (held_after hU.1 r_p0_0) 7 _ rfl; go_simp <;> exact rfl))⟩)
  refine Seg.sq ?_
  refine Seg.sq ?_ (ht := Or.inl ⟨by rfl, fun U hU => vp_quiet (by (have h0 := held_cell (held_after hU.1 r_p0_0) 8 _ rfl; go_simp <;> exact rfl))⟩)
  refine Seg.sq ?_
  refine Seg.sq ?_
  refine Seg.sq ?_ (ht := Or.inl ⟨by rfl, fun U hU => vp_quiet (by (have h0 := held_cell (held_after hU.1 r_p0_1) 0 _ rfl; have h1 := held_cell (held_after hU.1 r_p0_1) 1 _ rfl; have h2 := held_cell (held_after hU.1 r_p0_1) 2 _ rfl; go_simp <;> exact rfl))⟩)
  refine Seg.sq ?_
  refine Seg.sq ?_ (ht := Or.inl ⟨by rfl, fun U hU => vp_quiet (by (have h0 := held_cell (held_after hU.1 r_p0_1) 3 _ rfl; have h1 := held_cell (held_after hU.1 r_p0_1) 4 _ rfl; have h2 := held_cell (held_after hU.1 r_p0_1) 5 _ rfl; go_simp <;> exact rfl))⟩)
  refine Seg.sq ?_
  refine Seg.sq ?_ (ht := Or.inl ⟨by rfl, fun U hU => vp_quiet (by (have h0 := held_cell (held_after hU.1 r_p0_1) 6 _ rfl; go_simp <;> exact rfl))⟩)
  refine Seg.step _ rfl (Or.inl ⟨by rfl, fun U hU => ?_⟩) ?_
  · go_simp
    refine vp_call (k1.out _)
  refine Seg.sa ?_
  refine Seg.step _ rfl ⟨by rfl, fun U hU => ?_⟩ ?_
  · go_simp; exact vp_alloc rfl rfl rfl
  refine Seg.sa ?_
  refine Seg.step _ rfl ⟨by rfl, fun U z k hz hU hc => ?_⟩ ?_
  · have hz2 := Option.some.inj hz
    cases hz2; clear hz
    exact vp_store_agg _ _ _ rfl hc rfl rfl (by kernel_rfl) rfl (by rfl)
  refine Seg.sa ?_
  refine Seg.stop (fun U3 hU hk => ?_)
  have nb16 := hge 16 _ _ rfl
  have rb16 := (hk 16 _ 17 rfl trivial).1.1 trivial _ (Nat.zero_le _) rfl
  clear hk hge hne
  generalize th (0 + 16) = p3_16 at *
  simp only [Ent.obj] at rb16
  replace r_p0_0 := held_after hU r_p0_0
  replace r_p0_1 := held_after hU r_p0_1
  have r_p3_16 := rb16
  clear rb16
  have n_p3_16 := nb16
  clear nb16
  have sz3 := hU.size
  replace hB := bthen hB hU
  clear hU
  go_upto_region 4 with (fail)
  apply wp_region_seg0 (w := U3) (S := [.q [], .q [], .al 3, .st 2 []]) (E := [.q0 _, .q0 _, .al ((fun p => .pointer (some ⟨p, 0, none⟩)), _) 3, .s0 2 (.cells _ _)]) rfl (by kernel_rfl) rfl rfl
  intro th hge hne
  refine Seg.sq ?_
  refine Seg.sq ?_ (ht := Or.inl ⟨by rfl, fun U hU => vp_quiet (by (have h0 := held_cell (held_after hU.1 r_p3_16) 4 _ rfl; have h1 := held_cell (held_after hU.1 r_p3_16) 5 _ rfl; have h2 := held_cell (held_after hU.1 r_p3_16) 6 _ rfl; go_simp <;> exact rfl))⟩)
  refine Seg.step _ rfl ⟨by rfl, fun U hU => ?_⟩ ?_
  · go_simp; exact vp_alloc rfl rfl rfl
  refine Seg.sa ?_
  refine Seg.step _ rfl ⟨by rfl, fun U z k hz hU hc => ?_⟩ ?_
  · have hz2 := Option.some.inj hz
    cases hz2; clear hz
    exact vp_store_agg _ _ _ rfl hc rfl rfl (by kernel_rfl) rfl (by rfl)
  refine Seg.sa ?_
  refine Seg.stop (fun U4 hU hk => ?_)
  have nb2 := hge 2 _ _ rfl
  have rb2 := (hk 2 _ 3 rfl trivial).1.1 trivial _ (Nat.zero_le _) rfl
  clear hk hge hne
  generalize th (0 + 2) = p4_2 at *
  simp only [Ent.obj] at rb2
  replace r_p0_0 := held_after hU r_p0_0
  replace r_p0_1 := held_after hU r_p0_1
  replace r_p3_16 := held_after hU r_p3_16
  have r_p4_2 := rb2
  clear rb2
  have n_p4_2 := nb2
  clear nb2
  have sz4 := hU.size
  replace hB := bthen hB hU
  clear hU
  go_upto_region 5 with (fail)
  apply wp_region_seg0 (w := U4) (S := [.q [], .q [], .q [], .q [], .q [], .q [], .q [], .q [], .q [], .q [], .q [], .q [], .q [], .q [], .q [], .q [], .q [], .q [], .q [], .q [], .q [], .q [], .q [], .q [], .q [], .q [], .q [], .q [], .q []]) (E := [.q0 _, .q0 _, .q0 _, .q0 _, .q0 _, .q0 _, .q0 _, .q0 _, .q0 _, .q0 _, .q0 _, .q0 _, .q0 _, .q0 _, .q0 _, .q0 _, .q0 _, .q0 _, .q0 _, .q0 _, .q0 _, .q0 _, .q0 _, .q0 _, .q0 _, .q0 _, .q0 _, .q0 _, .q0 _]) rfl (by kernel_rfl) rfl rfl
  intro th hge hne
  refine Seg.sq ?_
  refine Seg.sq ?_ (ht := Or.inl ⟨by rfl, fun U hU => vp_quiet (by (have h0 := held_cell (held_after hU.1 r_p4_2) 0 _ rfl; go_simp <;> exact rfl))⟩)
  iterate 3 refine Seg.sq ?_
  refine Seg.sq ?_ (ht := Or.inl ⟨by rfl, fun U hU => vp_quiet (by (have h0 := held_cell (held_after hU.1 r_p4_2) 0 _ rfl; go_simp <;> exact rfl))⟩)
  iterate 4 refine Seg.sq ?_
  refine Seg.sq ?_ (ht := Or.inl ⟨by rfl, fun U hU => vp_quiet (by (have h0 := held_cell (held_after hU.1 r_p4_2) 1 _ rfl; go_simp <;> exact rfl))⟩)
  iterate 4 refine Seg.sq ?_
  refine Seg.sq ?_ (ht := Or.inl ⟨by rfl, fun U hU => vp_quiet (by (have h0 := held_cell (held_after hU.1 r_p4_2) 1 _ rfl; go_simp <;> exact rfl))⟩)
  iterate 4 refine Seg.sq ?_
  refine Seg.sq ?_ (ht := Or.inl ⟨by rfl, fun U hU => vp_quiet (by (have h0 := held_cell (held_after hU.1 r_p4_2) 2 _ rfl; go_simp <;> exact rfl))⟩)
  iterate 4 refine Seg.sq ?_
  refine Seg.sq ?_ (ht := Or.inl ⟨by rfl, fun U hU => vp_quiet (by (have h0 := held_cell (held_after hU.1 r_p4_2) 2 _ rfl; go_simp <;> exact rfl))⟩)
  iterate 3 refine Seg.sq ?_
  refine Seg.stop (fun U5 hU hk => ?_)
  clear hk hge hne
  replace r_p0_0 := held_after hU r_p0_0
  replace r_p0_1 := held_after hU r_p0_1
  replace r_p3_16 := held_after hU r_p3_16
  replace r_p4_2 := held_after hU r_p4_2
  have sz5 := hU.size
  replace hB := bthen hB hU
  clear hU
  go_upto_region 6 with (fail)
  apply wp_region_seg0 (w := U5) (S := (.q [] :: .q [] :: .q [] :: .q [] :: .q [] :: .q [] :: .q [] :: .q [] :: .q [] :: .q [] :: .q [] :: .q [] :: .q [] :: .q [] :: .q [] :: .q [] :: .q [] :: .q [] :: .q [] :: .q [] :: .q [] :: .q [] :: .q [] :: .q [] :: .q [] :: .q [] :: .q [] :: .q [] :: .q [] :: .q [] :: .q [] :: .q [] :: .q [] :: .q [] :: .q [] :: .q [] :: [])) (E := (.q0 _ :: .q0 _ :: .c0 _ :: .q0 _ :: .q0 _ :: .q0 _ :: .c0 _ :: .q0 _ :: .q0 _ :: .q0 _ :: .q0 _ :: .q0 _ :: .q0 _ :: .q0 _ :: .q0 _ :: .q0 _ :: .q0 _ :: .q0 _ :: .q0 _ :: .q0 _ :: .q0 _ :: .q0 _ :: .q0 _ :: .q0 _ :: .q0 _ :: .q0 _ :: .q0 _ :: .q0 _ :: .q0 _ :: .q0 _ :: .q0 _ :: .q0 _ :: .q0 _ :: .q0 _ :: .q0 _ :: .q0 _ :: [])) rfl (by kernel_rfl) rfl rfl
  intro th hge hne
  refine Seg.sq ?_
  refine Seg.sq ?_ (ht := Or.inl ⟨by rfl, fun U hU => vp_quiet (by (have h0 := held_cell (held_after hU.1 r_p3_16) 0 _ rfl; have h1 := held_cell (held_after hU.1 r_p3_16) 1 _ rfl; have h2 := held_cell (held_after hU.1 r_p3_16) 2 _ rfl; have h3 := held_cell (held_after hU.1 r_p3_16) 3 _ rfl; go_simp <;> exact rfl))⟩)
  refine Seg.step _ rfl (Or.inl ⟨by rfl, fun U hU => ?_⟩) ?_
  · go_simp
    refine vp_call (k2.out _)
  refine Seg.sa ?_
  refine Seg.sq ?_
  refine Seg.sq ?_
  refine Seg.sq ?_ (ht := Or.inl ⟨by rfl, fun U hU => vp_quiet (by (have h0 := held_cell (held_after hU.1 r_p3_16) 0 _ rfl; have h1 := held_cell (held_after hU.1 r_p3_16) 1 _ rfl; have h2 := held_cell (held_after hU.1 r_p3_16) 2 _ rfl; have h3 := held_cell (held_after hU.1 r_p3_16) 3 _ rfl; have h4 := held_cell (held_after hU.1 r_p3_16) 4 _ rfl; have h5 := held_cell (held_after hU.1 r_p3_16) 5 _ rfl; have h6 := held_cell (held_after hU.1 r_p3_16) 6 _ rfl; have h7 := held_cell (held_after hU.1 r_p3_16) 7 _ rfl; have h8 := held_cell (held_after hU.1 r_p3_16) 8 _ rfl; go_simp <;> exact rfl))⟩)
  refine Seg.step _ rfl (Or.inl ⟨by rfl, fun U hU => ?_⟩) ?_
  · go_simp
    refine vp_call (k3.out _)
  refine Seg.sa ?_
  iterate 7 refine Seg.sq ?_
  refine Seg.sq ?_ (ht := Or.inl ⟨by rfl, fun U hU => vp_quiet (by (have h0 := held_cell (held_after hU.1 r_p3_16) 7 _ rfl; go_simp <;> exact rfl))⟩)
  refine Seg.sq ?_
  refine Seg.sq ?_ (ht := Or.inl ⟨by rfl, fun U hU => vp_quiet (by (have h0 := held_cell (held_after hU.1 r_p0_0) 7 _ rfl; go_simp <;> exact rfl))⟩)
  iterate 5 refine Seg.sq ?_
  refine Seg.sq ?_ (ht := Or.inl ⟨by rfl, fun U hU => vp_quiet (by (have h0 := held_cell (held_after hU.1 r_p3_16) 8 _ rfl; go_simp <;> exact rfl))⟩)
  refine Seg.sq ?_
  refine Seg.sq ?_ (ht := Or.inl ⟨by rfl, fun U hU => vp_quiet (by (have h0 := held_cell (held_after hU.1 r_p0_0) 8 _ rfl; go_simp <;> exact rfl))⟩)
  iterate 4 refine Seg.sq ?_
  refine Seg.sq ?_ (ht := Or.inl ⟨by rfl, fun U hU => vp_quiet (by (have h0 := held_cell (held_after hU.1 r_p3_16) 8 _ rfl; go_simp <;> exact rfl))⟩)
  refine Seg.sq ?_
  refine Seg.sq ?_ (ht := Or.inl ⟨by rfl, fun U hU => vp_quiet (by (have h0 := held_cell (held_after hU.1 r_p0_0) 8 _ rfl; go_simp <;> exact rfl))⟩)
  iterate 4 refine Seg.sq ?_
  refine Seg.stop (fun U6 hU hk => ?_)
  clear hk hge hne
  replace r_p0_0 := held_after hU r_p0_0
  replace r_p0_1 := held_after hU r_p0_1
  replace r_p3_16 := held_after hU r_p3_16
  replace r_p4_2 := held_after hU r_p4_2
  have sz6 := hU.size
  replace hB := bthen hB hU
  clear hU
  go_wp2_with fail
  go_ret
  exact ⟨rfl, hB⟩
set_option maxHeartbeats 32000000 in
theorem law_FuseRest (a0_0 : Int) (a0_1 : Int) (a0_2 : Int) (a1 : Int) (a2_0 : Int) (a2_1 : Int) (a2_2 : Int) (a3 : Int) (W : World) (w0_0 : (Lit.int .i32 a0_0).wf = true) (w0_1 : (Lit.int .i32 a0_1).wf = true) (w0_2 : (Lit.int .i32 a0_2).wf = true) (w1 : (Lit.int .i32 a1).wf = true) (w2_0 : (Lit.int .i32 a2_0).wf = true) (w2_1 : (Lit.int .i32 a2_1).wf = true) (w2_2 : (Lit.int .i32 a2_2).wf = true) (w3 : (Lit.int .i32 a3).wf = true) :
    Calls Try.prog 4 #[.agg #[.int .i32 a0_0, .int .i32 a0_1, .int .i32 a0_2], .int .i32 a1, .agg #[.int .i32 a2_0, .int .i32 a2_1, .int .i32 a2_2], .int .i32 a3] W fun e w' => e = .returned (.bool true) ∧ Below W.heap.size W w' := by
  have p0 := b32_42 w0_0
  have s0 := b32_42 w2_0
  have p1 := b32_42 w0_1
  have s1 := b32_42 w2_1
  have p2 := b32_42 w0_2
  have s2 := b32_42 w2_2
  have pu := b32_42 w1
  have pd := b32_42 w3
  clear w0_0 w0_1 w0_2 w1 w2_0 w2_1 w2_2 w3
  by_cases c0 : 16384 < a0_0
  case pos =>
    have d0 : decide (16384 < a0_0) = true := by simpa using c0
    clear c0 p0 p1 p2 s0 s1 s2 pu pd
    go_enter Try.func4, Try.ntmps4
    go_upto_region 0 with (fail)
    apply wp_region_seg0 (w := W) (S := [.al 1000, .al 1000, .q []]) (E := [.al ((fun p => .pointer (some ⟨p, 0, none⟩)), _) 1000, .al ((fun p => .pointer (some ⟨p, 0, none⟩)), _) 1000, .q0 _]) rfl (by kernel_rfl) rfl rfl
    intro th hge hne
    refine Seg.step _ rfl ⟨by rfl, fun U hU => ?_⟩ ?_
    · go_simp; exact vp_alloc rfl rfl rfl
    refine Seg.sa ?_
    refine Seg.step _ rfl ⟨by rfl, fun U hU => ?_⟩ ?_
    · go_simp; exact vp_alloc rfl rfl rfl
    refine Seg.sa ?_
    refine Seg.sq ?_
    refine Seg.stop (fun U1 hU hk => ?_)
    have nb0 := hge 0 _ _ rfl
    have rb0 := (hk 0 _ _ rfl trivial).1.2 (by simp)
    have nb1 := hge 1 _ _ rfl
    have rb1 := (hk 1 _ _ rfl trivial).1.2 (by simp)
    have ne0_1 := hne 0 1 _ _ _ _ rfl rfl (by omega)
    clear hk hge hne
    generalize th (0 + 0) = p0_0 at *
    dsimp only at rb0
    generalize th (0 + 1) = p0_1 at *
    dsimp only at rb1
    have r_p0_0 := rb0
    clear rb0
    have n_p0_0 := nb0
    clear nb0
    have d_p0_0_p0_1 := ne0_1
    clear ne0_1
    have r_p0_1 := rb1
    clear rb1
    have n_p0_1 := nb1
    clear nb1
    have sz1 := hU.size
    have hB : Below W.heap.size W U1 := hU
    clear hU
    have z0 := held_cell r_p0_0 0 _ rfl
    have z1 := held_cell r_p0_0 1 _ rfl
    have z2 := held_cell r_p0_0 2 _ rfl
    go_wp2_with fail
    refine (knows42_any _).mono ?_
    rintro r V ⟨rfl, hA⟩
    replace hB := bthen hB hA
    go_wp2_with fail
    go_ret
    exact ⟨rfl, hB⟩
  have d0 : decide (16384 < a0_0) = false := by simpa using c0
  by_cases c1 : a0_0 < -16384
  case pos =>
    have d1 : decide (a0_0 < -16384) = true := by simpa using c1
    clear c0 c1 p0 p1 p2 s0 s1 s2 pu pd
    go_enter Try.func4, Try.ntmps4
    go_upto_region 0 with (fail)
    apply wp_region_seg0 (w := W) (S := [.al 1000, .al 1000, .q []]) (E := [.al ((fun p => .pointer (some ⟨p, 0, none⟩)), _) 1000, .al ((fun p => .pointer (some ⟨p, 0, none⟩)), _) 1000, .q0 _]) rfl (by kernel_rfl) rfl rfl
    intro th hge hne
    refine Seg.step _ rfl ⟨by rfl, fun U hU => ?_⟩ ?_
    · go_simp; exact vp_alloc rfl rfl rfl
    refine Seg.sa ?_
    refine Seg.step _ rfl ⟨by rfl, fun U hU => ?_⟩ ?_
    · go_simp; exact vp_alloc rfl rfl rfl
    refine Seg.sa ?_
    refine Seg.sq ?_
    refine Seg.stop (fun U1 hU hk => ?_)
    have nb0 := hge 0 _ _ rfl
    have rb0 := (hk 0 _ _ rfl trivial).1.2 (by simp)
    have nb1 := hge 1 _ _ rfl
    have rb1 := (hk 1 _ _ rfl trivial).1.2 (by simp)
    have ne0_1 := hne 0 1 _ _ _ _ rfl rfl (by omega)
    clear hk hge hne
    generalize th (0 + 0) = p0_0 at *
    dsimp only at rb0
    generalize th (0 + 1) = p0_1 at *
    dsimp only at rb1
    have r_p0_0 := rb0
    clear rb0
    have n_p0_0 := nb0
    clear nb0
    have d_p0_0_p0_1 := ne0_1
    clear ne0_1
    have r_p0_1 := rb1
    clear rb1
    have n_p0_1 := nb1
    clear nb1
    have sz1 := hU.size
    have hB : Below W.heap.size W U1 := hU
    clear hU
    have z0 := held_cell r_p0_0 0 _ rfl
    have z1 := held_cell r_p0_0 1 _ rfl
    have z2 := held_cell r_p0_0 2 _ rfl
    go_wp2_with fail
    refine (knows42_any _).mono ?_
    rintro r V ⟨rfl, hA⟩
    replace hB := bthen hB hA
    go_wp2_with fail
    go_ret
    exact ⟨rfl, hB⟩
  have d1 : decide (a0_0 < -16384) = false := by simpa using c1
  by_cases c2 : 16384 < a0_1
  case pos =>
    have d2 : decide (16384 < a0_1) = true := by simpa using c2
    clear c0 c1 c2 p0 p1 p2 s0 s1 s2 pu pd
    go_enter Try.func4, Try.ntmps4
    go_upto_region 0 with (fail)
    apply wp_region_seg0 (w := W) (S := [.al 1000, .al 1000, .q []]) (E := [.al ((fun p => .pointer (some ⟨p, 0, none⟩)), _) 1000, .al ((fun p => .pointer (some ⟨p, 0, none⟩)), _) 1000, .q0 _]) rfl (by kernel_rfl) rfl rfl
    intro th hge hne
    refine Seg.step _ rfl ⟨by rfl, fun U hU => ?_⟩ ?_
    · go_simp; exact vp_alloc rfl rfl rfl
    refine Seg.sa ?_
    refine Seg.step _ rfl ⟨by rfl, fun U hU => ?_⟩ ?_
    · go_simp; exact vp_alloc rfl rfl rfl
    refine Seg.sa ?_
    refine Seg.sq ?_
    refine Seg.stop (fun U1 hU hk => ?_)
    have nb0 := hge 0 _ _ rfl
    have rb0 := (hk 0 _ _ rfl trivial).1.2 (by simp)
    have nb1 := hge 1 _ _ rfl
    have rb1 := (hk 1 _ _ rfl trivial).1.2 (by simp)
    have ne0_1 := hne 0 1 _ _ _ _ rfl rfl (by omega)
    clear hk hge hne
    generalize th (0 + 0) = p0_0 at *
    dsimp only at rb0
    generalize th (0 + 1) = p0_1 at *
    dsimp only at rb1
    have r_p0_0 := rb0
    clear rb0
    have n_p0_0 := nb0
    clear nb0
    have d_p0_0_p0_1 := ne0_1
    clear ne0_1
    have r_p0_1 := rb1
    clear rb1
    have n_p0_1 := nb1
    clear nb1
    have sz1 := hU.size
    have hB : Below W.heap.size W U1 := hU
    clear hU
    have z0 := held_cell r_p0_0 0 _ rfl
    have z1 := held_cell r_p0_0 1 _ rfl
    have z2 := held_cell r_p0_0 2 _ rfl
    go_wp2_with fail
    refine (knows42_any _).mono ?_
    rintro r V ⟨rfl, hA⟩
    replace hB := bthen hB hA
    go_wp2_with fail
    go_ret
    exact ⟨rfl, hB⟩
  have d2 : decide (16384 < a0_1) = false := by simpa using c2
  by_cases c3 : a0_1 < -16384
  case pos =>
    have d3 : decide (a0_1 < -16384) = true := by simpa using c3
    clear c0 c1 c2 c3 p0 p1 p2 s0 s1 s2 pu pd
    go_enter Try.func4, Try.ntmps4
    go_upto_region 0 with (fail)
    apply wp_region_seg0 (w := W) (S := [.al 1000, .al 1000, .q []]) (E := [.al ((fun p => .pointer (some ⟨p, 0, none⟩)), _) 1000, .al ((fun p => .pointer (some ⟨p, 0, none⟩)), _) 1000, .q0 _]) rfl (by kernel_rfl) rfl rfl
    intro th hge hne
    refine Seg.step _ rfl ⟨by rfl, fun U hU => ?_⟩ ?_
    · go_simp; exact vp_alloc rfl rfl rfl
    refine Seg.sa ?_
    refine Seg.step _ rfl ⟨by rfl, fun U hU => ?_⟩ ?_
    · go_simp; exact vp_alloc rfl rfl rfl
    refine Seg.sa ?_
    refine Seg.sq ?_
    refine Seg.stop (fun U1 hU hk => ?_)
    have nb0 := hge 0 _ _ rfl
    have rb0 := (hk 0 _ _ rfl trivial).1.2 (by simp)
    have nb1 := hge 1 _ _ rfl
    have rb1 := (hk 1 _ _ rfl trivial).1.2 (by simp)
    have ne0_1 := hne 0 1 _ _ _ _ rfl rfl (by omega)
    clear hk hge hne
    generalize th (0 + 0) = p0_0 at *
    dsimp only at rb0
    generalize th (0 + 1) = p0_1 at *
    dsimp only at rb1
    have r_p0_0 := rb0
    clear rb0
    have n_p0_0 := nb0
    clear nb0
    have d_p0_0_p0_1 := ne0_1
    clear ne0_1
    have r_p0_1 := rb1
    clear rb1
    have n_p0_1 := nb1
    clear nb1
    have sz1 := hU.size
    have hB : Below W.heap.size W U1 := hU
    clear hU
    have z0 := held_cell r_p0_0 0 _ rfl
    have z1 := held_cell r_p0_0 1 _ rfl
    have z2 := held_cell r_p0_0 2 _ rfl
    go_wp2_with fail
    refine (knows42_any _).mono ?_
    rintro r V ⟨rfl, hA⟩
    replace hB := bthen hB hA
    go_wp2_with fail
    go_ret
    exact ⟨rfl, hB⟩
  have d3 : decide (a0_1 < -16384) = false := by simpa using c3
  by_cases c4 : 16384 < a0_2
  case pos =>
    have d4 : decide (16384 < a0_2) = true := by simpa using c4
    clear c0 c1 c2 c3 c4 p0 p1 p2 s0 s1 s2 pu pd
    go_enter Try.func4, Try.ntmps4
    go_upto_region 0 with (fail)
    apply wp_region_seg0 (w := W) (S := [.al 1000, .al 1000, .q []]) (E := [.al ((fun p => .pointer (some ⟨p, 0, none⟩)), _) 1000, .al ((fun p => .pointer (some ⟨p, 0, none⟩)), _) 1000, .q0 _]) rfl (by kernel_rfl) rfl rfl
    intro th hge hne
    refine Seg.step _ rfl ⟨by rfl, fun U hU => ?_⟩ ?_
    · go_simp; exact vp_alloc rfl rfl rfl
    refine Seg.sa ?_
    refine Seg.step _ rfl ⟨by rfl, fun U hU => ?_⟩ ?_
    · go_simp; exact vp_alloc rfl rfl rfl
    refine Seg.sa ?_
    refine Seg.sq ?_
    refine Seg.stop (fun U1 hU hk => ?_)
    have nb0 := hge 0 _ _ rfl
    have rb0 := (hk 0 _ _ rfl trivial).1.2 (by simp)
    have nb1 := hge 1 _ _ rfl
    have rb1 := (hk 1 _ _ rfl trivial).1.2 (by simp)
    have ne0_1 := hne 0 1 _ _ _ _ rfl rfl (by omega)
    clear hk hge hne
    generalize th (0 + 0) = p0_0 at *
    dsimp only at rb0
    generalize th (0 + 1) = p0_1 at *
    dsimp only at rb1
    have r_p0_0 := rb0
    clear rb0
    have n_p0_0 := nb0
    clear nb0
    have d_p0_0_p0_1 := ne0_1
    clear ne0_1
    have r_p0_1 := rb1
    clear rb1
    have n_p0_1 := nb1
    clear nb1
    have sz1 := hU.size
    have hB : Below W.heap.size W U1 := hU
    clear hU
    have z0 := held_cell r_p0_0 0 _ rfl
    have z1 := held_cell r_p0_0 1 _ rfl
    have z2 := held_cell r_p0_0 2 _ rfl
    go_wp2_with fail
    refine (knows42_any _).mono ?_
    rintro r V ⟨rfl, hA⟩
    replace hB := bthen hB hA
    go_wp2_with fail
    go_ret
    exact ⟨rfl, hB⟩
  have d4 : decide (16384 < a0_2) = false := by simpa using c4
  by_cases c5 : a0_2 < -16384
  case pos =>
    have d5 : decide (a0_2 < -16384) = true := by simpa using c5
    clear c0 c1 c2 c3 c4 c5 p0 p1 p2 s0 s1 s2 pu pd
    go_enter Try.func4, Try.ntmps4
    go_upto_region 0 with (fail)
    apply wp_region_seg0 (w := W) (S := [.al 1000, .al 1000, .q []]) (E := [.al ((fun p => .pointer (some ⟨p, 0, none⟩)), _) 1000, .al ((fun p => .pointer (some ⟨p, 0, none⟩)), _) 1000, .q0 _]) rfl (by kernel_rfl) rfl rfl
    intro th hge hne
    refine Seg.step _ rfl ⟨by rfl, fun U hU => ?_⟩ ?_
    · go_simp; exact vp_alloc rfl rfl rfl
    refine Seg.sa ?_
    refine Seg.step _ rfl ⟨by rfl, fun U hU => ?_⟩ ?_
    · go_simp; exact vp_alloc rfl rfl rfl
    refine Seg.sa ?_
    refine Seg.sq ?_
    refine Seg.stop (fun U1 hU hk => ?_)
    have nb0 := hge 0 _ _ rfl
    have rb0 := (hk 0 _ _ rfl trivial).1.2 (by simp)
    have nb1 := hge 1 _ _ rfl
    have rb1 := (hk 1 _ _ rfl trivial).1.2 (by simp)
    have ne0_1 := hne 0 1 _ _ _ _ rfl rfl (by omega)
    clear hk hge hne
    generalize th (0 + 0) = p0_0 at *
    dsimp only at rb0
    generalize th (0 + 1) = p0_1 at *
    dsimp only at rb1
    have r_p0_0 := rb0
    clear rb0
    have n_p0_0 := nb0
    clear nb0
    have d_p0_0_p0_1 := ne0_1
    clear ne0_1
    have r_p0_1 := rb1
    clear rb1
    have n_p0_1 := nb1
    clear nb1
    have sz1 := hU.size
    have hB : Below W.heap.size W U1 := hU
    clear hU
    have z0 := held_cell r_p0_0 0 _ rfl
    have z1 := held_cell r_p0_0 1 _ rfl
    have z2 := held_cell r_p0_0 2 _ rfl
    go_wp2_with fail
    refine (knows42_any _).mono ?_
    rintro r V ⟨rfl, hA⟩
    replace hB := bthen hB hA
    go_wp2_with fail
    go_ret
    exact ⟨rfl, hB⟩
  have d5 : decide (a0_2 < -16384) = false := by simpa using c5
  have l0 : -16384 ≤ a0_0 ∧ a0_0 ≤ 16384 := by omega
  have l1 : -16384 ≤ a0_1 ∧ a0_1 ≤ 16384 := by omega
  have l2 : -16384 ≤ a0_2 ∧ a0_2 ≤ 16384 := by omega
  have one : B32 1073741824 := by unfold B32; omega
  have kL := hid (fun U => rvlength_any a2_0 a2_1 a2_2 U s0 s1 s2)
  have k2 := hid (fun U => fstep_any 1073741824 0 0 0 a0_0 a0_1 a0_2 a0_0 a0_1 a0_2 0 0 a1 a3 0 0 U one b32_0 b32_0 b32_0 p0 p1 p2 p0 p1 p2 b32_0 b32_0 pu pd (by omega) (by omega) (by omega) (by omega) 1073741824 0 0 0 a0_0 a0_1 a0_2 0 (rest_step a0_0 a0_1 a0_2 0 0 a1 a3 l0 l1 l2 (err_up a1)))
  have eS := fun W => eqS9 1073741824 0 0 0 a0_0 a0_1 a0_2 1 0 W
  have hErr : ¬ errIn a2_0 a2_1 a2_2 → ∃ ok, errS 1073741824 0 0 0 a2_0 a2_1 a2_2 = (0, 0, 0, ok) := fun h => ⟨false, if_neg h⟩
  unfold errIn at hErr
  generalize lengthS [a2_0, a2_1, a2_2] = L at *
  by_cases hu : a1 < 0
  case pos =>
    by_cases hlo : L < 32768
    case pos =>
      have k1 := hid (fun U => fstep_any 1073741824 0 0 0 a0_0 a0_1 a0_2 a0_0 a0_1 a0_2 a2_0 a2_1 a2_2 a3 0 0 U one b32_0 b32_0 b32_0 p0 p1 p2 p0 p1 p2 s0 s1 s2 pd (by omega) (by omega) (by omega) (by omega) 1073741824 0 0 0 a0_0 a0_1 a0_2 0 (rest_step a0_0 a0_1 a0_2 a2_0 a2_1 a2_2 a3 l0 l1 l2 (hErr (by omega))))
      have e1 : decide ((L : Int) < 32768) = true := by simp; omega
      have e3 : decide (a1 < 0) = true := by simpa using hu
      clear c0 c1 c2 c3 c4 c5 p0 p1 p2 s0 s1 s2 pu pd l0 l1 l2 one hErr hlo hu
      go_enter Try.func4, Try.ntmps4
      go_upto_region 0 with (fail)
      apply wp_region_seg0 (w := W) (S := [.al 1000, .al 1000, .q []]) (E := [.al ((fun p => .pointer (some ⟨p, 0, none⟩)), _) 1000, .al ((fun p => .pointer (some ⟨p, 0, none⟩)), _) 1000, .q0 _]) rfl (by kernel_rfl) rfl rfl
      intro th hge hne
      refine Seg.step _ rfl ⟨by rfl, fun U hU => ?_⟩ ?_
      · go_simp; exact vp_alloc rfl rfl rfl
      refine Seg.sa ?_
      refine Seg.step _ rfl ⟨by rfl, fun U hU => ?_⟩ ?_
      · go_simp; exact vp_alloc rfl rfl rfl
      refine Seg.sa ?_
      refine Seg.sq ?_
      refine Seg.stop (fun U1 hU hk => ?_)
      have nb0 := hge 0 _ _ rfl
      have rb0 := (hk 0 _ _ rfl trivial).1.2 (by simp)
      have nb1 := hge 1 _ _ rfl
      have rb1 := (hk 1 _ _ rfl trivial).1.2 (by simp)
      have ne0_1 := hne 0 1 _ _ _ _ rfl rfl (by omega)
      clear hk hge hne
      generalize th (0 + 0) = p0_0 at *
      dsimp only at rb0
      generalize th (0 + 1) = p0_1 at *
      dsimp only at rb1
      have r_p0_0 := rb0
      clear rb0
      have n_p0_0 := nb0
      clear nb0
      have d_p0_0_p0_1 := ne0_1
      clear ne0_1
      have r_p0_1 := rb1
      clear rb1
      have n_p0_1 := nb1
      clear nb1
      have sz1 := hU.size
      have hB : Below W.heap.size W U1 := hU
      clear hU
      go_upto_region 1 with (fail)
      apply wp_region_seg0 (w := U1) (S := (.q [] :: .q [] :: .q [] :: .q [] :: .q [] :: .q [] :: .q [] :: .q [] :: .q [] :: .q [] :: .q [] :: .q [] :: .q [] :: .q [] :: .q [] :: .q [] :: .q [] :: .q [] :: .q [] :: .q [] :: .q [] :: .q [] :: .q [] :: .q [] :: .q [] :: .q [] :: .q [] :: .q [] :: .q [] :: .q [] :: .q [] :: .q [] :: [])) (E := (.q0 _ :: .q0 _ :: .q0 _ :: .q0 _ :: .q0 _ :: .q0 _ :: .q0 _ :: .q0 _ :: .q0 _ :: .q0 _ :: .q0 _ :: .q0 _ :: .q0 _ :: .q0 _ :: .q0 _ :: .q0 _ :: .q0 _ :: .q0 _ :: .q0 _ :: .q0 _ :: .q0 _ :: .q0 _ :: .q0 _ :: .q0 _ :: .q0 _ :: .q0 _ :: .q0 _ :: .q0 _ :: .q0 _ :: .c0 _ :: .q0 _ :: .q0 _ :: [])) rfl (by kernel_rfl) rfl rfl
      intro th hge hne
      refine Seg.sq ?_
      refine Seg.sq ?_ (ht := Or.inl ⟨by rfl, fun U hU => vp_quiet (by (have h0 := held_cell (held_after hU.1 r_p0_0) 0 _ rfl; go_simp <;> exact rfl))⟩)
      iterate 3 refine Seg.sq ?_
      refine Seg.sq ?_ (ht := Or.inl ⟨by rfl, fun U hU => vp_quiet (by (have h0 := held_cell (held_after hU.1 r_p0_0) 0 _ rfl; go_simp <;> exact rfl))⟩)
      iterate 4 refine Seg.sq ?_
      refine Seg.sq ?_ (ht := Or.inl ⟨by rfl, fun U hU => vp_quiet (by (have h0 := held_cell (held_after hU.1 r_p0_0) 1 _ rfl; go_simp <;> exact rfl))⟩)
      iterate 4 refine Seg.sq ?_
      refine Seg.sq ?_ (ht := Or.inl ⟨by rfl, fun U hU => vp_quiet (by (have h0 := held_cell (held_after hU.1 r_p0_0) 1 _ rfl; go_simp <;> exact rfl))⟩)
      iterate 4 refine Seg.sq ?_
      refine Seg.sq ?_ (ht := Or.inl ⟨by rfl, fun U hU => vp_quiet (by (have h0 := held_cell (held_after hU.1 r_p0_0) 2 _ rfl; go_simp <;> exact rfl))⟩)
      iterate 4 refine Seg.sq ?_
      refine Seg.sq ?_ (ht := Or.inl ⟨by rfl, fun U hU => vp_quiet (by (have h0 := held_cell (held_after hU.1 r_p0_0) 2 _ rfl; go_simp <;> exact rfl))⟩)
      iterate 3 refine Seg.sq ?_
      refine Seg.step _ rfl (Or.inl ⟨by rfl, fun U hU => ?_⟩) ?_
      · go_simp
        refine vp_call (knows42_any _)
      refine Seg.sa ?_
      refine Seg.sq ?_
      refine Seg.sq ?_
      refine Seg.stop (fun U2 hU hk => ?_)
      clear hk hge hne
      replace r_p0_0 := held_after hU r_p0_0
      replace r_p0_1 := held_after hU r_p0_1
      have sz2 := hU.size
      replace hB := bthen hB hU
      clear hU
      go_upto_region 3 with (fail)
      apply wp_region_seg (w := U2) (S := [.q [], .q [], .q [], .al 4, .st 3 []]) (E := [.c0 _, .q0 _, .q0 _, .al ((fun p => .pointer (some ⟨p, 0, none⟩)), _) 4, .s0 3 (.cells _ _)]) (by kernel_rfl) rfl (by kernel_rfl) rfl rfl
      intro th hge hne
      refine Seg.step _ rfl (Or.inl ⟨by rfl, fun U hU => ?_⟩) ?_
      · go_simp
        refine vp_call (rqone_any _)
      refine Seg.sa ?_
      refine Seg.sq ?_ (ht := Or.inl ⟨by rfl, fun U hU => vp_quiet (by (have h0 := held_cell (held_after hU.1 r_p0_0) 0 _ rfl; have h1 := held_cell (held_after hU.1 r_p0_0) 1 _ rfl; have h2 := held_cell (held_after hU.1 r_p0_0) 2 _ rfl; go_simp <;> exact rfl))⟩)
      refine Seg.sq ?_
      refine Seg.step _ rfl ⟨by rfl, fun U hU => ?_⟩ ?_
      · go_simp; exact vp_alloc rfl rfl rfl
      refine Seg.sa ?_
      refine Seg.step _ rfl ⟨by rfl, fun U z k hz hU hc => ?_⟩ ?_
      · have hz2 := Option.some.inj hz
        cases hz2; clear hz
        exact vp_store_agg _ _ _ rfl hc rfl rfl (by kernel_rfl) rfl (by rfl)
      refine Seg.sa ?_
      refine Seg.stop (fun U3 hU hk => ?_)
      have nb3 := hge 3 _ _ rfl
      have rb3 := (hk 3 _ 4 rfl trivial).1.1 trivial _ (Nat.zero_le _) rfl
      clear hk hge hne
      generalize th (0 + 3) = p3_3 at *
      simp only [Ent.obj] at rb3
      replace r_p0_0 := held_after hU r_p0_0
      replace r_p0_1 := held_after hU r_p0_1
      have r_p3_3 := rb3
      clear rb3
      have n_p3_3 := nb3
      clear nb3
      have sz3 := hU.size
      replace hB := bthen hB hU
      clear hU
      go_upto_region 4 with (fail)
      apply wp_region_seg0 (w := U3) (S := [.q [], .q [], .q [], .q [], .al 5, .st 4 []]) (E := [.q0 _, .q0 _, .q0 _, .q0 _, .al ((fun p => .pointer (some ⟨p, 0, none⟩)), _) 5, .s0 4 (.cells _ _)]) rfl (by kernel_rfl) rfl rfl
      intro th hge hne
      refine Seg.sq ?_
      refine Seg.sq ?_ (ht := Or.inl ⟨by rfl, fun U hU => vp_quiet (by (have h0 := held_cell (held_after hU.1 r_p3_3) 0 _ rfl; have h1 := held_cell (held_after hU.1 r_p3_3) 1 _ rfl; have h2 := held_cell (held_after hU.1 r_p3_3) 2 _ rfl; have h3 := held_cell (held_after hU.1 r_p3_3) 3 _ rfl; go_simp <;> exact rfl))⟩)
      refine Seg.sq ?_ (ht := Or.inl ⟨by rfl, fun U hU => vp_quiet (by (have h0 := held_cell (held_after hU.1 r_p0_0) 0 _ rfl; have h1 := held_cell (held_after hU.1 r_p0_0) 1 _ rfl; have h2 := held_cell (held_after hU.1 r_p0_0) 2 _ rfl; go_simp <;> exact rfl))⟩)
      refine Seg.sq ?_
      refine Seg.step _ rfl ⟨by rfl, fun U hU => ?_⟩ ?_
      · go_simp; exact vp_alloc rfl rfl rfl
      refine Seg.sa ?_
      refine Seg.step _ rfl ⟨by rfl, fun U z k hz hU hc => ?_⟩ ?_
      · have hz2 := Option.some.inj hz
        cases hz2; clear hz
        exact vp_store_agg _ _ _ rfl hc rfl rfl (by kernel_rfl) rfl (by rfl)
      refine Seg.sa ?_
      refine Seg.stop (fun U4 hU hk => ?_)
      have nb4 := hge 4 _ _ rfl
      have rb4 := (hk 4 _ 5 rfl trivial).1.1 trivial _ (Nat.zero_le _) rfl
      clear hk hge hne
      generalize th (0 + 4) = p4_4 at *
      simp only [Ent.obj] at rb4
      replace r_p0_0 := held_after hU r_p0_0
      replace r_p0_1 := held_after hU r_p0_1
      replace r_p3_3 := held_after hU r_p3_3
      have r_p4_4 := rb4
      clear rb4
      have n_p4_4 := nb4
      clear nb4
      have sz4 := hU.size
      replace hB := bthen hB hU
      clear hU
      go_upto_region 5 with (fail)
      apply wp_region_seg0 (w := U4) (S := [.q [], .q [], .q []]) (E := [.q0 _, .c0 _, .q0 _]) rfl (by kernel_rfl) rfl rfl
      intro th hge hne
      refine Seg.sq ?_ (ht := Or.inl ⟨by rfl, fun U hU => vp_quiet (by (have h0 := held_cell (held_after hU.1 r_p0_1) 0 _ rfl; have h1 := held_cell (held_after hU.1 r_p0_1) 1 _ rfl; have h2 := held_cell (held_after hU.1 r_p0_1) 2 _ rfl; go_simp <;> exact rfl))⟩)
      refine Seg.step _ rfl (Or.inl ⟨by rfl, fun U hU => ?_⟩) ?_
      · go_simp
        refine vp_call (kL.out _)
      refine Seg.sa ?_
      refine Seg.sq ?_
      refine Seg.stop (fun U5 hU hk => ?_)
      clear hk hge hne
      replace r_p0_0 := held_after hU r_p0_0
      replace r_p0_1 := held_after hU r_p0_1
      replace r_p3_3 := held_after hU r_p3_3
      replace r_p4_4 := held_after hU r_p4_4
      have sz5 := hU.size
      replace hB := bthen hB hU
      clear hU
      go_upto_region 6 with (fail)
      apply wp_region_seg (w := U5) (S := [.q [], .q [], .q [], .q [], .q [], .q [], .q [], .q [], .q [], .q [], .q [], .q [], .q [], .q [], .q []]) (E := [.q0 _, .q0 _, .q0 _, .q0 _, .q0 _, .q0 _, .q0 _, .q0 _, .q0 _, .q0 _, .q0 _, .c0 _, .q0 _, .q0 _, .q0 _]) (by kernel_rfl) rfl (by kernel_rfl) rfl rfl
      intro th hge hne
      iterate 3 refine Seg.sq ?_
      refine Seg.sq ?_ (ht := Or.inr ⟨by rfl, rfl⟩)
      refine Seg.sq ?_ (ht := Or.inr ⟨by rfl, rfl⟩)
      refine Seg.sq ?_
      refine Seg.sq ?_
      refine Seg.sq ?_ (ht := Or.inl ⟨by rfl, fun U hU => vp_quiet (by (have h0 := held_cell (held_after hU.1 r_p3_3) 0 _ rfl; have h1 := held_cell (held_after hU.1 r_p3_3) 1 _ rfl; have h2 := held_cell (held_after hU.1 r_p3_3) 2 _ rfl; have h3 := held_cell (held_after hU.1 r_p3_3) 3 _ rfl; have h4 := held_cell (held_after hU.1 r_p3_3) 4 _ rfl; have h5 := held_cell (held_after hU.1 r_p3_3) 5 _ rfl; have h6 := held_cell (held_after hU.1 r_p3_3) 6 _ rfl; have h7 := held_cell (held_after hU.1 r_p3_3) 7 _ rfl; have h8 := held_cell (held_after hU.1 r_p3_3) 8 _ rfl; go_simp <;> exact rfl))⟩)
      refine Seg.sq ?_ (ht := Or.inl ⟨by rfl, fun U hU => vp_quiet (by (have h0 := held_cell (held_after hU.1 r_p0_0) 0 _ rfl; have h1 := held_cell (held_after hU.1 r_p0_0) 1 _ rfl; have h2 := held_cell (held_after hU.1 r_p0_0) 2 _ rfl; go_simp <;> exact rfl))⟩)
      refine Seg.sq ?_ (ht := Or.inl ⟨by rfl, fun U hU => vp_quiet (by (have h0 := held_cell (held_after hU.1 r_p0_1) 0 _ rfl; have h1 := held_cell (held_after hU.1 r_p0_1) 1 _ rfl; have h2 := held_cell (held_after hU.1 r_p0_1) 2 _ rfl; go_simp <;> exact rfl))⟩)
      refine Seg.sq ?_
      refine Seg.step _ rfl (Or.inl ⟨by rfl, fun U hU => ?_⟩) ?_
      · go_simp
        refine vp_call (k1.out _)
      refine Seg.sa ?_
      refine Seg.sq ?_ (ht := Or.inl ⟨by rfl, fun U hU => vp_quiet (by (have h0 := held_cell (held_after hU.1 r_p4_4) 0 _ rfl; have h1 := held_cell (held_after hU.1 r_p4_4) 1 _ rfl; have h2 := held_cell (held_after hU.1 r_p4_4) 2 _ rfl; have h3 := held_cell (held_after hU.1 r_p4_4) 3 _ rfl; have h4 := held_cell (held_after hU.1 r_p4_4) 4 _ rfl; have h5 := held_cell (held_after hU.1 r_p4_4) 5 _ rfl; have h6 := held_cell (held_after hU.1 r_p4_4) 6 _ rfl; have h7 := held_cell (held_after hU.1 r_p4_4) 7 _ rfl; have h8 := held_cell (held_after hU.1 r_p4_4) 8 _ rfl; go_simp <;> exact rfl))⟩)
      refine Seg.sq ?_
      refine Seg.sq ?_
      refine Seg.stop (fun U6 hU hk => ?_)
      clear hk hge hne
      replace r_p0_0 := held_after hU r_p0_0
      replace r_p0_1 := held_after hU r_p0_1
      replace r_p3_3 := held_after hU r_p3_3
      replace r_p4_4 := held_after hU r_p4_4
      have sz6 := hU.size
      replace hB := bthen hB hU
      clear hU
      go_upto_region 8 with (fail)
      apply wp_region_seg (w := U6) (S := [.q [], .q [], .q [], .q [], .q [], .q [], .q [], .q [], .q [], .q [], .q [], .q [], .q []]) (E := [.q0 _, .q0 _, .q0 _, .q0 _, .q0 _, .q0 _, .q0 _, .q0 _, .c0 _, .q0 _, .q0 _, .q0 _, .q0 _]) (by kernel_rfl) rfl (by kernel_rfl) rfl rfl
      intro th hge hne
      iterate 3 refine Seg.sq ?_
      refine Seg.sq ?_ (ht := Or.inr ⟨by rfl, rfl⟩)
      refine Seg.sq ?_ (ht := Or.inr ⟨by rfl, rfl⟩)
      refine Seg.sq ?_ (ht := Or.inr ⟨by rfl, rfl⟩)
      refine Seg.sq ?_ (ht := Or.inr ⟨by rfl, rfl⟩)
      refine Seg.sq ?_ (ht := Or.inr ⟨by rfl, rfl⟩)
      refine Seg.sq ?_ (ht := Or.inr ⟨by rfl, rfl⟩)
      refine Seg.sq ?_ (ht := Or.inr ⟨by rfl, rfl⟩)
      refine Seg.sq ?_ (ht := Or.inr ⟨by rfl, rfl⟩)
      refine Seg.sq ?_
      refine Seg.sq ?_
      refine Seg.stop (fun U7 hU hk => ?_)
      clear hk hge hne
      replace r_p0_0 := held_after hU r_p0_0
      replace r_p0_1 := held_after hU r_p0_1
      replace r_p3_3 := held_after hU r_p3_3
      replace r_p4_4 := held_after hU r_p4_4
      have sz7 := hU.size
      replace hB := bthen hB hU
      clear hU
      go_wp2_with fail
      go_ret
      exact ⟨rfl, hB⟩
    by_cases hhi : 98304 < L
    case pos =>
      have k1 := hid (fun U => fstep_any 1073741824 0 0 0 a0_0 a0_1 a0_2 a0_0 a0_1 a0_2 a2_0 a2_1 a2_2 a3 0 0 U one b32_0 b32_0 b32_0 p0 p1 p2 p0 p1 p2 s0 s1 s2 pd (by omega) (by omega) (by omega) (by omega) 1073741824 0 0 0 a0_0 a0_1 a0_2 0 (rest_step a0_0 a0_1 a0_2 a2_0 a2_1 a2_2 a3 l0 l1 l2 (hErr (by omega))))
      have e1 : decide ((L : Int) < 32768) = false := by simp; omega
      have e2 : decide ((98304 : Int) < (L : Int)) = true := by simp; omega
      have e3 : decide (a1 < 0) = true := by simpa using hu
      clear c0 c1 c2 c3 c4 c5 p0 p1 p2 s0 s1 s2 pu pd l0 l1 l2 one hErr hlo hu hhi
      go_enter Try.func4, Try.ntmps4
      go_upto_region 0 with (fail)
      apply wp_region_seg0 (w := W) (S := [.al 1000, .al 1000, .q []]) (E := [.al ((fun p => .pointer (some ⟨p, 0, none⟩)), _) 1000, .al ((fun p => .pointer (some ⟨p, 0, none⟩)), _) 1000, .q0 _]) rfl (by kernel_rfl) rfl rfl
      intro th hge hne
      refine Seg.step _ rfl ⟨by rfl, fun U hU => ?_⟩ ?_
      · go_simp; exact vp_alloc rfl rfl rfl
      refine Seg.sa ?_
      refine Seg.step _ rfl ⟨by rfl, fun U hU => ?_⟩ ?_
      · go_simp; exact vp_alloc rfl rfl rfl
      refine Seg.sa ?_
      refine Seg.sq ?_
      refine Seg.stop (fun U1 hU hk => ?_)
      have nb0 := hge 0 _ _ rfl
      have rb0 := (hk 0 _ _ rfl trivial).1.2 (by simp)
      have nb1 := hge 1 _ _ rfl
      have rb1 := (hk 1 _ _ rfl trivial).1.2 (by simp)
      have ne0_1 := hne 0 1 _ _ _ _ rfl rfl (by omega)
      clear hk hge hne
      generalize th (0 + 0) = p0_0 at *
      dsimp only at rb0
      generalize th (0 + 1) = p0_1 at *
      dsimp only at rb1
      have r_p0_0 := rb0
      clear rb0
      have n_p0_0 := nb0
      clear nb0
      have d_p0_0_p0_1 := ne0_1
      clear ne0_1
      have r_p0_1 := rb1
      clear rb1
      have n_p0_1 := nb1
      clear nb1
      have sz1 := hU.size
      have hB : Below W.heap.size W U1 := hU
      clear hU
      go_upto_region 1 with (fail)
      apply wp_region_seg0 (w := U1) (S := (.q [] :: .q [] :: .q [] :: .q [] :: .q [] :: .q [] :: .q [] :: .q [] :: .q [] :: .q [] :: .q [] :: .q [] :: .q [] :: .q [] :: .q [] :: .q [] :: .q [] :: .q [] :: .q [] :: .q [] :: .q [] :: .q [] :: .q [] :: .q [] :: .q [] :: .q [] :: .q [] :: .q [] :: .q [] :: .q [] :: .q [] :: .q [] :: [])) (E := (.q0 _ :: .q0 _ :: .q0 _ :: .q0 _ :: .q0 _ :: .q0 _ :: .q0 _ :: .q0 _ :: .q0 _ :: .q0 _ :: .q0 _ :: .q0 _ :: .q0 _ :: .q0 _ :: .q0 _ :: .q0 _ :: .q0 _ :: .q0 _ :: .q0 _ :: .q0 _ :: .q0 _ :: .q0 _ :: .q0 _ :: .q0 _ :: .q0 _ :: .q0 _ :: .q0 _ :: .q0 _ :: .q0 _ :: .c0 _ :: .q0 _ :: .q0 _ :: [])) rfl (by kernel_rfl) rfl rfl
      intro th hge hne
      refine Seg.sq ?_
      refine Seg.sq ?_ (ht := Or.inl ⟨by rfl, fun U hU => vp_quiet (by (have h0 := held_cell (held_after hU.1 r_p0_0) 0 _ rfl; go_simp <;> exact rfl))⟩)
      iterate 3 refine Seg.sq ?_
      refine Seg.sq ?_ (ht := Or.inl ⟨by rfl, fun U hU => vp_quiet (by (have h0 := held_cell (held_after hU.1 r_p0_0) 0 _ rfl; go_simp <;> exact rfl))⟩)
      iterate 4 refine Seg.sq ?_
      refine Seg.sq ?_ (ht := Or.inl ⟨by rfl, fun U hU => vp_quiet (by (have h0 := held_cell (held_after hU.1 r_p0_0) 1 _ rfl; go_simp <;> exact rfl))⟩)
      iterate 4 refine Seg.sq ?_
      refine Seg.sq ?_ (ht := Or.inl ⟨by rfl, fun U hU => vp_quiet (by (have h0 := held_cell (held_after hU.1 r_p0_0) 1 _ rfl; go_simp <;> exact rfl))⟩)
      iterate 4 refine Seg.sq ?_
      refine Seg.sq ?_ (ht := Or.inl ⟨by rfl, fun U hU => vp_quiet (by (have h0 := held_cell (held_after hU.1 r_p0_0) 2 _ rfl; go_simp <;> exact rfl))⟩)
      iterate 4 refine Seg.sq ?_
      refine Seg.sq ?_ (ht := Or.inl ⟨by rfl, fun U hU => vp_quiet (by (have h0 := held_cell (held_after hU.1 r_p0_0) 2 _ rfl; go_simp <;> exact rfl))⟩)
      iterate 3 refine Seg.sq ?_
      refine Seg.step _ rfl (Or.inl ⟨by rfl, fun U hU => ?_⟩) ?_
      · go_simp
        refine vp_call (knows42_any _)
      refine Seg.sa ?_
      refine Seg.sq ?_
      refine Seg.sq ?_
      refine Seg.stop (fun U2 hU hk => ?_)
      clear hk hge hne
      replace r_p0_0 := held_after hU r_p0_0
      replace r_p0_1 := held_after hU r_p0_1
      have sz2 := hU.size
      replace hB := bthen hB hU
      clear hU
      go_upto_region 3 with (fail)
      apply wp_region_seg (w := U2) (S := [.q [], .q [], .q [], .al 4, .st 3 []]) (E := [.c0 _, .q0 _, .q0 _, .al ((fun p => .pointer (some ⟨p, 0, none⟩)), _) 4, .s0 3 (.cells _ _)]) (by kernel_rfl) rfl (by kernel_rfl) rfl rfl
      intro th hge hne
      refine Seg.step _ rfl (Or.inl ⟨by rfl, fun U hU => ?_⟩) ?_
      · go_simp
        refine vp_call (rqone_any _)
      refine Seg.sa ?_
      refine Seg.sq ?_ (ht := Or.inl ⟨by rfl, fun U hU => vp_quiet (by (have h0 := held_cell (held_after hU.1 r_p0_0) 0 _ rfl; have h1 := held_cell (held_after hU.1 r_p0_0) 1 _ rfl; have h2 := held_cell (held_after hU.1 r_p0_0) 2 _ rfl; go_simp <;> exact rfl))⟩)
      refine Seg.sq ?_
      refine Seg.step _ rfl ⟨by rfl, fun U hU => ?_⟩ ?_
      · go_simp; exact vp_alloc rfl rfl rfl
      refine Seg.sa ?_
      refine Seg.step _ rfl ⟨by rfl, fun U z k hz hU hc => ?_⟩ ?_
      · have hz2 := Option.some.inj hz
        cases hz2; clear hz
        exact vp_store_agg _ _ _ rfl hc rfl rfl (by kernel_rfl) rfl (by rfl)
      refine Seg.sa ?_
      refine Seg.stop (fun U3 hU hk => ?_)
      have nb3 := hge 3 _ _ rfl
      have rb3 := (hk 3 _ 4 rfl trivial).1.1 trivial _ (Nat.zero_le _) rfl
      clear hk hge hne
      generalize th (0 + 3) = p3_3 at *
      simp only [Ent.obj] at rb3
      replace r_p0_0 := held_after hU r_p0_0
      replace r_p0_1 := held_after hU r_p0_1
      have r_p3_3 := rb3
      clear rb3
      have n_p3_3 := nb3
      clear nb3
      have sz3 := hU.size
      replace hB := bthen hB hU
      clear hU
      go_upto_region 4 with (fail)
      apply wp_region_seg0 (w := U3) (S := [.q [], .q [], .q [], .q [], .al 5, .st 4 []]) (E := [.q0 _, .q0 _, .q0 _, .q0 _, .al ((fun p => .pointer (some ⟨p, 0, none⟩)), _) 5, .s0 4 (.cells _ _)]) rfl (by kernel_rfl) rfl rfl
      intro th hge hne
      refine Seg.sq ?_
      refine Seg.sq ?_ (ht := Or.inl ⟨by rfl, fun U hU => vp_quiet (by (have h0 := held_cell (held_after hU.1 r_p3_3) 0 _ rfl; have h1 := held_cell (held_after hU.1 r_p3_3) 1 _ rfl; have h2 := held_cell (held_after hU.1 r_p3_3) 2 _ rfl; have h3 := held_cell (held_after hU.1 r_p3_3) 3 _ rfl; go_simp <;> exact rfl))⟩)
      refine Seg.sq ?_ (ht := Or.inl ⟨by rfl, fun U hU => vp_quiet (by (have h0 := held_cell (held_after hU.1 r_p0_0) 0 _ rfl; have h1 := held_cell (held_after hU.1 r_p0_0) 1 _ rfl; have h2 := held_cell (held_after hU.1 r_p0_0) 2 _ rfl; go_simp <;> exact rfl))⟩)
      refine Seg.sq ?_
      refine Seg.step _ rfl ⟨by rfl, fun U hU => ?_⟩ ?_
      · go_simp; exact vp_alloc rfl rfl rfl
      refine Seg.sa ?_
      refine Seg.step _ rfl ⟨by rfl, fun U z k hz hU hc => ?_⟩ ?_
      · have hz2 := Option.some.inj hz
        cases hz2; clear hz
        exact vp_store_agg _ _ _ rfl hc rfl rfl (by kernel_rfl) rfl (by rfl)
      refine Seg.sa ?_
      refine Seg.stop (fun U4 hU hk => ?_)
      have nb4 := hge 4 _ _ rfl
      have rb4 := (hk 4 _ 5 rfl trivial).1.1 trivial _ (Nat.zero_le _) rfl
      clear hk hge hne
      generalize th (0 + 4) = p4_4 at *
      simp only [Ent.obj] at rb4
      replace r_p0_0 := held_after hU r_p0_0
      replace r_p0_1 := held_after hU r_p0_1
      replace r_p3_3 := held_after hU r_p3_3
      have r_p4_4 := rb4
      clear rb4
      have n_p4_4 := nb4
      clear nb4
      have sz4 := hU.size
      replace hB := bthen hB hU
      clear hU
      go_upto_region 5 with (fail)
      apply wp_region_seg0 (w := U4) (S := [.q [], .q [], .q []]) (E := [.q0 _, .c0 _, .q0 _]) rfl (by kernel_rfl) rfl rfl
      intro th hge hne
      refine Seg.sq ?_ (ht := Or.inl ⟨by rfl, fun U hU => vp_quiet (by (have h0 := held_cell (held_after hU.1 r_p0_1) 0 _ rfl; have h1 := held_cell (held_after hU.1 r_p0_1) 1 _ rfl; have h2 := held_cell (held_after hU.1 r_p0_1) 2 _ rfl; go_simp <;> exact rfl))⟩)
      refine Seg.step _ rfl (Or.inl ⟨by rfl, fun U hU => ?_⟩) ?_
      · go_simp
        refine vp_call (kL.out _)
      refine Seg.sa ?_
      refine Seg.sq ?_
      refine Seg.stop (fun U5 hU hk => ?_)
      clear hk hge hne
      replace r_p0_0 := held_after hU r_p0_0
      replace r_p0_1 := held_after hU r_p0_1
      replace r_p3_3 := held_after hU r_p3_3
      replace r_p4_4 := held_after hU r_p4_4
      have sz5 := hU.size
      replace hB := bthen hB hU
      clear hU
      go_upto_region 6 with (fail)
      apply wp_region_seg (w := U5) (S := [.q [], .q [], .q [], .q [], .q [], .q [], .q [], .q [], .q [], .q [], .q [], .q [], .q [], .q [], .q []]) (E := [.q0 _, .q0 _, .q0 _, .q0 _, .q0 _, .q0 _, .q0 _, .q0 _, .q0 _, .q0 _, .q0 _, .c0 _, .q0 _, .q0 _, .q0 _]) (by kernel_rfl) rfl (by kernel_rfl) rfl rfl
      intro th hge hne
      iterate 7 refine Seg.sq ?_
      refine Seg.sq ?_ (ht := Or.inl ⟨by rfl, fun U hU => vp_quiet (by (have h0 := held_cell (held_after hU.1 r_p3_3) 0 _ rfl; have h1 := held_cell (held_after hU.1 r_p3_3) 1 _ rfl; have h2 := held_cell (held_after hU.1 r_p3_3) 2 _ rfl; have h3 := held_cell (held_after hU.1 r_p3_3) 3 _ rfl; have h4 := held_cell (held_after hU.1 r_p3_3) 4 _ rfl; have h5 := held_cell (held_after hU.1 r_p3_3) 5 _ rfl; have h6 := held_cell (held_after hU.1 r_p3_3) 6 _ rfl; have h7 := held_cell (held_after hU.1 r_p3_3) 7 _ rfl; have h8 := held_cell (held_after hU.1 r_p3_3) 8 _ rfl; go_simp <;> exact rfl))⟩)
      refine Seg.sq ?_ (ht := Or.inl ⟨by rfl, fun U hU => vp_quiet (by (have h0 := held_cell (held_after hU.1 r_p0_0) 0 _ rfl; have h1 := held_cell (held_after hU.1 r_p0_0) 1 _ rfl; have h2 := held_cell (held_after hU.1 r_p0_0) 2 _ rfl; go_simp <;> exact rfl))⟩)
      refine Seg.sq ?_ (ht := Or.inl ⟨by rfl, fun U hU => vp_quiet (by (have h0 := held_cell (held_after hU.1 r_p0_1) 0 _ rfl; have h1 := held_cell (held_after hU.1 r_p0_1) 1 _ rfl; have h2 := held_cell (held_after hU.1 r_p0_1) 2 _ rfl; go_simp <;> exact rfl))⟩)
      refine Seg.sq ?_
      refine Seg.step _ rfl (Or.inl ⟨by rfl, fun U hU => ?_⟩) ?_
      · go_simp
        refine vp_call (k1.out _)
      refine Seg.sa ?_
      refine Seg.sq ?_ (ht := Or.inl ⟨by rfl, fun U hU => vp_quiet (by (have h0 := held_cell (held_after hU.1 r_p4_4) 0 _ rfl; have h1 := held_cell (held_after hU.1 r_p4_4) 1 _ rfl; have h2 := held_cell (held_after hU.1 r_p4_4) 2 _ rfl; have h3 := held_cell (held_after hU.1 r_p4_4) 3 _ rfl; have h4 := held_cell (held_after hU.1 r_p4_4) 4 _ rfl; have h5 := held_cell (held_after hU.1 r_p4_4) 5 _ rfl; have h6 := held_cell (held_after hU.1 r_p4_4) 6 _ rfl; have h7 := held_cell (held_after hU.1 r_p4_4) 7 _ rfl; have h8 := held_cell (held_after hU.1 r_p4_4) 8 _ rfl; go_simp <;> exact rfl))⟩)
      refine Seg.sq ?_
      refine Seg.sq ?_
      refine Seg.stop (fun U6 hU hk => ?_)
      clear hk hge hne
      replace r_p0_0 := held_after hU r_p0_0
      replace r_p0_1 := held_after hU r_p0_1
      replace r_p3_3 := held_after hU r_p3_3
      replace r_p4_4 := held_after hU r_p4_4
      have sz6 := hU.size
      replace hB := bthen hB hU
      clear hU
      go_upto_region 8 with (fail)
      apply wp_region_seg (w := U6) (S := [.q [], .q [], .q [], .q [], .q [], .q [], .q [], .q [], .q [], .q [], .q [], .q [], .q []]) (E := [.q0 _, .q0 _, .q0 _, .q0 _, .q0 _, .q0 _, .q0 _, .q0 _, .c0 _, .q0 _, .q0 _, .q0 _, .q0 _]) (by kernel_rfl) rfl (by kernel_rfl) rfl rfl
      intro th hge hne
      iterate 3 refine Seg.sq ?_
      refine Seg.sq ?_ (ht := Or.inr ⟨by rfl, rfl⟩)
      refine Seg.sq ?_ (ht := Or.inr ⟨by rfl, rfl⟩)
      refine Seg.sq ?_ (ht := Or.inr ⟨by rfl, rfl⟩)
      refine Seg.sq ?_ (ht := Or.inr ⟨by rfl, rfl⟩)
      refine Seg.sq ?_ (ht := Or.inr ⟨by rfl, rfl⟩)
      refine Seg.sq ?_ (ht := Or.inr ⟨by rfl, rfl⟩)
      refine Seg.sq ?_ (ht := Or.inr ⟨by rfl, rfl⟩)
      refine Seg.sq ?_ (ht := Or.inr ⟨by rfl, rfl⟩)
      refine Seg.sq ?_
      refine Seg.sq ?_
      refine Seg.stop (fun U7 hU hk => ?_)
      clear hk hge hne
      replace r_p0_0 := held_after hU r_p0_0
      replace r_p0_1 := held_after hU r_p0_1
      replace r_p3_3 := held_after hU r_p3_3
      replace r_p4_4 := held_after hU r_p4_4
      have sz7 := hU.size
      replace hB := bthen hB hU
      clear hU
      go_wp2_with fail
      go_ret
      exact ⟨rfl, hB⟩
    have e1 : decide ((L : Int) < 32768) = false := by simp; omega
    have e2 : decide ((98304 : Int) < (L : Int)) = false := by simp; omega
    have e3 : decide (a1 < 0) = true := by simpa using hu
    clear c0 c1 c2 c3 c4 c5 p0 p1 p2 s0 s1 s2 pu pd l0 l1 l2 one hErr hlo hu hhi
    go_enter Try.func4, Try.ntmps4
    go_upto_region 0 with (fail)
    apply wp_region_seg0 (w := W) (S := [.al 1000, .al 1000, .q []]) (E := [.al ((fun p => .pointer (some ⟨p, 0, none⟩)), _) 1000, .al ((fun p => .pointer (some ⟨p, 0, none⟩)), _) 1000, .q0 _]) rfl (by kernel_rfl) rfl rfl
    intro th hge hne
    refine Seg.step _ rfl ⟨by rfl, fun U hU => ?_⟩ ?_
    · go_simp; exact vp_alloc rfl rfl rfl
    refine Seg.sa ?_
    refine Seg.step _ rfl ⟨by rfl, fun U hU => ?_⟩ ?_
    · go_simp; exact vp_alloc rfl rfl rfl
    refine Seg.sa ?_
    refine Seg.sq ?_
    refine Seg.stop (fun U1 hU hk => ?_)
    have nb0 := hge 0 _ _ rfl
    have rb0 := (hk 0 _ _ rfl trivial).1.2 (by simp)
    have nb1 := hge 1 _ _ rfl
    have rb1 := (hk 1 _ _ rfl trivial).1.2 (by simp)
    have ne0_1 := hne 0 1 _ _ _ _ rfl rfl (by omega)
    clear hk hge hne
    generalize th (0 + 0) = p0_0 at *
    dsimp only at rb0
    generalize th (0 + 1) = p0_1 at *
    dsimp only at rb1
    have r_p0_0 := rb0
    clear rb0
    have n_p0_0 := nb0
    clear nb0
    have d_p0_0_p0_1 := ne0_1
    clear ne0_1
    have r_p0_1 := rb1
    clear rb1
    have n_p0_1 := nb1
    clear nb1
    have sz1 := hU.size
    have hB : Below W.heap.size W U1 := hU
    clear hU
    go_upto_region 1 with (fail)
    apply wp_region_seg0 (w := U1) (S := (.q [] :: .q [] :: .q [] :: .q [] :: .q [] :: .q [] :: .q [] :: .q [] :: .q [] :: .q [] :: .q [] :: .q [] :: .q [] :: .q [] :: .q [] :: .q [] :: .q [] :: .q [] :: .q [] :: .q [] :: .q [] :: .q [] :: .q [] :: .q [] :: .q [] :: .q [] :: .q [] :: .q [] :: .q [] :: .q [] :: .q [] :: .q [] :: [])) (E := (.q0 _ :: .q0 _ :: .q0 _ :: .q0 _ :: .q0 _ :: .q0 _ :: .q0 _ :: .q0 _ :: .q0 _ :: .q0 _ :: .q0 _ :: .q0 _ :: .q0 _ :: .q0 _ :: .q0 _ :: .q0 _ :: .q0 _ :: .q0 _ :: .q0 _ :: .q0 _ :: .q0 _ :: .q0 _ :: .q0 _ :: .q0 _ :: .q0 _ :: .q0 _ :: .q0 _ :: .q0 _ :: .q0 _ :: .c0 _ :: .q0 _ :: .q0 _ :: [])) rfl (by kernel_rfl) rfl rfl
    intro th hge hne
    refine Seg.sq ?_
    refine Seg.sq ?_ (ht := Or.inl ⟨by rfl, fun U hU => vp_quiet (by (have h0 := held_cell (held_after hU.1 r_p0_0) 0 _ rfl; go_simp <;> exact rfl))⟩)
    iterate 3 refine Seg.sq ?_
    refine Seg.sq ?_ (ht := Or.inl ⟨by rfl, fun U hU => vp_quiet (by (have h0 := held_cell (held_after hU.1 r_p0_0) 0 _ rfl; go_simp <;> exact rfl))⟩)
    iterate 4 refine Seg.sq ?_
    refine Seg.sq ?_ (ht := Or.inl ⟨by rfl, fun U hU => vp_quiet (by (have h0 := held_cell (held_after hU.1 r_p0_0) 1 _ rfl; go_simp <;> exact rfl))⟩)
    iterate 4 refine Seg.sq ?_
    refine Seg.sq ?_ (ht := Or.inl ⟨by rfl, fun U hU => vp_quiet (by (have h0 := held_cell (held_after hU.1 r_p0_0) 1 _ rfl; go_simp <;> exact rfl))⟩)
    iterate 4 refine Seg.sq ?_
    refine Seg.sq ?_ (ht := Or.inl ⟨by rfl, fun U hU => vp_quiet (by (have h0 := held_cell (held_after hU.1 r_p0_0) 2 _ rfl; go_simp <;> exact rfl))⟩)
    iterate 4 refine Seg.sq ?_
    refine Seg.sq ?_ (ht := Or.inl ⟨by rfl, fun U hU => vp_quiet (by (have h0 := held_cell (held_after hU.1 r_p0_0) 2 _ rfl; go_simp <;> exact rfl))⟩)
    iterate 3 refine Seg.sq ?_
    refine Seg.step _ rfl (Or.inl ⟨by rfl, fun U hU => ?_⟩) ?_
    · go_simp
      refine vp_call (knows42_any _)
    refine Seg.sa ?_
    refine Seg.sq ?_
    refine Seg.sq ?_
    refine Seg.stop (fun U2 hU hk => ?_)
    clear hk hge hne
    replace r_p0_0 := held_after hU r_p0_0
    replace r_p0_1 := held_after hU r_p0_1
    have sz2 := hU.size
    replace hB := bthen hB hU
    clear hU
    go_upto_region 3 with (fail)
    apply wp_region_seg (w := U2) (S := [.q [], .q [], .q [], .al 4, .st 3 []]) (E := [.c0 _, .q0 _, .q0 _, .al ((fun p => .pointer (some ⟨p, 0, none⟩)), _) 4, .s0 3 (.cells _ _)]) (by kernel_rfl) rfl (by kernel_rfl) rfl rfl
    intro th hge hne
    refine Seg.step _ rfl (Or.inl ⟨by rfl, fun U hU => ?_⟩) ?_
    · go_simp
      refine vp_call (rqone_any _)
    refine Seg.sa ?_
    refine Seg.sq ?_ (ht := Or.inl ⟨by rfl, fun U hU => vp_quiet (by (have h0 := held_cell (held_after hU.1 r_p0_0) 0 _ rfl; have h1 := held_cell (held_after hU.1 r_p0_0) 1 _ rfl; have h2 := held_cell (held_after hU.1 r_p0_0) 2 _ rfl; go_simp <;> exact rfl))⟩)
    refine Seg.sq ?_
    refine Seg.step _ rfl ⟨by rfl, fun U hU => ?_⟩ ?_
    · go_simp; exact vp_alloc rfl rfl rfl
    refine Seg.sa ?_
    refine Seg.step _ rfl ⟨by rfl, fun U z k hz hU hc => ?_⟩ ?_
    · have hz2 := Option.some.inj hz
      cases hz2; clear hz
      exact vp_store_agg _ _ _ rfl hc rfl rfl (by kernel_rfl) rfl (by rfl)
    refine Seg.sa ?_
    refine Seg.stop (fun U3 hU hk => ?_)
    have nb3 := hge 3 _ _ rfl
    have rb3 := (hk 3 _ 4 rfl trivial).1.1 trivial _ (Nat.zero_le _) rfl
    clear hk hge hne
    generalize th (0 + 3) = p3_3 at *
    simp only [Ent.obj] at rb3
    replace r_p0_0 := held_after hU r_p0_0
    replace r_p0_1 := held_after hU r_p0_1
    have r_p3_3 := rb3
    clear rb3
    have n_p3_3 := nb3
    clear nb3
    have sz3 := hU.size
    replace hB := bthen hB hU
    clear hU
    go_upto_region 4 with (fail)
    apply wp_region_seg0 (w := U3) (S := [.q [], .q [], .q [], .q [], .al 5, .st 4 []]) (E := [.q0 _, .q0 _, .q0 _, .q0 _, .al ((fun p => .pointer (some ⟨p, 0, none⟩)), _) 5, .s0 4 (.cells _ _)]) rfl (by kernel_rfl) rfl rfl
    intro th hge hne
    refine Seg.sq ?_
    refine Seg.sq ?_ (ht := Or.inl ⟨by rfl, fun U hU => vp_quiet (by (have h0 := held_cell (held_after hU.1 r_p3_3) 0 _ rfl; have h1 := held_cell (held_after hU.1 r_p3_3) 1 _ rfl; have h2 := held_cell (held_after hU.1 r_p3_3) 2 _ rfl; have h3 := held_cell (held_after hU.1 r_p3_3) 3 _ rfl; go_simp <;> exact rfl))⟩)
    refine Seg.sq ?_ (ht := Or.inl ⟨by rfl, fun U hU => vp_quiet (by (have h0 := held_cell (held_after hU.1 r_p0_0) 0 _ rfl; have h1 := held_cell (held_after hU.1 r_p0_0) 1 _ rfl; have h2 := held_cell (held_after hU.1 r_p0_0) 2 _ rfl; go_simp <;> exact rfl))⟩)
    refine Seg.sq ?_
    refine Seg.step _ rfl ⟨by rfl, fun U hU => ?_⟩ ?_
    · go_simp; exact vp_alloc rfl rfl rfl
    refine Seg.sa ?_
    refine Seg.step _ rfl ⟨by rfl, fun U z k hz hU hc => ?_⟩ ?_
    · have hz2 := Option.some.inj hz
      cases hz2; clear hz
      exact vp_store_agg _ _ _ rfl hc rfl rfl (by kernel_rfl) rfl (by rfl)
    refine Seg.sa ?_
    refine Seg.stop (fun U4 hU hk => ?_)
    have nb4 := hge 4 _ _ rfl
    have rb4 := (hk 4 _ 5 rfl trivial).1.1 trivial _ (Nat.zero_le _) rfl
    clear hk hge hne
    generalize th (0 + 4) = p4_4 at *
    simp only [Ent.obj] at rb4
    replace r_p0_0 := held_after hU r_p0_0
    replace r_p0_1 := held_after hU r_p0_1
    replace r_p3_3 := held_after hU r_p3_3
    have r_p4_4 := rb4
    clear rb4
    have n_p4_4 := nb4
    clear nb4
    have sz4 := hU.size
    replace hB := bthen hB hU
    clear hU
    go_upto_region 5 with (fail)
    apply wp_region_seg0 (w := U4) (S := [.q [], .q [], .q []]) (E := [.q0 _, .c0 _, .q0 _]) rfl (by kernel_rfl) rfl rfl
    intro th hge hne
    refine Seg.sq ?_ (ht := Or.inl ⟨by rfl, fun U hU => vp_quiet (by (have h0 := held_cell (held_after hU.1 r_p0_1) 0 _ rfl; have h1 := held_cell (held_after hU.1 r_p0_1) 1 _ rfl; have h2 := held_cell (held_after hU.1 r_p0_1) 2 _ rfl; go_simp <;> exact rfl))⟩)
    refine Seg.step _ rfl (Or.inl ⟨by rfl, fun U hU => ?_⟩) ?_
    · go_simp
      refine vp_call (kL.out _)
    refine Seg.sa ?_
    refine Seg.sq ?_
    refine Seg.stop (fun U5 hU hk => ?_)
    clear hk hge hne
    replace r_p0_0 := held_after hU r_p0_0
    replace r_p0_1 := held_after hU r_p0_1
    replace r_p3_3 := held_after hU r_p3_3
    replace r_p4_4 := held_after hU r_p4_4
    have sz5 := hU.size
    replace hB := bthen hB hU
    clear hU
    go_upto_region 6 with (fail)
    apply wp_region_seg (w := U5) (S := [.q [], .q [], .q [], .q [], .q [], .q [], .q [], .q [], .q [], .q [], .q [], .q [], .q [], .q [], .q []]) (E := [.q0 _, .q0 _, .q0 _, .q0 _, .q0 _, .q0 _, .q0 _, .q0 _, .q0 _, .q0 _, .q0 _, .c0 _, .q0 _, .q0 _, .q0 _]) (by kernel_rfl) rfl (by kernel_rfl) rfl rfl
    intro th hge hne
    iterate 7 refine Seg.sq ?_
    refine Seg.sq ?_ (ht := Or.inr ⟨by rfl, rfl⟩)
    refine Seg.sq ?_ (ht := Or.inr ⟨by rfl, rfl⟩)
    refine Seg.sq ?_ (ht := Or.inr ⟨by rfl, rfl⟩)
    refine Seg.sq ?_ (ht := Or.inr ⟨by rfl, rfl⟩)
    refine Seg.sq ?_ (ht := Or.inr ⟨by rfl, rfl⟩)
    refine Seg.sq ?_ (ht := Or.inr ⟨by rfl, rfl⟩)
    refine Seg.sq ?_ (ht := Or.inr ⟨by rfl, rfl⟩)
    refine Seg.sq ?_
    refine Seg.stop (fun U6 hU hk => ?_)
    clear hk hge hne
    replace r_p0_0 := held_after hU r_p0_0
    replace r_p0_1 := held_after hU r_p0_1
    replace r_p3_3 := held_after hU r_p3_3
    replace r_p4_4 := held_after hU r_p4_4
    have sz6 := hU.size
    replace hB := bthen hB hU
    clear hU
    go_upto_region 8 with (fail)
    apply wp_region_seg (w := U6) (S := [.q [], .q [], .q [], .q [], .q [], .q [], .q [], .q [], .q [], .q [], .q [], .q [], .q []]) (E := [.q0 _, .q0 _, .q0 _, .q0 _, .q0 _, .q0 _, .q0 _, .q0 _, .c0 _, .q0 _, .q0 _, .q0 _, .q0 _]) (by kernel_rfl) rfl (by kernel_rfl) rfl rfl
    intro th hge hne
    iterate 3 refine Seg.sq ?_
    refine Seg.sq ?_ (ht := Or.inr ⟨by rfl, rfl⟩)
    refine Seg.sq ?_ (ht := Or.inr ⟨by rfl, rfl⟩)
    refine Seg.sq ?_ (ht := Or.inr ⟨by rfl, rfl⟩)
    refine Seg.sq ?_ (ht := Or.inr ⟨by rfl, rfl⟩)
    refine Seg.sq ?_ (ht := Or.inr ⟨by rfl, rfl⟩)
    refine Seg.sq ?_ (ht := Or.inr ⟨by rfl, rfl⟩)
    refine Seg.sq ?_ (ht := Or.inr ⟨by rfl, rfl⟩)
    refine Seg.sq ?_ (ht := Or.inr ⟨by rfl, rfl⟩)
    refine Seg.sq ?_
    refine Seg.sq ?_
    refine Seg.stop (fun U7 hU hk => ?_)
    clear hk hge hne
    replace r_p0_0 := held_after hU r_p0_0
    replace r_p0_1 := held_after hU r_p0_1
    replace r_p3_3 := held_after hU r_p3_3
    replace r_p4_4 := held_after hU r_p4_4
    have sz7 := hU.size
    replace hB := bthen hB hU
    clear hU
    go_wp2_with fail
    go_ret
    exact ⟨rfl, hB⟩
  by_cases hlo : L < 32768
  case pos =>
    have k1 := hid (fun U => fstep_any 1073741824 0 0 0 a0_0 a0_1 a0_2 a0_0 a0_1 a0_2 a2_0 a2_1 a2_2 a3 0 0 U one b32_0 b32_0 b32_0 p0 p1 p2 p0 p1 p2 s0 s1 s2 pd (by omega) (by omega) (by omega) (by omega) 1073741824 0 0 0 a0_0 a0_1 a0_2 0 (rest_step a0_0 a0_1 a0_2 a2_0 a2_1 a2_2 a3 l0 l1 l2 (hErr (by omega))))
    have e1 : decide ((L : Int) < 32768) = true := by simp; omega
    have e3 : decide (a1 < 0) = false := by simpa using hu
    clear c0 c1 c2 c3 c4 c5 p0 p1 p2 s0 s1 s2 pu pd l0 l1 l2 one hErr hlo hu
    go_enter Try.func4, Try.ntmps4
    go_upto_region 0 with (fail)
    apply wp_region_seg0 (w := W) (S := [.al 1000, .al 1000, .q []]) (E := [.al ((fun p => .pointer (some ⟨p, 0, none⟩)), _) 1000, .al ((fun p => .pointer (some ⟨p, 0, none⟩)), _) 1000, .q0 _]) rfl (by kernel_rfl) rfl rfl
    intro th hge hne
    refine Seg.step _ rfl ⟨by rfl, fun U hU => ?_⟩ ?_
    · go_simp; exact vp_alloc rfl rfl rfl
    refine Seg.sa ?_
    refine Seg.step _ rfl ⟨by rfl, fun U hU => ?_⟩ ?_
    · go_simp; exact vp_alloc rfl rfl rfl
    refine Seg.sa ?_
    refine Seg.sq ?_
    refine Seg.stop (fun U1 hU hk => ?_)
    have nb0 := hge 0 _ _ rfl
    have rb0 := (hk 0 _ _ rfl trivial).1.2 (by simp)
    have nb1 := hge 1 _ _ rfl
    have rb1 := (hk 1 _ _ rfl trivial).1.2 (by simp)
    have ne0_1 := hne 0 1 _ _ _ _ rfl rfl (by omega)
    clear hk hge hne
    generalize th (0 + 0) = p0_0 at *
    dsimp only at rb0
    generalize th (0 + 1) = p0_1 at *
    dsimp only at rb1
    have r_p0_0 := rb0
    clear rb0
    have n_p0_0 := nb0
    clear nb0
    have d_p0_0_p0_1 := ne0_1
    clear ne0_1
    have r_p0_1 := rb1
    clear rb1
    have n_p0_1 := nb1
    clear nb1
    have sz1 := hU.size
    have hB : Below W.heap.size W U1 := hU
    clear hU
    go_upto_region 1 with (fail)
    apply wp_region_seg0 (w := U1) (S := (.q [] :: .q [] :: .q [] :: .q [] :: .q [] :: .q [] :: .q [] :: .q [] :: .q [] :: .q [] :: .q [] :: .q [] :: .q [] :: .q [] :: .q [] :: .q [] :: .q [] :: .q [] :: .q [] :: .q [] :: .q [] :: .q [] :: .q [] :: .q [] :: .q [] :: .q [] :: .q [] :: .q [] :: .q [] :: .q [] :: .q [] :: .q [] :: [])) (E := (.q0 _ :: .q0 _ :: .q0 _ :: .q0 _ :: .q0 _ :: .q0 _ :: .q0 _ :: .q0 _ :: .q0 _ :: .q0 _ :: .q0 _ :: .q0 _ :: .q0 _ :: .q0 _ :: .q0 _ :: .q0 _ :: .q0 _ :: .q0 _ :: .q0 _ :: .q0 _ :: .q0 _ :: .q0 _ :: .q0 _ :: .q0 _ :: .q0 _ :: .q0 _ :: .q0 _ :: .q0 _ :: .q0 _ :: .c0 _ :: .q0 _ :: .q0 _ :: [])) rfl (by kernel_rfl) rfl rfl
    intro th hge hne
    refine Seg.sq ?_
    refine Seg.sq ?_ (ht := Or.inl ⟨by rfl, fun U hU => vp_quiet (by (have h0 := held_cell (held_after hU.1 r_p0_0) 0 _ rfl; go_simp <;> exact rfl))⟩)
    iterate 3 refine Seg.sq ?_
    refine Seg.sq ?_ (ht := Or.inl ⟨by rfl, fun U hU => vp_quiet (by (have h0 := held_cell (held_after hU.1 r_p0_0) 0 _ rfl; go_simp <;> exact rfl))⟩)
    iterate 4 refine Seg.sq ?_
    refine Seg.sq ?_ (ht := Or.inl ⟨by rfl, fun U hU => vp_quiet (by (have h0 := held_cell (held_after hU.1 r_p0_0) 1 _ rfl; go_simp <;> exact rfl))⟩)
    iterate 4 refine Seg.sq ?_
    refine Seg.sq ?_ (ht := Or.inl ⟨by rfl, fun U hU => vp_quiet (by (have h0 := held_cell (held_after hU.1 r_p0_0) 1 _ rfl; go_simp <;> exact rfl))⟩)
    iterate 4 refine Seg.sq ?_
    refine Seg.sq ?_ (ht := Or.inl ⟨by rfl, fun U hU => vp_quiet (by (have h0 := held_cell (held_after hU.1 r_p0_0) 2 _ rfl; go_simp <;> exact rfl))⟩)
    iterate 4 refine Seg.sq ?_
    refine Seg.sq ?_ (ht := Or.inl ⟨by rfl, fun U hU => vp_quiet (by (have h0 := held_cell (held_after hU.1 r_p0_0) 2 _ rfl; go_simp <;> exact rfl))⟩)
    iterate 3 refine Seg.sq ?_
    refine Seg.step _ rfl (Or.inl ⟨by rfl, fun U hU => ?_⟩) ?_
    · go_simp
      refine vp_call (knows42_any _)
    refine Seg.sa ?_
    refine Seg.sq ?_
    refine Seg.sq ?_
    refine Seg.stop (fun U2 hU hk => ?_)
    clear hk hge hne
    replace r_p0_0 := held_after hU r_p0_0
    replace r_p0_1 := held_after hU r_p0_1
    have sz2 := hU.size
    replace hB := bthen hB hU
    clear hU
    go_upto_region 3 with (fail)
    apply wp_region_seg (w := U2) (S := [.q [], .q [], .q [], .al 4, .st 3 []]) (E := [.c0 _, .q0 _, .q0 _, .al ((fun p => .pointer (some ⟨p, 0, none⟩)), _) 4, .s0 3 (.cells _ _)]) (by kernel_rfl) rfl (by kernel_rfl) rfl rfl
    intro th hge hne
    refine Seg.step _ rfl (Or.inl ⟨by rfl, fun U hU => ?_⟩) ?_
    · go_simp
      refine vp_call (rqone_any _)
    refine Seg.sa ?_
    refine Seg.sq ?_ (ht := Or.inl ⟨by rfl, fun U hU => vp_quiet (by (have h0 := held_cell (held_after hU.1 r_p0_0) 0 _ rfl; have h1 := held_cell (held_after hU.1 r_p0_0) 1 _ rfl; have h2 := held_cell (held_after hU.1 r_p0_0) 2 _ rfl; go_simp <;> exact rfl))⟩)
    refine Seg.sq ?_
    refine Seg.step _ rfl ⟨by rfl, fun U hU => ?_⟩ ?_
    · go_simp; exact vp_alloc rfl rfl rfl
    refine Seg.sa ?_
    refine Seg.step _ rfl ⟨by rfl, fun U z k hz hU hc => ?_⟩ ?_
    · have hz2 := Option.some.inj hz
      cases hz2; clear hz
      exact vp_store_agg _ _ _ rfl hc rfl rfl (by kernel_rfl) rfl (by rfl)
    refine Seg.sa ?_
    refine Seg.stop (fun U3 hU hk => ?_)
    have nb3 := hge 3 _ _ rfl
    have rb3 := (hk 3 _ 4 rfl trivial).1.1 trivial _ (Nat.zero_le _) rfl
    clear hk hge hne
    generalize th (0 + 3) = p3_3 at *
    simp only [Ent.obj] at rb3
    replace r_p0_0 := held_after hU r_p0_0
    replace r_p0_1 := held_after hU r_p0_1
    have r_p3_3 := rb3
    clear rb3
    have n_p3_3 := nb3
    clear nb3
    have sz3 := hU.size
    replace hB := bthen hB hU
    clear hU
    go_upto_region 4 with (fail)
    apply wp_region_seg0 (w := U3) (S := [.q [], .q [], .q [], .q [], .al 5, .st 4 []]) (E := [.q0 _, .q0 _, .q0 _, .q0 _, .al ((fun p => .pointer (some ⟨p, 0, none⟩)), _) 5, .s0 4 (.cells _ _)]) rfl (by kernel_rfl) rfl rfl
    intro th hge hne
    refine Seg.sq ?_
    refine Seg.sq ?_ (ht := Or.inl ⟨by rfl, fun U hU => vp_quiet (by (have h0 := held_cell (held_after hU.1 r_p3_3) 0 _ rfl; have h1 := held_cell (held_after hU.1 r_p3_3) 1 _ rfl; have h2 := held_cell (held_after hU.1 r_p3_3) 2 _ rfl; have h3 := held_cell (held_after hU.1 r_p3_3) 3 _ rfl; go_simp <;> exact rfl))⟩)
    refine Seg.sq ?_ (ht := Or.inl ⟨by rfl, fun U hU => vp_quiet (by (have h0 := held_cell (held_after hU.1 r_p0_0) 0 _ rfl; have h1 := held_cell (held_after hU.1 r_p0_0) 1 _ rfl; have h2 := held_cell (held_after hU.1 r_p0_0) 2 _ rfl; go_simp <;> exact rfl))⟩)
    refine Seg.sq ?_
    refine Seg.step _ rfl ⟨by rfl, fun U hU => ?_⟩ ?_
    · go_simp; exact vp_alloc rfl rfl rfl
    refine Seg.sa ?_
    refine Seg.step _ rfl ⟨by rfl, fun U z k hz hU hc => ?_⟩ ?_
    · have hz2 := Option.some.inj hz
      cases hz2; clear hz
      exact vp_store_agg _ _ _ rfl hc rfl rfl (by kernel_rfl) rfl (by rfl)
    refine Seg.sa ?_
    refine Seg.stop (fun U4 hU hk => ?_)
    have nb4 := hge 4 _ _ rfl
    have rb4 := (hk 4 _ 5 rfl trivial).1.1 trivial _ (Nat.zero_le _) rfl
    clear hk hge hne
    generalize th (0 + 4) = p4_4 at *
    simp only [Ent.obj] at rb4
    replace r_p0_0 := held_after hU r_p0_0
    replace r_p0_1 := held_after hU r_p0_1
    replace r_p3_3 := held_after hU r_p3_3
    have r_p4_4 := rb4
    clear rb4
    have n_p4_4 := nb4
    clear nb4
    have sz4 := hU.size
    replace hB := bthen hB hU
    clear hU
    go_upto_region 5 with (fail)
    apply wp_region_seg0 (w := U4) (S := [.q [], .q [], .q []]) (E := [.q0 _, .c0 _, .q0 _]) rfl (by kernel_rfl) rfl rfl
    intro th hge hne
    refine Seg.sq ?_ (ht := Or.inl ⟨by rfl, fun U hU => vp_quiet (by (have h0 := held_cell (held_after hU.1 r_p0_1) 0 _ rfl; have h1 := held_cell (held_after hU.1 r_p0_1) 1 _ rfl; have h2 := held_cell (held_after hU.1 r_p0_1) 2 _ rfl; go_simp <;> exact rfl))⟩)
    refine Seg.step _ rfl (Or.inl ⟨by rfl, fun U hU => ?_⟩) ?_
    · go_simp
      refine vp_call (kL.out _)
    refine Seg.sa ?_
    refine Seg.sq ?_
    refine Seg.stop (fun U5 hU hk => ?_)
    clear hk hge hne
    replace r_p0_0 := held_after hU r_p0_0
    replace r_p0_1 := held_after hU r_p0_1
    replace r_p3_3 := held_after hU r_p3_3
    replace r_p4_4 := held_after hU r_p4_4
    have sz5 := hU.size
    replace hB := bthen hB hU
    clear hU
    go_upto_region 6 with (fail)
    apply wp_region_seg (w := U5) (S := [.q [], .q [], .q [], .q [], .q [], .q [], .q [], .q [], .q [], .q [], .q [], .q [], .q [], .q [], .q []]) (E := [.q0 _, .q0 _, .q0 _, .q0 _, .q0 _, .q0 _, .q0 _, .q0 _, .q0 _, .q0 _, .q0 _, .c0 _, .q0 _, .q0 _, .q0 _]) (by kernel_rfl) rfl (by kernel_rfl) rfl rfl
    intro th hge hne
    iterate 3 refine Seg.sq ?_
    refine Seg.sq ?_ (ht := Or.inr ⟨by rfl, rfl⟩)
    refine Seg.sq ?_ (ht := Or.inr ⟨by rfl, rfl⟩)
    refine Seg.sq ?_
    refine Seg.sq ?_
    refine Seg.sq ?_ (ht := Or.inl ⟨by rfl, fun U hU => vp_quiet (by (have h0 := held_cell (held_after hU.1 r_p3_3) 0 _ rfl; have h1 := held_cell (held_after hU.1 r_p3_3) 1 _ rfl; have h2 := held_cell (held_after hU.1 r_p3_3) 2 _ rfl; have h3 := held_cell (held_after hU.1 r_p3_3) 3 _ rfl; have h4 := held_cell (held_after hU.1 r_p3_3) 4 _ rfl; have h5 := held_cell (held_after hU.1 r_p3_3) 5 _ rfl; have h6 := held_cell (held_after hU.1 r_p3_3) 6 _ rfl; have h7 := held_cell (held_after hU.1 r_p3_3) 7 _ rfl; have h8 := held_cell (held_after hU.1 r_p3_3) 8 _ rfl; go_simp <;> exact rfl))⟩)
    refine Seg.sq ?_ (ht := Or.inl ⟨by rfl, fun U hU => vp_quiet (by (have h0 := held_cell (held_after hU.1 r_p0_0) 0 _ rfl; have h1 := held_cell (held_after hU.1 r_p0_0) 1 _ rfl; have h2 := held_cell (held_after hU.1 r_p0_0) 2 _ rfl; go_simp <;> exact rfl))⟩)
    refine Seg.sq ?_ (ht := Or.inl ⟨by rfl, fun U hU => vp_quiet (by (have h0 := held_cell (held_after hU.1 r_p0_1) 0 _ rfl; have h1 := held_cell (held_after hU.1 r_p0_1) 1 _ rfl; have h2 := held_cell (held_after hU.1 r_p0_1) 2 _ rfl; go_simp <;> exact rfl))⟩)
    refine Seg.sq ?_
    refine Seg.step _ rfl (Or.inl ⟨by rfl, fun U hU => ?_⟩) ?_
    · go_simp
      refine vp_call (k1.out _)
    refine Seg.sa ?_
    refine Seg.sq ?_ (ht := Or.inl ⟨by rfl, fun U hU => vp_quiet (by (have h0 := held_cell (held_after hU.1 r_p4_4) 0 _ rfl; have h1 := held_cell (held_after hU.1 r_p4_4) 1 _ rfl; have h2 := held_cell (held_after hU.1 r_p4_4) 2 _ rfl; have h3 := held_cell (held_after hU.1 r_p4_4) 3 _ rfl; have h4 := held_cell (held_after hU.1 r_p4_4) 4 _ rfl; have h5 := held_cell (held_after hU.1 r_p4_4) 5 _ rfl; have h6 := held_cell (held_after hU.1 r_p4_4) 6 _ rfl; have h7 := held_cell (held_after hU.1 r_p4_4) 7 _ rfl; have h8 := held_cell (held_after hU.1 r_p4_4) 8 _ rfl; go_simp <;> exact rfl))⟩)
    refine Seg.sq ?_
    refine Seg.sq ?_
    refine Seg.stop (fun U6 hU hk => ?_)
    clear hk hge hne
    replace r_p0_0 := held_after hU r_p0_0
    replace r_p0_1 := held_after hU r_p0_1
    replace r_p3_3 := held_after hU r_p3_3
    replace r_p4_4 := held_after hU r_p4_4
    have sz6 := hU.size
    replace hB := bthen hB hU
    clear hU
    go_upto_region 8 with (fail)
    apply wp_region_seg (w := U6) (S := [.q [], .q [], .q [], .q [], .q [], .q [], .q [], .q [], .q [], .q [], .q [], .q [], .q []]) (E := [.q0 _, .q0 _, .q0 _, .q0 _, .q0 _, .q0 _, .q0 _, .q0 _, .c0 _, .q0 _, .q0 _, .q0 _, .q0 _]) (by kernel_rfl) rfl (by kernel_rfl) rfl rfl
    intro th hge hne
    iterate 3 refine Seg.sq ?_
    refine Seg.sq ?_ (ht := Or.inl ⟨by rfl, fun U hU => vp_quiet (by (have h0 := held_cell (held_after hU.1 r_p3_3) 0 _ rfl; have h1 := held_cell (held_after hU.1 r_p3_3) 1 _ rfl; have h2 := held_cell (held_after hU.1 r_p3_3) 2 _ rfl; have h3 := held_cell (held_after hU.1 r_p3_3) 3 _ rfl; have h4 := held_cell (held_after hU.1 r_p3_3) 4 _ rfl; have h5 := held_cell (held_after hU.1 r_p3_3) 5 _ rfl; have h6 := held_cell (held_after hU.1 r_p3_3) 6 _ rfl; have h7 := held_cell (held_after hU.1 r_p3_3) 7 _ rfl; have h8 := held_cell (held_after hU.1 r_p3_3) 8 _ rfl; go_simp <;> exact rfl))⟩)
    refine Seg.sq ?_ (ht := Or.inl ⟨by rfl, fun U hU => vp_quiet (by (have h0 := held_cell (held_after hU.1 r_p0_0) 0 _ rfl; have h1 := held_cell (held_after hU.1 r_p0_0) 1 _ rfl; have h2 := held_cell (held_after hU.1 r_p0_0) 2 _ rfl; go_simp <;> exact rfl))⟩)
    iterate 3 refine Seg.sq ?_
    refine Seg.step _ rfl (Or.inl ⟨by rfl, fun U hU => ?_⟩) ?_
    · go_simp
      refine vp_call (k2.out _)
    refine Seg.sa ?_
    refine Seg.sq ?_ (ht := Or.inl ⟨by rfl, fun U hU => vp_quiet (by (have h0 := held_cell (held_after hU.1 r_p4_4) 0 _ rfl; have h1 := held_cell (held_after hU.1 r_p4_4) 1 _ rfl; have h2 := held_cell (held_after hU.1 r_p4_4) 2 _ rfl; have h3 := held_cell (held_after hU.1 r_p4_4) 3 _ rfl; have h4 := held_cell (held_after hU.1 r_p4_4) 4 _ rfl; have h5 := held_cell (held_after hU.1 r_p4_4) 5 _ rfl; have h6 := held_cell (held_after hU.1 r_p4_4) 6 _ rfl; have h7 := held_cell (held_after hU.1 r_p4_4) 7 _ rfl; have h8 := held_cell (held_after hU.1 r_p4_4) 8 _ rfl; go_simp <;> exact rfl))⟩)
    iterate 3 refine Seg.sq ?_
    refine Seg.stop (fun U7 hU hk => ?_)
    clear hk hge hne
    replace r_p0_0 := held_after hU r_p0_0
    replace r_p0_1 := held_after hU r_p0_1
    replace r_p3_3 := held_after hU r_p3_3
    replace r_p4_4 := held_after hU r_p4_4
    have sz7 := hU.size
    replace hB := bthen hB hU
    clear hU
    go_wp2_with fail
    go_ret
    exact ⟨rfl, hB⟩
  by_cases hhi : 98304 < L
  case pos =>
    have k1 := hid (fun U => fstep_any 1073741824 0 0 0 a0_0 a0_1 a0_2 a0_0 a0_1 a0_2 a2_0 a2_1 a2_2 a3 0 0 U one b32_0 b32_0 b32_0 p0 p1 p2 p0 p1 p2 s0 s1 s2 pd (by omega) (by omega) (by omega) (by omega) 1073741824 0 0 0 a0_0 a0_1 a0_2 0 (rest_step a0_0 a0_1 a0_2 a2_0 a2_1 a2_2 a3 l0 l1 l2 (hErr (by omega))))
    have e1 : decide ((L : Int) < 32768) = false := by simp; omega
    have e2 : decide ((98304 : Int) < (L : Int)) = true := by simp; omega
    have e3 : decide (a1 < 0) = false := by simpa using hu
    clear c0 c1 c2 c3 c4 c5 p0 p1 p2 s0 s1 s2 pu pd l0 l1 l2 one hErr hlo hu hhi
    go_enter Try.func4, Try.ntmps4
    go_upto_region 0 with (fail)
    apply wp_region_seg0 (w := W) (S := [.al 1000, .al 1000, .q []]) (E := [.al ((fun p => .pointer (some ⟨p, 0, none⟩)), _) 1000, .al ((fun p => .pointer (some ⟨p, 0, none⟩)), _) 1000, .q0 _]) rfl (by kernel_rfl) rfl rfl
    intro th hge hne
    refine Seg.step _ rfl ⟨by rfl, fun U hU => ?_⟩ ?_
    · go_simp; exact vp_alloc rfl rfl rfl
    refine Seg.sa ?_
    refine Seg.step _ rfl ⟨by rfl, fun U hU => ?_⟩ ?_
    · go_simp; exact vp_alloc rfl rfl rfl
    refine Seg.sa ?_
    refine Seg.sq ?_
    refine Seg.stop (fun U1 hU hk => ?_)
    have nb0 := hge 0 _ _ rfl
    have rb0 := (hk 0 _ _ rfl trivial).1.2 (by simp)
    have nb1 := hge 1 _ _ rfl
    have rb1 := (hk 1 _ _ rfl trivial).1.2 (by simp)
    have ne0_1 := hne 0 1 _ _ _ _ rfl rfl (by omega)
    clear hk hge hne
    generalize th (0 + 0) = p0_0 at *
    dsimp only at rb0
    generalize th (0 + 1) = p0_1 at *
    dsimp only at rb1
    have r_p0_0 := rb0
    clear rb0
    have n_p0_0 := nb0
    clear nb0
    have d_p0_0_p0_1 := ne0_1
    clear ne0_1
    have r_p0_1 := rb1
    clear rb1
    have n_p0_1 := nb1
    clear nb1
    have sz1 := hU.size
    have hB : Below W.heap.size W U1 := hU
    clear hU
    go_upto_region 1 with (fail)
    apply wp_region_seg0 (w := U1) (S := (.q [] :: .q [] :: .q [] :: .q [] :: .q [] :: .q [] :: .q [] :: .q [] :: .q [] :: .q [] :: .q [] :: .q [] :: .q [] :: .q [] :: .q [] :: .q [] :: .q [] :: .q [] :: .q [] :: .q [] :: .q [] :: .q [] :: .q [] :: .q [] :: .q [] :: .q [] :: .q [] :: .q [] :: .q [] :: .q [] :: .q [] :: .q [] :: [])) (E := (.q0 _ :: .q0 _ :: .q0 _ :: .q0 _ :: .q0 _ :: .q0 _ :: .q0 _ :: .q0 _ :: .q0 _ :: .q0 _ :: .q0 _ :: .q0 _ :: .q0 _ :: .q0 _ :: .q0 _ :: .q0 _ :: .q0 _ :: .q0 _ :: .q0 _ :: .q0 _ :: .q0 _ :: .q0 _ :: .q0 _ :: .q0 _ :: .q0 _ :: .q0 _ :: .q0 _ :: .q0 _ :: .q0 _ :: .c0 _ :: .q0 _ :: .q0 _ :: [])) rfl (by kernel_rfl) rfl rfl
    intro th hge hne
    refine Seg.sq ?_
    refine Seg.sq ?_ (ht := Or.inl ⟨by rfl, fun U hU => vp_quiet (by (have h0 := held_cell (held_after hU.1 r_p0_0) 0 _ rfl; go_simp <;> exact rfl))⟩)
    iterate 3 refine Seg.sq ?_
    refine Seg.sq ?_ (ht := Or.inl ⟨by rfl, fun U hU => vp_quiet (by (have h0 := held_cell (held_after hU.1 r_p0_0) 0 _ rfl; go_simp <;> exact rfl))⟩)
    iterate 4 refine Seg.sq ?_
    refine Seg.sq ?_ (ht := Or.inl ⟨by rfl, fun U hU => vp_quiet (by (have h0 := held_cell (held_after hU.1 r_p0_0) 1 _ rfl; go_simp <;> exact rfl))⟩)
    iterate 4 refine Seg.sq ?_
    refine Seg.sq ?_ (ht := Or.inl ⟨by rfl, fun U hU => vp_quiet (by (have h0 := held_cell (held_after hU.1 r_p0_0) 1 _ rfl; go_simp <;> exact rfl))⟩)
    iterate 4 refine Seg.sq ?_
    refine Seg.sq ?_ (ht := Or.inl ⟨by rfl, fun U hU => vp_quiet (by (have h0 := held_cell (held_after hU.1 r_p0_0) 2 _ rfl; go_simp <;> exact rfl))⟩)
    iterate 4 refine Seg.sq ?_
    refine Seg.sq ?_ (ht := Or.inl ⟨by rfl, fun U hU => vp_quiet (by (have h0 := held_cell (held_after hU.1 r_p0_0) 2 _ rfl; go_simp <;> exact rfl))⟩)
    iterate 3 refine Seg.sq ?_
    refine Seg.step _ rfl (Or.inl ⟨by rfl, fun U hU => ?_⟩) ?_
    · go_simp
      refine vp_call (knows42_any _)
    refine Seg.sa ?_
    refine Seg.sq ?_
    refine Seg.sq ?_
    refine Seg.stop (fun U2 hU hk => ?_)
    clear hk hge hne
    replace r_p0_0 := held_after hU r_p0_0
    replace r_p0_1 := held_after hU r_p0_1
    have sz2 := hU.size
    replace hB := bthen hB hU
    clear hU
    go_upto_region 3 with (fail)
    apply wp_region_seg (w := U2) (S := [.q [], .q [], .q [], .al 4, .st 3 []]) (E := [.c0 _, .q0 _, .q0 _, .al ((fun p => .pointer (some ⟨p, 0, none⟩)), _) 4, .s0 3 (.cells _ _)]) (by kernel_rfl) rfl (by kernel_rfl) rfl rfl
    intro th hge hne
    refine Seg.step _ rfl (Or.inl ⟨by rfl, fun U hU => ?_⟩) ?_
    · go_simp
      refine vp_call (rqone_any _)
    refine Seg.sa ?_
    refine Seg.sq ?_ (ht := Or.inl ⟨by rfl, fun U hU => vp_quiet (by (have h0 := held_cell (held_after hU.1 r_p0_0) 0 _ rfl; have h1 := held_cell (held_after hU.1 r_p0_0) 1 _ rfl; have h2 := held_cell (held_after hU.1 r_p0_0) 2 _ rfl; go_simp <;> exact rfl))⟩)
    refine Seg.sq ?_
    refine Seg.step _ rfl ⟨by rfl, fun U hU => ?_⟩ ?_
    · go_simp; exact vp_alloc rfl rfl rfl
    refine Seg.sa ?_
    refine Seg.step _ rfl ⟨by rfl, fun U z k hz hU hc => ?_⟩ ?_
    · have hz2 := Option.some.inj hz
      cases hz2; clear hz
      exact vp_store_agg _ _ _ rfl hc rfl rfl (by kernel_rfl) rfl (by rfl)
    refine Seg.sa ?_
    refine Seg.stop (fun U3 hU hk => ?_)
    have nb3 := hge 3 _ _ rfl
    have rb3 := (hk 3 _ 4 rfl trivial).1.1 trivial _ (Nat.zero_le _) rfl
    clear hk hge hne
    generalize th (0 + 3) = p3_3 at *
    simp only [Ent.obj] at rb3
    replace r_p0_0 := held_after hU r_p0_0
    replace r_p0_1 := held_after hU r_p0_1
    have r_p3_3 := rb3
    clear rb3
    have n_p3_3 := nb3
    clear nb3
    have sz3 := hU.size
    replace hB := bthen hB hU
    clear hU
    go_upto_region 4 with (fail)
    apply wp_region_seg0 (w := U3) (S := [.q [], .q [], .q [], .q [], .al 5, .st 4 []]) (E := [.q0 _, .q0 _, .q0 _, .q0 _, .al ((fun p => .pointer (some ⟨p, 0, none⟩)), _) 5, .s0 4 (.cells _ _)]) rfl (by kernel_rfl) rfl rfl
    intro th hge hne
    refine Seg.sq ?_
    refine Seg.sq ?_ (ht := Or.inl ⟨by rfl, fun U hU => vp_quiet (by (have h0 := held_cell (held_after hU.1 r_p3_3) 0 _ rfl; have h1 := held_cell (held_after hU.1 r_p3_3) 1 _ rfl; have h2 := held_cell (held_after hU.1 r_p3_3) 2 _ rfl; have h3 := held_cell (held_after hU.1 r_p3_3) 3 _ rfl; go_simp <;> exact rfl))⟩)
    refine Seg.sq ?_ (ht := Or.inl ⟨by rfl, fun U hU => vp_quiet (by (have h0 := held_cell (held_after hU.1 r_p0_0) 0 _ rfl; have h1 := held_cell (held_after hU.1 r_p0_0) 1 _ rfl; have h2 := held_cell (held_after hU.1 r_p0_0) 2 _ rfl; go_simp <;> exact rfl))⟩)
    refine Seg.sq ?_
    refine Seg.step _ rfl ⟨by rfl, fun U hU => ?_⟩ ?_
    · go_simp; exact vp_alloc rfl rfl rfl
    refine Seg.sa ?_
    refine Seg.step _ rfl ⟨by rfl, fun U z k hz hU hc => ?_⟩ ?_
    · have hz2 := Option.some.inj hz
      cases hz2; clear hz
      exact vp_store_agg _ _ _ rfl hc rfl rfl (by kernel_rfl) rfl (by rfl)
    refine Seg.sa ?_
    refine Seg.stop (fun U4 hU hk => ?_)
    have nb4 := hge 4 _ _ rfl
    have rb4 := (hk 4 _ 5 rfl trivial).1.1 trivial _ (Nat.zero_le _) rfl
    clear hk hge hne
    generalize th (0 + 4) = p4_4 at *
    simp only [Ent.obj] at rb4
    replace r_p0_0 := held_after hU r_p0_0
    replace r_p0_1 := held_after hU r_p0_1
    replace r_p3_3 := held_after hU r_p3_3
    have r_p4_4 := rb4
    clear rb4
    have n_p4_4 := nb4
    clear nb4
    have sz4 := hU.size
    replace hB := bthen hB hU
    clear hU
    go_upto_region 5 with (fail)
    apply wp_region_seg0 (w := U4) (S := [.q [], .q [], .q []]) (E := [.q0 _, .c0 _, .q0 _]) rfl (by kernel_rfl) rfl rfl
    intro th hge hne
    refine Seg.sq ?_ (ht := Or.inl ⟨by rfl, fun U hU => vp_quiet (by (have h0 := held_cell (held_after hU.1 r_p0_1) 0 _ rfl; have h1 := held_cell (held_after hU.1 r_p0_1) 1 _ rfl; have h2 := held_cell (held_after hU.1 r_p0_1) 2 _ rfl; go_simp <;> exact rfl))⟩)
    refine Seg.step _ rfl (Or.inl ⟨by rfl, fun U hU => ?_⟩) ?_
    · go_simp
      refine vp_call (kL.out _)
    refine Seg.sa ?_
    refine Seg.sq ?_
    refine Seg.stop (fun U5 hU hk => ?_)
    clear hk hge hne
    replace r_p0_0 := held_after hU r_p0_0
    replace r_p0_1 := held_after hU r_p0_1
    replace r_p3_3 := held_after hU r_p3_3
    replace r_p4_4 := held_after hU r_p4_4
    have sz5 := hU.size
    replace hB := bthen hB hU
    clear hU
    go_upto_region 6 with (fail)
    apply wp_region_seg (w := U5) (S := [.q [], .q [], .q [], .q [], .q [], .q [], .q [], .q [], .q [], .q [], .q [], .q [], .q [], .q [], .q []]) (E := [.q0 _, .q0 _, .q0 _, .q0 _, .q0 _, .q0 _, .q0 _, .q0 _, .q0 _, .q0 _, .q0 _, .c0 _, .q0 _, .q0 _, .q0 _]) (by kernel_rfl) rfl (by kernel_rfl) rfl rfl
    intro th hge hne
    iterate 7 refine Seg.sq ?_
    refine Seg.sq ?_ (ht := Or.inl ⟨by rfl, fun U hU => vp_quiet (by (have h0 := held_cell (held_after hU.1 r_p3_3) 0 _ rfl; have h1 := held_cell (held_after hU.1 r_p3_3) 1 _ rfl; have h2 := held_cell (held_after hU.1 r_p3_3) 2 _ rfl; have h3 := held_cell (held_after hU.1 r_p3_3) 3 _ rfl; have h4 := held_cell (held_after hU.1 r_p3_3) 4 _ rfl; have h5 := held_cell (held_after hU.1 r_p3_3) 5 _ rfl; have h6 := held_cell (held_after hU.1 r_p3_3) 6 _ rfl; have h7 := held_cell (held_after hU.1 r_p3_3) 7 _ rfl; have h8 := held_cell (held_after hU.1 r_p3_3) 8 _ rfl; go_simp <;> exact rfl))⟩)
    refine Seg.sq ?_ (ht := Or.inl ⟨by rfl, fun U hU => vp_quiet (by (have h0 := held_cell (held_after hU.1 r_p0_0) 0 _ rfl; have h1 := held_cell (held_after hU.1 r_p0_0) 1 _ rfl; have h2 := held_cell (held_after hU.1 r_p0_0) 2 _ rfl; go_simp <;> exact rfl))⟩)
    refine Seg.sq ?_ (ht := Or.inl ⟨by rfl, fun U hU => vp_quiet (by (have h0 := held_cell (held_after hU.1 r_p0_1) 0 _ rfl; have h1 := held_cell (held_after hU.1 r_p0_1) 1 _ rfl; have h2 := held_cell (held_after hU.1 r_p0_1) 2 _ rfl; go_simp <;> exact rfl))⟩)
    refine Seg.sq ?_
    refine Seg.step _ rfl (Or.inl ⟨by rfl, fun U hU => ?_⟩) ?_
    · go_simp
      refine vp_call (k1.out _)
    refine Seg.sa ?_
    refine Seg.sq ?_ (ht := Or.inl ⟨by rfl, fun U hU => vp_quiet (by (have h0 := held_cell (held_after hU.1 r_p4_4) 0 _ rfl; have h1 := held_cell (held_after hU.1 r_p4_4) 1 _ rfl; have h2 := held_cell (held_after hU.1 r_p4_4) 2 _ rfl; have h3 := held_cell (held_after hU.1 r_p4_4) 3 _ rfl; have h4 := held_cell (held_after hU.1 r_p4_4) 4 _ rfl; have h5 := held_cell (held_after hU.1 r_p4_4) 5 _ rfl; have h6 := held_cell (held_after hU.1 r_p4_4) 6 _ rfl; have h7 := held_cell (held_after hU.1 r_p4_4) 7 _ rfl; have h8 := held_cell (held_after hU.1 r_p4_4) 8 _ rfl; go_simp <;> exact rfl))⟩)
    refine Seg.sq ?_
    refine Seg.sq ?_
    refine Seg.stop (fun U6 hU hk => ?_)
    clear hk hge hne
    replace r_p0_0 := held_after hU r_p0_0
    replace r_p0_1 := held_after hU r_p0_1
    replace r_p3_3 := held_after hU r_p3_3
    replace r_p4_4 := held_after hU r_p4_4
    have sz6 := hU.size
    replace hB := bthen hB hU
    clear hU
    go_upto_region 8 with (fail)
    apply wp_region_seg (w := U6) (S := [.q [], .q [], .q [], .q [], .q [], .q [], .q [], .q [], .q [], .q [], .q [], .q [], .q []]) (E := [.q0 _, .q0 _, .q0 _, .q0 _, .q0 _, .q0 _, .q0 _, .q0 _, .c0 _, .q0 _, .q0 _, .q0 _, .q0 _]) (by kernel_rfl) rfl (by kernel_rfl) rfl rfl
    intro th hge hne
    iterate 3 refine Seg.sq ?_
    refine Seg.sq ?_ (ht := Or.inl ⟨by rfl, fun U hU => vp_quiet (by (have h0 := held_cell (held_after hU.1 r_p3_3) 0 _ rfl; have h1 := held_cell (held_after hU.1 r_p3_3) 1 _ rfl; have h2 := held_cell (held_after hU.1 r_p3_3) 2 _ rfl; have h3 := held_cell (held_after hU.1 r_p3_3) 3 _ rfl; have h4 := held_cell (held_after hU.1 r_p3_3) 4 _ rfl; have h5 := held_cell (held_after hU.1 r_p3_3) 5 _ rfl; have h6 := held_cell (held_after hU.1 r_p3_3) 6 _ rfl; have h7 := held_cell (held_after hU.1 r_p3_3) 7 _ rfl; have h8 := held_cell (held_after hU.1 r_p3_3) 8 _ rfl; go_simp <;> exact rfl))⟩)
    refine Seg.sq ?_ (ht := Or.inl ⟨by rfl, fun U hU => vp_quiet (by (have h0 := held_cell (held_after hU.1 r_p0_0) 0 _ rfl; have h1 := held_cell (held_after hU.1 r_p0_0) 1 _ rfl; have h2 := held_cell (held_after hU.1 r_p0_0) 2 _ rfl; go_simp <;> exact rfl))⟩)
    iterate 3 refine Seg.sq ?_
    refine Seg.step _ rfl (Or.inl ⟨by rfl, fun U hU => ?_⟩) ?_
    · go_simp
      refine vp_call (k2.out _)
    refine Seg.sa ?_
    refine Seg.sq ?_ (ht := Or.inl ⟨by rfl, fun U hU => vp_quiet (by (have h0 := held_cell (held_after hU.1 r_p4_4) 0 _ rfl; have h1 := held_cell (held_after hU.1 r_p4_4) 1 _ rfl; have h2 := held_cell (held_after hU.1 r_p4_4) 2 _ rfl; have h3 := held_cell (held_after hU.1 r_p4_4) 3 _ rfl; have h4 := held_cell (held_after hU.1 r_p4_4) 4 _ rfl; have h5 := held_cell (held_after hU.1 r_p4_4) 5 _ rfl; have h6 := held_cell (held_after hU.1 r_p4_4) 6 _ rfl; have h7 := held_cell (held_after hU.1 r_p4_4) 7 _ rfl; have h8 := held_cell (held_after hU.1 r_p4_4) 8 _ rfl; go_simp <;> exact rfl))⟩)
    iterate 3 refine Seg.sq ?_
    refine Seg.stop (fun U7 hU hk => ?_)
    clear hk hge hne
    replace r_p0_0 := held_after hU r_p0_0
    replace r_p0_1 := held_after hU r_p0_1
    replace r_p3_3 := held_after hU r_p3_3
    replace r_p4_4 := held_after hU r_p4_4
    have sz7 := hU.size
    replace hB := bthen hB hU
    clear hU
    go_wp2_with fail
    go_ret
    exact ⟨rfl, hB⟩
  have e1 : decide ((L : Int) < 32768) = false := by simp; omega
  have e2 : decide ((98304 : Int) < (L : Int)) = false := by simp; omega
  have e3 : decide (a1 < 0) = false := by simpa using hu
  clear c0 c1 c2 c3 c4 c5 p0 p1 p2 s0 s1 s2 pu pd l0 l1 l2 one hErr hlo hu hhi
  go_enter Try.func4, Try.ntmps4
  go_upto_region 0 with (fail)
  apply wp_region_seg0 (w := W) (S := [.al 1000, .al 1000, .q []]) (E := [.al ((fun p => .pointer (some ⟨p, 0, none⟩)), _) 1000, .al ((fun p => .pointer (some ⟨p, 0, none⟩)), _) 1000, .q0 _]) rfl (by kernel_rfl) rfl rfl
  intro th hge hne
  refine Seg.step _ rfl ⟨by rfl, fun U hU => ?_⟩ ?_
  · go_simp; exact vp_alloc rfl rfl rfl
  refine Seg.sa ?_
  refine Seg.step _ rfl ⟨by rfl, fun U hU => ?_⟩ ?_
  · go_simp; exact vp_alloc rfl rfl rfl
  refine Seg.sa ?_
  refine Seg.sq ?_
  refine Seg.stop (fun U1 hU hk => ?_)
  have nb0 := hge 0 _ _ rfl
  have rb0 := (hk 0 _ _ rfl trivial).1.2 (by simp)
  have nb1 := hge 1 _ _ rfl
  have rb1 := (hk 1 _ _ rfl trivial).1.2 (by simp)
  have ne0_1 := hne 0 1 _ _ _ _ rfl rfl (by omega)
  clear hk hge hne
  generalize th (0 + 0) = p0_0 at *
  dsimp only at rb0
  generalize th (0 + 1) = p0_1 at *
  dsimp only at rb1
  have r_p0_0 := rb0
  clear rb0
  have n_p0_0 := nb0
  clear nb0
  have d_p0_0_p0_1 := ne0_1
  clear ne0_1
  have r_p0_1 := rb1
  clear rb1
  have n_p0_1 := nb1
  clear nb1
  have sz1 := hU.size
  have hB : Below W.heap.size W U1 := hU
  clear hU
  go_upto_region 1 with (fail)
  apply wp_region_seg0 (w := U1) (S := (.q [] :: .q [] :: .q [] :: .q [] :: .q [] :: .q [] :: .q [] :: .q [] :: .q [] :: .q [] :: .q [] :: .q [] :: .q [] :: .q [] :: .q [] :: .q [] :: .q [] :: .q [] :: .q [] :: .q [] :: .q [] :: .q [] :: .q [] :: .q [] :: .q [] :: .q [] :: .q [] :: .q [] :: .q [] :: .q [] :: .q [] :: .q [] :: [])) (E := (.q0 _ :: .q0 _ :: .q0 _ :: .q0 _ :: .q0 _ :: .q0 _ :: .q0 _ :: .q0 _ :: .q0 _ :: .q0 _ :: .q0 _ :: .q0 _ :: .q0 _ :: .q0 _ :: .q0 _ :: .q0 _ :: .q0 _ :: .q0 _ :: .q0 _ :: .q0 _ :: .q0 _ :: .q0 _ :: .q0 _ :: .q0 _ :: .q0 _ :: .q0 _ :: .q0 _ :: .q0 _ :: .q0 _ :: .c0 _ :: .q0 _ :: .q0 _ :: [])) rfl (by kernel_rfl) rfl rfl
  intro th hge hne
  refine Seg.sq ?_
  refine Seg.sq ?_ (ht := Or.inl ⟨by rfl, fun U hU => vp_quiet (by (have h0 := held_cell (held_after hU.1 r_p0_0) 0 _ rfl; go_simp <;> exact rfl))⟩)
  iterate 3 refine Seg.sq ?_
  refine Seg.sq ?_ (ht := Or.inl ⟨by rfl, fun U hU => vp_quiet (by (have h0 := held_cell (held_after hU.1 r_p0_0) 0 _ rfl; go_simp <;> exact rfl))⟩)
  iterate 4 refine Seg.sq ?_
  refine Seg.sq ?_ (ht := Or.inl ⟨by rfl, fun U hU => vp_quiet (by (have h0 := held_cell (held_after hU.1 r_p0_0) 1 _ rfl; go_simp <;> exact rfl))⟩)
  iterate 4 refine Seg.sq ?_
  refine Seg.sq ?_ (ht := Or.inl ⟨by rfl, fun U hU => vp_quiet (by (have h0 := held_cell (held_after hU.1 r_p0_0) 1 _ rfl; go_simp <;> exact rfl))⟩)
  iterate 4 refine Seg.sq ?_
  refine Seg.sq ?_ (ht := Or.inl ⟨by rfl, fun U hU => vp_quiet (by (have h0 := held_cell (held_after hU.1 r_p0_0) 2 _ rfl; go_simp <;> exact rfl))⟩)
  iterate 4 refine Seg.sq ?_
  refine Seg.sq ?_ (ht := Or.inl ⟨by rfl, fun U hU => vp_quiet (by (have h0 := held_cell (held_after hU.1 r_p0_0) 2 _ rfl; go_simp <;> exact rfl))⟩)
  iterate 3 refine Seg.sq ?_
  refine Seg.step _ rfl (Or.inl ⟨by rfl, fun U hU => ?_⟩) ?_
  · go_simp
    refine vp_call (knows42_any _)
  refine Seg.sa ?_
  refine Seg.sq ?_
  refine Seg.sq ?_
  refine Seg.stop (fun U2 hU hk => ?_)
  clear hk hge hne
  replace r_p0_0 := held_after hU r_p0_0
  replace r_p0_1 := held_after hU r_p0_1
  have sz2 := hU.size
  replace hB := bthen hB hU
  clear hU
  go_upto_region 3 with (fail)
  apply wp_region_seg (w := U2) (S := [.q [], .q [], .q [], .al 4, .st 3 []]) (E := [.c0 _, .q0 _, .q0 _, .al ((fun p => .pointer (some ⟨p, 0, none⟩)), _) 4, .s0 3 (.cells _ _)]) (by kernel_rfl) rfl (by kernel_rfl) rfl rfl
  intro th hge hne
  refine Seg.step _ rfl (Or.inl ⟨by rfl, fun U hU => ?_⟩) ?_
  · go_simp
    refine vp_call (rqone_any _)
  refine Seg.sa ?_
  refine Seg.sq ?_ (ht := Or.inl ⟨by rfl, fun U hU => vp_quiet (by (have h0 := held_cell (held_after hU.1 r_p0_0) 0 _ rfl; have h1 := held_cell (held_after hU.1 r_p0_0) 1 _ rfl; have h2 := held_cell (held_after hU.1 r_p0_0) 2 _ rfl; go_simp <;> exact rfl))⟩)
  refine Seg.sq ?_
  refine Seg.step _ rfl ⟨by rfl, fun U hU => ?_⟩ ?_
  · go_simp; exact vp_alloc rfl rfl rfl
  refine Seg.sa ?_
  refine Seg.step _ rfl ⟨by rfl, fun U z k hz hU hc => ?_⟩ ?_
  · have hz2 := Option.some.inj hz
    cases hz2; clear hz
    exact vp_store_agg _ _ _ rfl hc rfl rfl (by kernel_rfl) rfl (by rfl)
  refine Seg.sa ?_
  refine Seg.stop (fun U3 hU hk => ?_)
  have nb3 := hge 3 _ _ rfl
  have rb3 := (hk 3 _ 4 rfl trivial).1.1 trivial _ (Nat.zero_le _) rfl
  clear hk hge hne
  generalize th (0 + 3) = p3_3 at *
  simp only [Ent.obj] at rb3
  replace r_p0_0 := held_after hU r_p0_0
  replace r_p0_1 := held_after hU r_p0_1
  have r_p3_3 := rb3
  clear rb3
  have n_p3_3 := nb3
  clear nb3
  have sz3 := hU.size
  replace hB := bthen hB hU
  clear hU
  go_upto_region 4 with (fail)
  apply wp_region_seg0 (w := U3) (S := [.q [], .q [], .q [], .q [], .al 5, .st 4 []]) (E := [.q0 _, .q0 _, .q0 _, .q0 _, .al ((fun p => .pointer (some ⟨p, 0, none⟩)), _) 5, .s0 4 (.cells _ _)]) rfl (by kernel_rfl) rfl rfl
  intro th hge hne
  refine Seg.sq ?_
  refine Seg.sq ?_ (ht := Or.inl ⟨by rfl, fun U hU => vp_quiet (by (have h0 := held_cell (held_after hU.1 r_p3_3) 0 _ rfl; have h1 := held_cell (held_after hU.1 r_p3_3) 1 _ rfl; have h2 := held_cell (held_after hU.1 r_p3_3) 2 _ rfl; have h3 := held_cell (held_after hU.1 r_p3_3) 3 _ rfl; go_simp <;> exact rfl))⟩)
  refine Seg.sq ?_ (ht := Or.inl ⟨by rfl, fun U hU => vp_quiet (by (have h0 := held_cell (held_after hU.1 r_p0_0) 0 _ rfl; have h1 := held_cell (held_after hU.1 r_p0_0) 1 _ rfl; have h2 := held_cell (held_after hU.1 r_p0_0) 2 _ rfl; go_simp <;> exact rfl))⟩)
  refine Seg.sq ?_
  refine Seg.step _ rfl ⟨by rfl, fun U hU => ?_⟩ ?_
  · go_simp; exact vp_alloc rfl rfl rfl
  refine Seg.sa ?_
  refine Seg.step _ rfl ⟨by rfl, fun U z k hz hU hc => ?_⟩ ?_
  · have hz2 := Option.some.inj hz
    cases hz2; clear hz
    exact vp_store_agg _ _ _ rfl hc rfl rfl (by kernel_rfl) rfl (by rfl)
  refine Seg.sa ?_
  refine Seg.stop (fun U4 hU hk => ?_)
  have nb4 := hge 4 _ _ rfl
  have rb4 := (hk 4 _ 5 rfl trivial).1.1 trivial _ (Nat.zero_le _) rfl
  clear hk hge hne
  generalize th (0 + 4) = p4_4 at *
  simp only [Ent.obj] at rb4
  replace r_p0_0 := held_after hU r_p0_0
  replace r_p0_1 := held_after hU r_p0_1
  replace r_p3_3 := held_after hU r_p3_3
  have r_p4_4 := rb4
  clear rb4
  have n_p4_4 := nb4
  clear nb4
  have sz4 := hU.size
  replace hB := bthen hB hU
  clear hU
  go_upto_region 5 with (fail)
  apply wp_region_seg0 (w := U4) (S := [.q [], .q [], .q []]) (E := [.q0 _, .c0 _, .q0 _]) rfl (by kernel_rfl) rfl rfl
  intro th hge hne
  refine Seg.sq ?_ (ht := Or.inl ⟨by rfl, fun U hU => vp_quiet (by (have h0 := held_cell (held_after hU.1 r_p0_1) 0 _ rfl; have h1 := held_cell (held_after hU.1 r_p0_1) 1 _ rfl; have h2 := held_cell (held_after hU.1 r_p0_1) 2 _ rfl; go_simp <;> exact rfl))⟩)
  refine Seg.step _ rfl (Or.inl ⟨by rfl, fun U hU => ?_⟩) ?_
  · go_simp
    refine vp_call (kL.out _)
  refine Seg.sa ?_
  refine Seg.sq ?_
  refine Seg.stop (fun U5 hU hk => ?_)
  clear hk hge hne
  replace r_p0_0 := held_after hU r_p0_0
  replace r_p0_1 := held_after hU r_p0_1
  replace r_p3_3 := held_after hU r_p3_3
  replace r_p4_4 := held_after hU r_p4_4
  have sz5 := hU.size
  replace hB := bthen hB hU
  clear hU
  go_upto_region 6 with (fail)
  apply wp_region_seg (w := U5) (S := [.q [], .q [], .q [], .q [], .q [], .q [], .q [], .q [], .q [], .q [], .q [], .q [], .q [], .q [], .q []]) (E := [.q0 _, .q0 _, .q0 _, .q0 _, .q0 _, .q0 _, .q0 _, .q0 _, .q0 _, .q0 _, .q0 _, .c0 _, .q0 _, .q0 _, .q0 _]) (by kernel_rfl) rfl (by kernel_rfl) rfl rfl
  intro th hge hne
  iterate 7 refine Seg.sq ?_
  refine Seg.sq ?_ (ht := Or.inr ⟨by rfl, rfl⟩)
  refine Seg.sq ?_ (ht := Or.inr ⟨by rfl, rfl⟩)
  refine Seg.sq ?_ (ht := Or.inr ⟨by rfl, rfl⟩)
  refine Seg.sq ?_ (ht := Or.inr ⟨by rfl, rfl⟩)
  refine Seg.sq ?_ (ht := Or.inr ⟨by rfl, rfl⟩)
  refine Seg.sq ?_ (ht := Or.inr ⟨by rfl, rfl⟩)
  refine Seg.sq ?_ (ht := Or.inr ⟨by rfl, rfl⟩)
  refine Seg.sq ?_
  refine Seg.stop (fun U6 hU hk => ?_)
  clear hk hge hne
  replace r_p0_0 := held_after hU r_p0_0
  replace r_p0_1 := held_after hU r_p0_1
  replace r_p3_3 := held_after hU r_p3_3
  replace r_p4_4 := held_after hU r_p4_4
  have sz6 := hU.size
  replace hB := bthen hB hU
  clear hU
  go_upto_region 8 with (fail)
  apply wp_region_seg (w := U6) (S := [.q [], .q [], .q [], .q [], .q [], .q [], .q [], .q [], .q [], .q [], .q [], .q [], .q []]) (E := [.q0 _, .q0 _, .q0 _, .q0 _, .q0 _, .q0 _, .q0 _, .q0 _, .c0 _, .q0 _, .q0 _, .q0 _, .q0 _]) (by kernel_rfl) rfl (by kernel_rfl) rfl rfl
  intro th hge hne
  iterate 3 refine Seg.sq ?_
  refine Seg.sq ?_ (ht := Or.inl ⟨by rfl, fun U hU => vp_quiet (by (have h0 := held_cell (held_after hU.1 r_p3_3) 0 _ rfl; have h1 := held_cell (held_after hU.1 r_p3_3) 1 _ rfl; have h2 := held_cell (held_after hU.1 r_p3_3) 2 _ rfl; have h3 := held_cell (held_after hU.1 r_p3_3) 3 _ rfl; have h4 := held_cell (held_after hU.1 r_p3_3) 4 _ rfl; have h5 := held_cell (held_after hU.1 r_p3_3) 5 _ rfl; have h6 := held_cell (held_after hU.1 r_p3_3) 6 _ rfl; have h7 := held_cell (held_after hU.1 r_p3_3) 7 _ rfl; have h8 := held_cell (held_after hU.1 r_p3_3) 8 _ rfl; go_simp <;> exact rfl))⟩)
  refine Seg.sq ?_ (ht := Or.inl ⟨by rfl, fun U hU => vp_quiet (by (have h0 := held_cell (held_after hU.1 r_p0_0) 0 _ rfl; have h1 := held_cell (held_after hU.1 r_p0_0) 1 _ rfl; have h2 := held_cell (held_after hU.1 r_p0_0) 2 _ rfl; go_simp <;> exact rfl))⟩)
  iterate 3 refine Seg.sq ?_
  refine Seg.step _ rfl (Or.inl ⟨by rfl, fun U hU => ?_⟩) ?_
  · go_simp
    refine vp_call (k2.out _)
  refine Seg.sa ?_
  refine Seg.sq ?_ (ht := Or.inl ⟨by rfl, fun U hU => vp_quiet (by (have h0 := held_cell (held_after hU.1 r_p4_4) 0 _ rfl; have h1 := held_cell (held_after hU.1 r_p4_4) 1 _ rfl; have h2 := held_cell (held_after hU.1 r_p4_4) 2 _ rfl; have h3 := held_cell (held_after hU.1 r_p4_4) 3 _ rfl; have h4 := held_cell (held_after hU.1 r_p4_4) 4 _ rfl; have h5 := held_cell (held_after hU.1 r_p4_4) 5 _ rfl; have h6 := held_cell (held_after hU.1 r_p4_4) 6 _ rfl; have h7 := held_cell (held_after hU.1 r_p4_4) 7 _ rfl; have h8 := held_cell (held_after hU.1 r_p4_4) 8 _ rfl; go_simp <;> exact rfl))⟩)
  iterate 3 refine Seg.sq ?_
  refine Seg.stop (fun U7 hU hk => ?_)
  clear hk hge hne
  replace r_p0_0 := held_after hU r_p0_0
  replace r_p0_1 := held_after hU r_p0_1
  replace r_p3_3 := held_after hU r_p3_3
  replace r_p4_4 := held_after hU r_p4_4
  have sz7 := hU.size
  replace hB := bthen hB hU
  clear hU
  go_wp2_with fail
  go_ret
  exact ⟨rfl, hB⟩
end Go.Proofs.Ytpdpcdifnlellaa
