/- The papers' Step. -/
import Derived.Test.YtpdpcdifnlellaaGreatTurn12
import Derived.Deep.DeepCutAuto
namespace Go.Proofs.YtpdpcdifnlellaaGreat
open Go.ChangeShapes Go.WideShapes Go.ChangeAt Go.RowKit
set_option maxRecDepth 100000
set_option linter.unusedVariables false

set_option maxRecDepth 100000 in
set_option maxHeartbeats 8000000 in
theorem rstep_any (x y z t a b c d : Int) (w : World) (p0 : B32 x) (p1 : B32 y) (p2 : B32 z) (p3 : B32 t) (p4 : B32 a) (p5 : B32 b) (p6 : B32 c) (p7 : B32 d) (m0 m1 m2 m3 n : Int) (hM : mulV x y z t 1073741824 (clampS (roundS (a * d) 3)) (clampS (roundS (b * d) 3)) (clampS (roundS (c * d) 3)) = .tuple #[.agg #[.int .i32 m0, .int .i32 m1, .int .i32 m2, .int .i32 m3], .int .i64 n]) (b0 : B32 m0) (b1 : B32 m1) (b2 : B32 m2) (b3 : B32 m3) (hn : 0 ≤ n ∧ n ≤ 4) (u0 u1 u2 u3 : Int) (ok : Bool) (hU : unitT4 m0 m1 m2 m3 = .tuple #[.agg #[.int .i32 u0, .int .i32 u1, .int .i32 u2, .int .i32 u3], .bool ok]) :
    Calls Tryz.prog 37 #[.agg #[.int .i32 x, .int .i32 y, .int .i32 z, .int .i32 t], .agg #[.int .i32 a, .int .i32 b, .int .i32 c], .int .i32 d] w fun e w' => e = .returned (stepR ok u0 u1 u2 u3 (n + (oneIf (clampB (roundS (a * d) 3)) + oneIf (clampB (roundS (b * d) 3)) + oneIf (clampB (roundS (c * d) 3))))) ∧ Below w.heap.size w w' := by
  have q0 := clampS_bd13 (roundS (a * d) 3)
  have e0 := oneIf_b (clampB (roundS (a * d) 3))
  have q1 := clampS_bd13 (roundS (b * d) 3)
  have e1 := oneIf_b (clampB (roundS (b * d) 3))
  have q2 := clampS_bd13 (roundS (c * d) 3)
  have e2 := oneIf_b (clampB (roundS (c * d) 3))
  have r0 := rnd3_bd a d p4 p7
  obtain ⟨l0, h0⟩ := mul_bd a d p4.1 p4.2 p7.1 p7.2
  have fm0 : IntKind.i64.wrap (a * d) = a * d := by rw [IntKind.wrap_i64]; omega
  have fa0 : IntKind.i64.wrap a = a := by have := p4.1; have := p4.2; rw [IntKind.wrap_i64]; omega
  have c0 := hid (fun (v : World) => rround_any (a * d) 3 v (by omega) (by omega))
  have r1 := rnd3_bd b d p5 p7
  obtain ⟨l1, h1⟩ := mul_bd b d p5.1 p5.2 p7.1 p7.2
  have fm1 : IntKind.i64.wrap (b * d) = b * d := by rw [IntKind.wrap_i64]; omega
  have fa1 : IntKind.i64.wrap b = b := by have := p5.1; have := p5.2; rw [IntKind.wrap_i64]; omega
  have c1 := hid (fun (v : World) => rround_any (b * d) 3 v (by omega) (by omega))
  have r2 := rnd3_bd c d p6 p7
  obtain ⟨l2, h2⟩ := mul_bd c d p6.1 p6.2 p7.1 p7.2
  have fm2 : IntKind.i64.wrap (c * d) = c * d := by rw [IntKind.wrap_i64]; omega
  have fa2 : IntKind.i64.wrap c = c := by have := p6.1; have := p6.2; rw [IntKind.wrap_i64]; omega
  have c2 := hid (fun (v : World) => rround_any (c * d) 3 v (by omega) (by omega))
  have fd : IntKind.i64.wrap d = d := by have := p7.1; have := p7.2; rw [IntKind.wrap_i64]; omega
  have kC := hid (fun (v : World) => cutE (roundS (a * d) 3) (roundS (b * d) 3) (roundS (c * d) 3) ▸ cut_any (roundS (a * d) 3) (roundS (b * d) 3) (roundS (c * d) 3) v r0 r1 r2)
  have kM := hid (fun (v : World) => hM ▸ rqmul_any x y z t 1073741824 (clampS (roundS (a * d) 3)) (clampS (roundS (b * d) 3)) (clampS (roundS (c * d) 3)) v p0 p1 p2 p3 (by unfold B32; omega) q0 q1 q2)
  have kU := hid (fun (v : World) => hU ▸ rumake_any m0 m1 m2 m3 v b0 b1 b2 b3)
  clear hM hU q0 q1 q2 p0 p1 p2 p3 p4 p5 p6 p7 b0 b1 b2 b3 r0 r1 r2 l0 l1 l2 h0 h1 h2
  generalize clampS (roundS (a * d) 3) = s0 at *
  generalize oneIf (clampB (roundS (a * d) 3)) = o0 at *
  generalize clampS (roundS (b * d) 3) = s1 at *
  generalize oneIf (clampB (roundS (b * d) 3)) = o1 at *
  generalize clampS (roundS (c * d) 3) = s2 at *
  generalize oneIf (clampB (roundS (c * d) 3)) = o2 at *
  generalize roundS (a * d) 3 = R0 at *
  generalize roundS (b * d) 3 = R1 at *
  generalize roundS (c * d) 3 = R2 at *
  have ez : n + (o0 + o1 + o2) = o0 + o1 + o2 + n := by omega
  rw [ez]
  clear ez
  have f1 : IntKind.i64.wrap (o0 + o1 + o2 + n) = o0 + o1 + o2 + n := by rw [IntKind.wrap_i64]; omega
  have f2 : IntKind.i64.wrap (o0 + o1 + o2 + n + 1) = o0 + o1 + o2 + n + 1 := by rw [IntKind.wrap_i64]; omega
  go_enter Tryz.func37, Tryz.ntmps37
  go_upto_region 0 with (fail)
  apply wp_region_seg0 (w := w) (S := [.al 1000, .al 1000, .al 1000, .q []]) (E := [.al ((fun p => .pointer (some ⟨p, 0, none⟩)), _) 1000, .al ((fun p => .pointer (some ⟨p, 0, none⟩)), _) 1000, .al ((fun p => .pointer (some ⟨p, 0, none⟩)), _) 1000, .q0 _]) rfl (by kernel_rfl) rfl rfl
  intro th hge hne
  refine Seg.step _ rfl ⟨by rfl, fun U hU => ?_⟩ ?_
  · go_simp; exact vp_alloc rfl rfl rfl
  refine Seg.sa ?_
  refine Seg.step _ rfl ⟨by rfl, fun U hU => ?_⟩ ?_
  · go_simp; exact vp_alloc rfl rfl rfl
  refine Seg.sa ?_
  refine Seg.step _ rfl ⟨by rfl, fun U hU => ?_⟩ ?_
  · go_simp; exact vp_alloc rfl rfl rfl
  refine Seg.sa ?_
  refine Seg.sq ?_
  refine Seg.stop (fun U1 hU hk => ?_)
  have nb0 := hge 0 _ _ rfl
  have rb0 := (hk 0 _ _ rfl trivial).1.2 (by simp)
  have nb1 := hge 1 _ _ rfl
  have rb1 := (hk 1 _ _ rfl trivial).1.2 (by simp)
  have nb2 := hge 2 _ _ rfl
  have rb2 := (hk 2 _ _ rfl trivial).1.2 (by simp)
  have ne0_1 := hne 0 1 _ _ _ _ rfl rfl (by omega)
  have ne0_2 := hne 0 2 _ _ _ _ rfl rfl (by omega)
  have ne1_2 := hne 1 2 _ _ _ _ rfl rfl (by omega)
  clear hk hge hne
  generalize th (0 + 0) = p0_0 at *
  dsimp only at rb0
  generalize th (0 + 1) = p0_1 at *
  dsimp only at rb1
  generalize th (0 + 2) = p0_2 at *
  dsimp only at rb2
  have r_p0_0 := rb0
  clear rb0
  have n_p0_0 := nb0
  clear nb0
  have d_p0_0_p0_1 := ne0_1
  clear ne0_1
  have d_p0_0_p0_2 := ne0_2
  clear ne0_2
  have r_p0_1 := rb1
  clear rb1
  have n_p0_1 := nb1
  clear nb1
  have d_p0_1_p0_2 := ne1_2
  clear ne1_2
  have r_p0_2 := rb2
  clear rb2
  have n_p0_2 := nb2
  clear nb2
  have sz1 := hU.size
  have hB : Below w.heap.size w U1 := hU
  clear hU
  go_upto_region 2 with (fail)
  apply wp_region_seg (w := U1) (S := [.q [], .q [], .q [], .q [], .q [], .q [], .q [], .q [], .q [], .q [], .q [], .q [], .q [], .q [], .q [], .q [], .q [], .q [], .q [], .q [], .q [], .q [], .al 23, .st 22 [], .q []]) (E := [.q0 _, .q0 _, .q0 _, .q0 _, .q0 _, .c0 _, .q0 _, .q0 _, .q0 _, .q0 _, .q0 _, .c0 _, .q0 _, .q0 _, .q0 _, .q0 _, .q0 _, .c0 _, .c0 _, .q0 _, .q0 _, .q0 _, .al ((fun p => .pointer (some ⟨p, 0, none⟩)), _) 23, .s0 22 (.cells _ _), .q0 _]) (by kernel_rfl) rfl (by kernel_rfl) rfl rfl
  intro th hge hne
  refine Seg.sq ?_
  refine Seg.sq ?_ (ht := Or.inl ⟨by rfl, fun U hU => vp_quiet (by (have h0 := held_cell (held_after hU.1 r_p0_1) 0 _ rfl; go_simp <;> exact rfl))⟩)
  iterate 3 refine Seg.sq ?_
  refine Seg.step _ rfl (Or.inl ⟨by rfl, fun U hU => ?_⟩) ?_
  · go_simp
    refine vp_calls (c0.out _)
  refine Seg.sa ?_
  refine Seg.sq ?_
  refine Seg.sq ?_ (ht := Or.inl ⟨by rfl, fun U hU => vp_quiet (by (have h0 := held_cell (held_after hU.1 r_p0_1) 1 _ rfl; go_simp <;> exact rfl))⟩)
  iterate 3 refine Seg.sq ?_
  refine Seg.step _ rfl (Or.inl ⟨by rfl, fun U hU => ?_⟩) ?_
  · go_simp
    refine vp_calls (c1.out _)
  refine Seg.sa ?_
  refine Seg.sq ?_
  refine Seg.sq ?_ (ht := Or.inl ⟨by rfl, fun U hU => vp_quiet (by (have h0 := held_cell (held_after hU.1 r_p0_1) 2 _ rfl; go_simp <;> exact rfl))⟩)
  iterate 3 refine Seg.sq ?_
  refine Seg.step _ rfl (Or.inl ⟨by rfl, fun U hU => ?_⟩) ?_
  · go_simp
    refine vp_calls (c2.out _)
  refine Seg.sa ?_
  refine Seg.step _ rfl (Or.inl ⟨by rfl, fun U hU => ?_⟩) ?_
  · go_simp
    refine vp_call (kC.out _)
  refine Seg.sa ?_
  iterate 3 refine Seg.sq ?_
  refine Seg.step _ rfl ⟨by rfl, fun U hU => ?_⟩ ?_
  · go_simp; exact vp_alloc rfl rfl rfl
  refine Seg.sa ?_
  refine Seg.step _ rfl ⟨by rfl, fun U z k hz hU hc => ?_⟩ ?_
  · have hz2 := Option.some.inj hz
    cases hz2; clear hz
    exact vp_store_agg _ _ _ rfl hc rfl rfl (by kernel_rfl) rfl (by rfl)
  refine Seg.sa ?_
  refine Seg.sq ?_
  refine Seg.stop (fun U2 hU hk => ?_)
  have nb22 := hge 22 _ _ rfl
  have rb22 := (hk 22 _ 23 rfl trivial).1.1 trivial _ (Nat.zero_le _) rfl
  clear hk hge hne
  generalize th (0 + 22) = p2_22 at *
  simp only [Ent.obj] at rb22
  have df_p0_0_p2_22 : p0_0 ≠ p2_22 := by have := held_lt r_p0_0; omega
  have df_p0_1_p2_22 : p0_1 ≠ p2_22 := by have := held_lt r_p0_1; omega
  have df_p0_2_p2_22 : p0_2 ≠ p2_22 := by have := held_lt r_p0_2; omega
  replace r_p0_0 := held_after hU r_p0_0
  replace r_p0_1 := held_after hU r_p0_1
  replace r_p0_2 := held_after hU r_p0_2
  have r_p2_22 := rb22
  clear rb22
  have n_p2_22 := nb22
  clear nb22
  have sz2 := hU.size
  replace hB := bthen hB hU
  clear hU
  go_upto_region 3 with (fail)
  apply wp_region_seg0 (w := U2) (S := [.q [], .q [], .q [], .q [], .q [], .q [], .q [], .q [], .q [], .q [], .q [], .q [], .al 13, .st 12 [], .q []]) (E := [.q0 _, .q0 _, .q0 _, .q0 _, .q0 _, .q0 _, .q0 _, .q0 _, .c0 _, .q0 _, .q0 _, .q0 _, .al ((fun p => .pointer (some ⟨p, 0, none⟩)), _) 13, .s0 12 (.cells _ _), .q0 _]) rfl (by kernel_rfl) rfl rfl
  intro th hge hne
  refine Seg.sq ?_ (ht := Or.inl ⟨by rfl, fun U hU => vp_quiet (by (have h0 := held_cell (held_after hU.1 r_p0_0) 0 _ rfl; have h1 := held_cell (held_after hU.1 r_p0_0) 1 _ rfl; have h2 := held_cell (held_after hU.1 r_p0_0) 2 _ rfl; have h3 := held_cell (held_after hU.1 r_p0_0) 3 _ rfl; go_simp <;> exact rfl))⟩)
  refine Seg.sq ?_
  refine Seg.sq ?_ (ht := Or.inl ⟨by rfl, fun U hU => vp_quiet (by (have h0 := held_cell (held_after hU.1 r_p2_22) 0 _ rfl; go_simp <;> exact rfl))⟩)
  refine Seg.sq ?_
  refine Seg.sq ?_ (ht := Or.inl ⟨by rfl, fun U hU => vp_quiet (by (have h0 := held_cell (held_after hU.1 r_p2_22) 1 _ rfl; go_simp <;> exact rfl))⟩)
  refine Seg.sq ?_
  refine Seg.sq ?_ (ht := Or.inl ⟨by rfl, fun U hU => vp_quiet (by (have h0 := held_cell (held_after hU.1 r_p2_22) 2 _ rfl; go_simp <;> exact rfl))⟩)
  refine Seg.sq ?_
  refine Seg.step _ rfl (Or.inl ⟨by rfl, fun U hU => ?_⟩) ?_
  · go_simp
    refine vp_call (kM.out _)
  refine Seg.sa ?_
  iterate 3 refine Seg.sq ?_
  refine Seg.step _ rfl ⟨by rfl, fun U hU => ?_⟩ ?_
  · go_simp; exact vp_alloc rfl rfl rfl
  refine Seg.sa ?_
  refine Seg.step _ rfl ⟨by rfl, fun U z k hz hU hc => ?_⟩ ?_
  · have hz2 := Option.some.inj hz
    cases hz2; clear hz
    exact vp_store_agg _ _ _ rfl hc rfl rfl (by kernel_rfl) rfl (by rfl)
  refine Seg.sa ?_
  refine Seg.sq ?_
  refine Seg.stop (fun U3 hU hk => ?_)
  have nb12 := hge 12 _ _ rfl
  have rb12 := (hk 12 _ 13 rfl trivial).1.1 trivial _ (Nat.zero_le _) rfl
  clear hk hge hne
  generalize th (0 + 12) = p3_12 at *
  simp only [Ent.obj] at rb12
  have df_p0_0_p3_12 : p0_0 ≠ p3_12 := by have := held_lt r_p0_0; omega
  have df_p0_1_p3_12 : p0_1 ≠ p3_12 := by have := held_lt r_p0_1; omega
  have df_p0_2_p3_12 : p0_2 ≠ p3_12 := by have := held_lt r_p0_2; omega
  have df_p2_22_p3_12 : p2_22 ≠ p3_12 := by have := held_lt r_p2_22; omega
  replace r_p0_0 := held_after hU r_p0_0
  replace r_p0_1 := held_after hU r_p0_1
  replace r_p0_2 := held_after hU r_p0_2
  replace r_p2_22 := held_after hU r_p2_22
  have r_p3_12 := rb12
  clear rb12
  have n_p3_12 := nb12
  clear nb12
  have sz3 := hU.size
  replace hB := bthen hB hU
  clear hU
  go_upto_region 4 with (fail)
  apply wp_region_seg0 (w := U3) (S := [.q [], .q [], .q [], .q [], .q [], .al 6, .st 5 [], .q []]) (E := [.q0 _, .c0 _, .q0 _, .q0 _, .q0 _, .al ((fun p => .pointer (some ⟨p, 0, none⟩)), _) 6, .s0 5 (.cells _ _), .q0 _]) rfl (by kernel_rfl) rfl rfl
  intro th hge hne
  refine Seg.sq ?_ (ht := Or.inl ⟨by rfl, fun U hU => vp_quiet (by (have h0 := held_cell (held_after hU.1 r_p3_12) 0 _ rfl; have h1 := held_cell (held_after hU.1 r_p3_12) 1 _ rfl; have h2 := held_cell (held_after hU.1 r_p3_12) 2 _ rfl; have h3 := held_cell (held_after hU.1 r_p3_12) 3 _ rfl; go_simp <;> exact rfl))⟩)
  refine Seg.step _ rfl (Or.inl ⟨by rfl, fun U hU => ?_⟩) ?_
  · go_simp
    refine vp_call (kU.out _)
  refine Seg.sa ?_
  iterate 3 refine Seg.sq ?_
  refine Seg.step _ rfl ⟨by rfl, fun U hU => ?_⟩ ?_
  · go_simp; exact vp_alloc rfl rfl rfl
  refine Seg.sa ?_
  refine Seg.step _ rfl ⟨by rfl, fun U z k hz hU hc => ?_⟩ ?_
  · have hz2 := Option.some.inj hz
    cases hz2; clear hz
    exact vp_store_agg _ _ _ rfl hc rfl rfl (by kernel_rfl) rfl (by rfl)
  refine Seg.sa ?_
  refine Seg.sq ?_
  refine Seg.stop (fun U4 hU hk => ?_)
  have nb5 := hge 5 _ _ rfl
  have rb5 := (hk 5 _ 6 rfl trivial).1.1 trivial _ (Nat.zero_le _) rfl
  clear hk hge hne
  generalize th (0 + 5) = p4_5 at *
  simp only [Ent.obj] at rb5
  have df_p0_0_p4_5 : p0_0 ≠ p4_5 := by have := held_lt r_p0_0; omega
  have df_p0_1_p4_5 : p0_1 ≠ p4_5 := by have := held_lt r_p0_1; omega
  have df_p0_2_p4_5 : p0_2 ≠ p4_5 := by have := held_lt r_p0_2; omega
  have df_p2_22_p4_5 : p2_22 ≠ p4_5 := by have := held_lt r_p2_22; omega
  have df_p3_12_p4_5 : p3_12 ≠ p4_5 := by have := held_lt r_p3_12; omega
  replace r_p0_0 := held_after hU r_p0_0
  replace r_p0_1 := held_after hU r_p0_1
  replace r_p0_2 := held_after hU r_p0_2
  replace r_p2_22 := held_after hU r_p2_22
  replace r_p3_12 := held_after hU r_p3_12
  have r_p4_5 := rb5
  clear rb5
  have n_p4_5 := nb5
  clear nb5
  have sz4 := hU.size
  replace hB := bthen hB hU
  clear hU
  go_upto_region 5 with (fail)
  have y0 := held_cell r_p4_5 0 _ rfl
  have y1 := held_cell r_p4_5 1 _ rfl
  have y2 := held_cell r_p4_5 2 _ rfl
  have y3 := held_cell r_p4_5 3 _ rfl
  cases ok
  case false =>
    go_wp2_with fail
    refine (rqone_any _).mono ?_
    rintro e V ⟨rfl, hst⟩
    have hB3 := bthen hB hst
    have r9 := held_below r_p0_2 hst
    have z0 := held_cell r9 0 _ rfl
    have g0 := held_free r9 0
    have z1 := held_cell r9 1 _ rfl
    have g1 := held_free r9 1
    have z2 := held_cell r9 2 _ rfl
    have g2 := held_free r9 2
    have z3 := held_cell r9 3 _ rfl
    have g3 := held_free r9 3
    obtain ⟨W5, hW5, x0, x1, x2, x3, xO⟩ := four_set (u0 := .int .i32 1073741824) (u1 := .int .i32 0) (u2 := .int .i32 0) (u3 := .int .i32 0) r9
    have hB5 := hid (belowO hB3 xO n_p0_2)
    clear xO hB hB3 hst
    go_wp2_with fail
    refine bodyPost_ret (v := .tuple #[.agg #[.int .i32 1073741824, .int .i32 0, .int .i32 0, .int .i32 0], .int .i64 (o0 + o1 + o2 + n + 1)]) (by simp [results, Tryz.results37, go_sem, x0, x1, x2, x3]) rfl ⟨rfl, hB5.out⟩
  case true =>
    have z0 := held_cell r_p0_2 0 _ rfl
    have g0 := held_free r_p0_2 0
    have z1 := held_cell r_p0_2 1 _ rfl
    have g1 := held_free r_p0_2 1
    have z2 := held_cell r_p0_2 2 _ rfl
    have g2 := held_free r_p0_2 2
    have z3 := held_cell r_p0_2 3 _ rfl
    have g3 := held_free r_p0_2 3
    obtain ⟨W5, hW5, x0, x1, x2, x3, xO⟩ := four_set (u0 := .int .i32 u0) (u1 := .int .i32 u1) (u2 := .int .i32 u2) (u3 := .int .i32 u3) r_p0_2
    have hB5 := hid (belowO hB xO n_p0_2)
    clear xO hB
    go_wp2_with fail
    refine bodyPost_ret (v := .tuple #[.agg #[.int .i32 u0, .int .i32 u1, .int .i32 u2, .int .i32 u3], .int .i64 (o0 + o1 + o2 + n)]) (by simp [results, Tryz.results37, go_sem, x0, x1, x2, x3]) rfl ⟨rfl, hB5.out⟩

end Go.Proofs.YtpdpcdifnlellaaGreat
