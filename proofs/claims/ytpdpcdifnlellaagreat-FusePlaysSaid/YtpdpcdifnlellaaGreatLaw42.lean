/- The law FuseTells, walked. -/
import Derived.Test.YtpdpcdifnlellaaGreatFZ5
import Derived.Test.YtpdpcdifnlellaaGreatFZ6
import Derived.Laws.StructEq
import Derived.Deep.DeepCutAuto
namespace Go.Proofs.YtpdpcdifnlellaaGreat
open Go.ChangeShapes Go.WideShapes Go.ChangeAt Go.RowKit
set_option maxRecDepth 100000
set_option linter.unusedVariables false
set_option linter.unusedSimpArgs false

set_option maxHeartbeats 4000000 in
theorem own_any42 (q0 q1 q2 q3 b0 b1 b2 st cu : Int) (w : World) : Calls Tryz.prog 9 #[.agg #[.int .i32 q0, .int .i32 q1, .int .i32 q2, .int .i32 q3, .int .i32 b0, .int .i32 b1, .int .i32 b2, .int .i64 st, .int .i64 cu]] w fun e w' => e = .returned (.agg #[.int .i32 q0, .int .i32 q1, .int .i32 q2, .int .i32 q3, .int .i32 b0, .int .i32 b1, .int .i32 b2, .int .i64 st, .int .i64 cu]) ∧ Below w.heap.size w w' := by
  go_enter Tryz.func9, Tryz.ntmps9
  go_upto_region 0 with (fail)
  apply wp_region_seg0 (w := w) (S := [.al 1000, .al 1000]) (E := [.al ((fun p => .pointer (some ⟨p, 0, none⟩)), _) 1000, .al ((fun p => .pointer (some ⟨p, 0, none⟩)), _) 1000]) rfl (by kernel_rfl) rfl rfl
  intro th hge hne
  refine Seg.step _ rfl ⟨by rfl, fun U hU => ?_⟩ ?_
  · go_simp; exact vp_alloc rfl rfl rfl
  refine Seg.sa ?_
  refine Seg.step _ rfl ⟨by rfl, fun U hU => ?_⟩ ?_
  · go_simp; exact vp_alloc rfl rfl rfl
  refine Seg.sa ?_
  refine Seg.stop (fun U1 hU hk => ?_)
  have nb0 := hge 0 _ _ rfl
  have rb0 := (hk 0 _ _ rfl trivial).1.2 (by simp)
  have nb1 := hge 1 _ _ rfl
  have rb1 := (hk 1 _ _ rfl trivial).1.2 (by simp)
  have ne0_1 := hne 0 1 _ _ _ _ rfl rfl (by omega)
  clear hk hge hne
  generalize th (0 + 0) = p0_0 at *
  dsimp only at rb0
  generalize th (0 + 1) = p0_1 at *
  dsimp only at rb1
  have r_p0_0 := rb0
  clear rb0
  have n_p0_0 := nb0
  clear nb0
  have d_p0_0_p0_1 := ne0_1
  clear ne0_1
  have r_p0_1 := rb1
  clear rb1
  have n_p0_1 := nb1
  clear nb1
  have sz1 := hU.size
  have hB : Below w.heap.size w U1 := hU
  clear hU
  have x0 := held_cell r_p0_0 0 _ rfl
  have x1 := held_cell r_p0_0 1 _ rfl
  have x2 := held_cell r_p0_0 2 _ rfl
  have x3 := held_cell r_p0_0 3 _ rfl
  have x4 := held_cell r_p0_0 4 _ rfl
  have x5 := held_cell r_p0_0 5 _ rfl
  have x6 := held_cell r_p0_0 6 _ rfl
  have x7 := held_cell r_p0_0 7 _ rfl
  have x8 := held_cell r_p0_0 8 _ rfl
  have z0 := held_cell r_p0_1 0 _ rfl
  have z1 := held_cell r_p0_1 1 _ rfl
  have z2 := held_cell r_p0_1 2 _ rfl
  have z3 := held_cell r_p0_1 3 _ rfl
  have z4 := held_cell r_p0_1 4 _ rfl
  have z5 := held_cell r_p0_1 5 _ rfl
  have z6 := held_cell r_p0_1 6 _ rfl
  have z7 := held_cell r_p0_1 7 _ rfl
  have z8 := held_cell r_p0_1 8 _ rfl
  have f0 := held_free r_p0_1 0
  have f1 := held_free r_p0_1 1
  have f2 := held_free r_p0_1 2
  have f3 := held_free r_p0_1 3
  have f4 := held_free r_p0_1 4
  have f5 := held_free r_p0_1 5
  have f6 := held_free r_p0_1 6
  have f7 := held_free r_p0_1 7
  have f8 := held_free r_p0_1 8
  obtain ⟨W9, hW9, y9, o9⟩ := st9 r_p0_1 (.int .i32 q0) (.int .i32 q1) (.int .i32 q2) (.int .i32 q3) (.int .i32 b0) (.int .i32 b1) (.int .i32 b2) (.int .i64 st) (.int .i64 cu)
  have hB9 := hid (belowS hB o9 (by omega))
  have ez0 := held_cell y9 0 _ rfl
  have ez1 := held_cell y9 1 _ rfl
  have ez2 := held_cell y9 2 _ rfl
  have ez3 := held_cell y9 3 _ rfl
  have ez4 := held_cell y9 4 _ rfl
  have ez5 := held_cell y9 5 _ rfl
  have ez6 := held_cell y9 6 _ rfl
  have ez7 := held_cell y9 7 _ rfl
  have ez8 := held_cell y9 8 _ rfl
  clear o9 y9 hB r_p0_0 r_p0_1
  go_wp2_with fail
  refine bodyPost_ret (v := .agg #[.int .i32 q0, .int .i32 q1, .int .i32 q2, .int .i32 q3, .int .i32 b0, .int .i32 b1, .int .i32 b2, .int .i64 st, .int .i64 cu]) (by simp [results, Tryz.results9, go_sem, ez0, ez1, ez2, ez3, ez4, ez5, ez6, ez7, ez8]) rfl ⟨rfl, hB9.out⟩
theorem eqB10 (b0 b1 b2 : Int) (w : World) : (Op.equalIn 10000 25 (.agg #[.int .i32 b0, .int .i32 b1, .int .i32 b2]) (.agg #[.int .i32 b0, .int .i32 b1, .int .i32 b2])).run Tryz.prog w = .ok true w := by
  rw [show (10000 : Nat) = 9999 + 1 from rfl, run_equalIn_struct w 9999 _ _ _ (by rfl) (by kernel_rfl)]
  go_simp
theorem eqQeqS9r (q0 q1 q2 q3 : Int) (w : World) : (Op.equalIn 9999 23 (.agg #[.int .i32 q0, .int .i32 q1, .int .i32 q2, .int .i32 q3]) (.agg #[.int .i32 q0, .int .i32 q1, .int .i32 q2, .int .i32 q3])).run Tryz.prog w = .ok true w := by
  rw [show (9999 : Nat) = 9998 + 1 from rfl, run_equalIn_struct w 9998 _ _ _ (by rfl) (by kernel_rfl)]
  go_simp
theorem eqBeqS9r (b0 b1 b2 : Int) (w : World) : (Op.equalIn 9999 25 (.agg #[.int .i32 b0, .int .i32 b1, .int .i32 b2]) (.agg #[.int .i32 b0, .int .i32 b1, .int .i32 b2])).run Tryz.prog w = .ok true w := by
  rw [show (9999 : Nat) = 9998 + 1 from rfl, run_equalIn_struct w 9998 _ _ _ (by rfl) (by kernel_rfl)]
  go_simp
theorem eqS9r (q0 q1 q2 q3 b0 b1 b2 st cu : Int) (w : World) : (Op.equalIn 10000 27 (.agg #[.int .i32 q0, .int .i32 q1, .int .i32 q2, .int .i32 q3, .int .i32 b0, .int .i32 b1, .int .i32 b2, .int .i64 st, .int .i64 cu]) (.agg #[.int .i32 q0, .int .i32 q1, .int .i32 q2, .int .i32 q3, .int .i32 b0, .int .i32 b1, .int .i32 b2, .int .i64 st, .int .i64 cu])).run Tryz.prog w = .ok true w := by
  have e1 := fun W => eqQeqS9r q0 q1 q2 q3 W
  have e2 := fun W => eqBeqS9r b0 b1 b2 W
  rw [show (10000 : Nat) = 9999 + 1 from rfl, run_equalIn_struct w 9999 _ _ _ (by rfl) (by kernel_rfl)]
  go_simp
set_option maxHeartbeats 32000000 in
theorem law_FuseTells (a0_0 : Int) (a0_1 : Int) (a0_2 : Int) (a0_3 : Int) (a0_4 : Int) (a0_5 : Int) (a0_6 : Int) (a0_7 : Int) (a0_8 : Int) (a1_0 : Int) (a1_1 : Int) (a1_2 : Int) (a1_3 : Int) (a1_4 : Int) (a1_5 : Int) (a1_6 : Int) (W : World) (w0_0 : (Lit.int .i32 a0_0).wf = true) (w0_1 : (Lit.int .i32 a0_1).wf = true) (w0_2 : (Lit.int .i32 a0_2).wf = true) (w0_3 : (Lit.int .i32 a0_3).wf = true) (w0_4 : (Lit.int .i32 a0_4).wf = true) (w0_5 : (Lit.int .i32 a0_5).wf = true) (w0_6 : (Lit.int .i32 a0_6).wf = true) (w0_7 : (Lit.int .i64 a0_7).wf = true) (w0_8 : (Lit.int .i64 a0_8).wf = true) (w1_0 : (Lit.int .i32 a1_0).wf = true) (w1_1 : (Lit.int .i32 a1_1).wf = true) (w1_2 : (Lit.int .i32 a1_2).wf = true) (w1_3 : (Lit.int .i32 a1_3).wf = true) (w1_4 : (Lit.int .i32 a1_4).wf = true) (w1_5 : (Lit.int .i32 a1_5).wf = true) (w1_6 : (Lit.int .i32 a1_6).wf = true) :
    Calls Tryz.prog 3 #[.agg #[.int .i32 a0_0, .int .i32 a0_1, .int .i32 a0_2, .int .i32 a0_3, .int .i32 a0_4, .int .i32 a0_5, .int .i32 a0_6, .int .i64 a0_7, .int .i64 a0_8], .agg #[.int .i32 a1_0, .int .i32 a1_1, .int .i32 a1_2, .int .i32 a1_3, .int .i32 a1_4, .int .i32 a1_5, .int .i32 a1_6]] W fun e w' => e = .returned (.bool true) ∧ Below W.heap.size W w' := by
  have kM := hid (fun U => may_any a0_0 a0_1 a0_2 a0_3 a0_4 a0_5 a0_6 a0_7 a0_8 U)
  have p0 := b32_42 w0_0
  have p1 := b32_42 w0_1
  have p2 := b32_42 w0_2
  have p3 := b32_42 w0_3
  have p4 := b32_42 w0_4
  have p5 := b32_42 w0_5
  have p6 := b32_42 w0_6
  have r0 := b32_42 w1_0
  have r1 := b32_42 w1_1
  have r2 := b32_42 w1_2
  have r3 := b32_42 w1_3
  have r4 := b32_42 w1_4
  have r5 := b32_42 w1_5
  have r6 := b32_42 w1_6
  by_cases hm : 0 ≤ a0_7 ∧ a0_7 ≤ 1099511627776 ∧ 0 ≤ a0_8 ∧ a0_8 ≤ 1099511627776
  case neg =>
    rw [show decide (0 ≤ a0_7 ∧ a0_7 ≤ 1099511627776 ∧ 0 ≤ a0_8 ∧ a0_8 ≤ 1099511627776) = false from decide_eq_false hm] at kM
    clear hm
    clear p0 r0 p1 r1 p2 r2 p3 r3 p4 r4 p5 r5 p6 r6 w0_0 w0_1 w0_2 w0_3 w0_4 w0_5 w0_6 w0_7 w0_8 w1_0 w1_1 w1_2 w1_3 w1_4 w1_5 w1_6
    go_enter Tryz.func3, Tryz.ntmps3
    go_upto_region 0 with (fail)
    apply wp_region_seg0 (w := W) (S := [.al 1000, .al 1000, .q []]) (E := [.al ((fun p => .pointer (some ⟨p, 0, none⟩)), _) 1000, .al ((fun p => .pointer (some ⟨p, 0, none⟩)), _) 1000, .q0 _]) rfl (by kernel_rfl) rfl rfl
    intro th hge hne
    refine Seg.step _ rfl ⟨by rfl, fun U hU => ?_⟩ ?_
    · go_simp; exact vp_alloc rfl rfl rfl
    refine Seg.sa ?_
    refine Seg.step _ rfl ⟨by rfl, fun U hU => ?_⟩ ?_
    · go_simp; exact vp_alloc rfl rfl rfl
    refine Seg.sa ?_
    refine Seg.sq ?_
    refine Seg.stop (fun U1 hU hk => ?_)
    have nb0 := hge 0 _ _ rfl
    have rb0 := (hk 0 _ _ rfl trivial).1.2 (by simp)
    have nb1 := hge 1 _ _ rfl
    have rb1 := (hk 1 _ _ rfl trivial).1.2 (by simp)
    have ne0_1 := hne 0 1 _ _ _ _ rfl rfl (by omega)
    clear hk hge hne
    generalize th (0 + 0) = p0_0 at *
    dsimp only at rb0
    generalize th (0 + 1) = p0_1 at *
    dsimp only at rb1
    have r_p0_0 := rb0
    clear rb0
    have n_p0_0 := nb0
    clear nb0
    have d_p0_0_p0_1 := ne0_1
    clear ne0_1
    have r_p0_1 := rb1
    clear rb1
    have n_p0_1 := nb1
    clear nb1
    have sz1 := hU.size
    have hB : Below W.heap.size W U1 := hU
    clear hU
    go_upto_region 1 with (fail)
    apply wp_region_seg0 (w := U1) (S := [.q [], .q [], .q [], .q [], .q [], .q [], .q []]) (E := [.q0 _, .c0 _, .q0 _, .q0 _, .c0 _, .q0 _, .q0 _]) rfl (by kernel_rfl) rfl rfl
    intro th hge hne
    refine Seg.sq ?_ (ht := Or.inl ⟨by rfl, fun U hU => vp_quiet (by (have h0 := held_cell (held_after hU.1 r_p0_0) 0 _ rfl; have h1 := held_cell (held_after hU.1 r_p0_0) 1 _ rfl; have h2 := held_cell (held_after hU.1 r_p0_0) 2 _ rfl; have h3 := held_cell (held_after hU.1 r_p0_0) 3 _ rfl; have h4 := held_cell (held_after hU.1 r_p0_0) 4 _ rfl; have h5 := held_cell (held_after hU.1 r_p0_0) 5 _ rfl; have h6 := held_cell (held_after hU.1 r_p0_0) 6 _ rfl; have h7 := held_cell (held_after hU.1 r_p0_0) 7 _ rfl; have h8 := held_cell (held_after hU.1 r_p0_0) 8 _ rfl; go_simp <;> exact rfl))⟩)
    refine Seg.step _ rfl (Or.inl ⟨by rfl, fun U hU => ?_⟩) ?_
    · go_simp
      refine vp_call (kM.out _)
    refine Seg.sa ?_
    refine Seg.sq ?_
    refine Seg.sq ?_
    refine Seg.sq ?_ (ht := Or.inr ⟨by rfl, rfl⟩)
    refine Seg.sq ?_ (ht := Or.inr ⟨by rfl, rfl⟩)
    refine Seg.sq ?_
    refine Seg.stop (fun U2 hU hk => ?_)
    clear hk hge hne
    replace r_p0_0 := held_after hU r_p0_0
    replace r_p0_1 := held_after hU r_p0_1
    have sz2 := hU.size
    replace hB := bthen hB hU
    clear hU
    go_upto_region 2 with (fail)
    apply wp_region_seg0 (w := U2) (S := [.q [], .q []]) (E := [.c0 _, .q0 _]) rfl (by kernel_rfl) rfl rfl
    intro th hge hne
    refine Seg.step _ rfl (Or.inl ⟨by rfl, fun U hU => ?_⟩) ?_
    · go_simp
      refine vp_call (knows42_any _)
    refine Seg.sa ?_
    refine Seg.sq ?_
    refine Seg.stop (fun U3 hU hk => ?_)
    clear hk hge hne
    replace r_p0_0 := held_after hU r_p0_0
    replace r_p0_1 := held_after hU r_p0_1
    have sz3 := hU.size
    replace hB := bthen hB hU
    clear hU
    go_wp2_with fail
    go_ret
    exact ⟨rfl, hB⟩
  rw [show decide (0 ≤ a0_7 ∧ a0_7 ≤ 1099511627776 ∧ 0 ≤ a0_8 ∧ a0_8 ≤ 1099511627776) = true from decide_eq_true hm] at kM
  obtain ⟨m1, m2, m3, m4⟩ := hm
  obtain ⟨Q0, Q1, Q2, Q3, B0, B1, B2, N, hS, -, -, -, n1, n2⟩ := step_form a0_0 a0_1 a0_2 a0_3 a0_4 a0_5 a0_6 a1_0 a1_1 a1_2 a1_3 a1_4 a1_5 a1_6 ⟨p4, p5, p6⟩
  obtain ⟨x, ok2, hP⟩ := pack_form42 a0_0 a0_1 a0_2 a0_3
  obtain ⟨⟨e0, e1, e2, ok⟩, hE⟩ : ∃ r, errS a0_0 a0_1 a0_2 a0_3 a1_3 a1_4 a1_5 = r := ⟨_, rfl⟩
  have j1 := fun U => err_any a0_0 a0_1 a0_2 a0_3 a1_3 a1_4 a1_5 U p0 p1 p2 p3 r3 r4 r5
  have j2 := fun U => rerr_any a0_0 a0_1 a0_2 a0_3 a1_3 a1_4 a1_5 U p0 p1 p2 p3 r3 r4 r5
  rw [hE] at j1 j2
  dsimp only at j1 j2
  replace j1 := hid j1
  replace j2 := hid j2
  have k1 := hid (fun U => fstep_any a0_0 a0_1 a0_2 a0_3 a0_4 a0_5 a0_6 a1_0 a1_1 a1_2 a1_3 a1_4 a1_5 a1_6 a0_7 a0_8 U p0 p1 p2 p3 p4 p5 p6 r0 r1 r2 r3 r4 r5 r6 m1 (by omega) m3 (by omega) Q0 Q1 Q2 Q3 B0 B1 B2 N hS)
  have k2 := hid (fun U => rfstep_any a0_0 a0_1 a0_2 a0_3 a0_4 a0_5 a0_6 a1_0 a1_1 a1_2 a1_3 a1_4 a1_5 a1_6 a0_7 a0_8 U p0 p1 p2 p3 p4 p5 p6 r0 r1 r2 r3 r4 r5 r6 m1 (by omega) m3 (by omega) Q0 Q1 Q2 Q3 B0 B1 B2 N hS)
  have k3 := hid (fun U => own_any42 Q0 Q1 Q2 Q3 B0 B1 B2 (a0_7 + 1) (a0_8 + N) U)
  have k4 := hid (fun U => fword_any a0_0 a0_1 a0_2 a0_3 a0_4 a0_5 a0_6 a0_7 a0_8 x ok2 hP U p0 p1 p2 p3)
  have k5 := hid (fun U => rfword_any a0_0 a0_1 a0_2 a0_3 a0_4 a0_5 a0_6 a0_7 a0_8 x ok2 hP U p0 p1 p2 p3)
  have q1 := fun W => eqB10 e0 e1 e2 W
  have q2 := fun W => eqS9r Q0 Q1 Q2 Q3 B0 B1 B2 (a0_7 + 1) (a0_8 + N) W
  have q3 : (ok == ok) = true := beq_self_eq_true ok
  clear hS hP hE n1 n2 m1 m2 m3 m4
  clear p0 r0 p1 r1 p2 r2 p3 r3 p4 r4 p5 r5 p6 r6 w0_0 w0_1 w0_2 w0_3 w0_4 w0_5 w0_6 w0_7 w0_8 w1_0 w1_1 w1_2 w1_3 w1_4 w1_5 w1_6
  go_enter Tryz.func3, Tryz.ntmps3
  go_upto_region 0 with (fail)
  apply wp_region_seg0 (w := W) (S := [.al 1000, .al 1000, .q []]) (E := [.al ((fun p => .pointer (some ⟨p, 0, none⟩)), _) 1000, .al ((fun p => .pointer (some ⟨p, 0, none⟩)), _) 1000, .q0 _]) rfl (by kernel_rfl) rfl rfl
  intro th hge hne
  refine Seg.step _ rfl ⟨by rfl, fun U hU => ?_⟩ ?_
  · go_simp; exact vp_alloc rfl rfl rfl
  refine Seg.sa ?_
  refine Seg.step _ rfl ⟨by rfl, fun U hU => ?_⟩ ?_
  · go_simp; exact vp_alloc rfl rfl rfl
  refine Seg.sa ?_
  refine Seg.sq ?_
  refine Seg.stop (fun U1 hU hk => ?_)
  have nb0 := hge 0 _ _ rfl
  have rb0 := (hk 0 _ _ rfl trivial).1.2 (by simp)
  have nb1 := hge 1 _ _ rfl
  have rb1 := (hk 1 _ _ rfl trivial).1.2 (by simp)
  have ne0_1 := hne 0 1 _ _ _ _ rfl rfl (by omega)
  clear hk hge hne
  generalize th (0 + 0) = p0_0 at *
  dsimp only at rb0
  generalize th (0 + 1) = p0_1 at *
  dsimp only at rb1
  have r_p0_0 := rb0
  clear rb0
  have n_p0_0 := nb0
  clear nb0
  have d_p0_0_p0_1 := ne0_1
  clear ne0_1
  have r_p0_1 := rb1
  clear rb1
  have n_p0_1 := nb1
  clear nb1
  have sz1 := hU.size
  have hB : Below W.heap.size W U1 := hU
  clear hU
  go_upto_region 1 with (fail)
  apply wp_region_seg0 (w := U1) (S := [.q [], .q [], .q [], .q [], .q [], .q [], .q []]) (E := [.q0 _, .c0 _, .q0 _, .q0 _, .c0 _, .q0 _, .q0 _]) rfl (by kernel_rfl) rfl rfl
  intro th hge hne
  refine Seg.sq ?_ (ht := Or.inl ⟨by rfl, fun U hU => vp_quiet (by (have h0 := held_cell (held_after hU.1 r_p0_0) 0 _ rfl; have h1 := held_cell (held_after hU.1 r_p0_0) 1 _ rfl; have h2 := held_cell (held_after hU.1 r_p0_0) 2 _ rfl; have h3 := held_cell (held_after hU.1 r_p0_0) 3 _ rfl; have h4 := held_cell (held_after hU.1 r_p0_0) 4 _ rfl; have h5 := held_cell (held_after hU.1 r_p0_0) 5 _ rfl; have h6 := held_cell (held_after hU.1 r_p0_0) 6 _ rfl; have h7 := held_cell (held_after hU.1 r_p0_0) 7 _ rfl; have h8 := held_cell (held_after hU.1 r_p0_0) 8 _ rfl; go_simp <;> exact rfl))⟩)
  refine Seg.step _ rfl (Or.inl ⟨by rfl, fun U hU => ?_⟩) ?_
  · go_simp
    refine vp_call (kM.out _)
  refine Seg.sa ?_
  refine Seg.sq ?_
  refine Seg.sq ?_
  refine Seg.step _ rfl (Or.inl ⟨by rfl, fun U hU => ?_⟩) ?_
  · go_simp
    refine vp_call (knows42_any _)
  refine Seg.sa ?_
  refine Seg.sq ?_
  refine Seg.sq ?_
  refine Seg.stop (fun U2 hU hk => ?_)
  clear hk hge hne
  replace r_p0_0 := held_after hU r_p0_0
  replace r_p0_1 := held_after hU r_p0_1
  have sz2 := hU.size
  replace hB := bthen hB hU
  clear hU
  go_upto_region 3 with (fail)
  apply wp_region_seg0 (w := U2) (S := [.q [], .q [], .q [], .q [], .q [], .q [], .q [], .q [], .al 9, .st 8 [], .q []]) (E := [.q0 _, .q0 _, .q0 _, .q0 _, .c0 _, .q0 _, .q0 _, .q0 _, .al ((fun p => .pointer (some ⟨p, 0, none⟩)), _) 9, .s0 8 (.cells _ _), .q0 _]) rfl (by kernel_rfl) rfl rfl
  intro th hge hne
  refine Seg.sq ?_
  refine Seg.sq ?_ (ht := Or.inl ⟨by rfl, fun U hU => vp_quiet (by (have h0 := held_cell (held_after hU.1 r_p0_0) 0 _ rfl; have h1 := held_cell (held_after hU.1 r_p0_0) 1 _ rfl; have h2 := held_cell (held_after hU.1 r_p0_0) 2 _ rfl; have h3 := held_cell (held_after hU.1 r_p0_0) 3 _ rfl; go_simp <;> exact rfl))⟩)
  refine Seg.sq ?_
  refine Seg.sq ?_ (ht := Or.inl ⟨by rfl, fun U hU => vp_quiet (by (have h0 := held_cell (held_after hU.1 r_p0_1) 3 _ rfl; have h1 := held_cell (held_after hU.1 r_p0_1) 4 _ rfl; have h2 := held_cell (held_after hU.1 r_p0_1) 5 _ rfl; go_simp <;> exact rfl))⟩)
  refine Seg.step _ rfl (Or.inl ⟨by rfl, fun U hU => ?_⟩) ?_
  · go_simp
    refine vp_call (j1.out _)
  refine Seg.sa ?_
  iterate 3 refine Seg.sq ?_
  refine Seg.step _ rfl ⟨by rfl, fun U hU => ?_⟩ ?_
  · go_simp; exact vp_alloc rfl rfl rfl
  refine Seg.sa ?_
  refine Seg.step _ rfl ⟨by rfl, fun U z k hz hU hc => ?_⟩ ?_
  · have hz2 := Option.some.inj hz
    cases hz2; clear hz
    exact vp_store_agg _ _ _ rfl hc rfl rfl (by kernel_rfl) rfl (by rfl)
  refine Seg.sa ?_
  refine Seg.sq ?_
  refine Seg.stop (fun U3 hU hk => ?_)
  have nb8 := hge 8 _ _ rfl
  have rb8 := (hk 8 _ 9 rfl trivial).1.1 trivial _ (Nat.zero_le _) rfl
  clear hk hge hne
  generalize th (0 + 8) = p3_8 at *
  simp only [Ent.obj] at rb8
  replace r_p0_0 := held_after hU r_p0_0
  replace r_p0_1 := held_after hU r_p0_1
  have r_p3_8 := rb8
  clear rb8
  have n_p3_8 := nb8
  clear nb8
  have sz3 := hU.size
  replace hB := bthen hB hU
  clear hU
  go_upto_region 4 with (fail)
  apply wp_region_seg0 (w := U3) (S := [.q [], .q [], .q [], .q [], .q [], .q [], .q [], .q [], .al 9, .st 8 [], .q []]) (E := [.q0 _, .q0 _, .q0 _, .q0 _, .c0 _, .q0 _, .q0 _, .q0 _, .al ((fun p => .pointer (some ⟨p, 0, none⟩)), _) 9, .s0 8 (.cells _ _), .q0 _]) rfl (by kernel_rfl) rfl rfl
  intro th hge hne
  refine Seg.sq ?_
  refine Seg.sq ?_ (ht := Or.inl ⟨by rfl, fun U hU => vp_quiet (by (have h0 := held_cell (held_after hU.1 r_p0_0) 0 _ rfl; have h1 := held_cell (held_after hU.1 r_p0_0) 1 _ rfl; have h2 := held_cell (held_after hU.1 r_p0_0) 2 _ rfl; have h3 := held_cell (held_after hU.1 r_p0_0) 3 _ rfl; go_simp <;> exact rfl))⟩)
  refine Seg.sq ?_
  refine Seg.sq ?_ (ht := Or.inl ⟨by rfl, fun U hU => vp_quiet (by (have h0 := held_cell (held_after hU.1 r_p0_1) 3 _ rfl; have h1 := held_cell (held_after hU.1 r_p0_1) 4 _ rfl; have h2 := held_cell (held_after hU.1 r_p0_1) 5 _ rfl; go_simp <;> exact rfl))⟩)
  refine Seg.step _ rfl (Or.inl ⟨by rfl, fun U hU => ?_⟩) ?_
  · go_simp
    refine vp_call (j2.out _)
  refine Seg.sa ?_
  iterate 3 refine Seg.sq ?_
  refine Seg.step _ rfl ⟨by rfl, fun U hU => ?_⟩ ?_
  · go_simp; exact vp_alloc rfl rfl rfl
  refine Seg.sa ?_
  refine Seg.step _ rfl ⟨by rfl, fun U z k hz hU hc => ?_⟩ ?_
  · have hz2 := Option.some.inj hz
    cases hz2; clear hz
    exact vp_store_agg _ _ _ rfl hc rfl rfl (by kernel_rfl) rfl (by rfl)
  refine Seg.sa ?_
  refine Seg.sq ?_
  refine Seg.stop (fun U4 hU hk => ?_)
  have nb8 := hge 8 _ _ rfl
  have rb8 := (hk 8 _ 9 rfl trivial).1.1 trivial _ (Nat.zero_le _) rfl
  clear hk hge hne
  generalize th (0 + 8) = p4_8 at *
  simp only [Ent.obj] at rb8
  replace r_p0_0 := held_after hU r_p0_0
  replace r_p0_1 := held_after hU r_p0_1
  replace r_p3_8 := held_after hU r_p3_8
  have r_p4_8 := rb8
  clear rb8
  have n_p4_8 := nb8
  clear nb8
  have sz4 := hU.size
  replace hB := bthen hB hU
  clear hU
  go_upto_region 5 with (fail)
  apply wp_region_seg0 (w := U4) (S := [.q [], .q [], .q [], .q [], .q [], .q [], .q [], .q [], .q [], .al 10, .st 9 []]) (E := [.q0 _, .q0 _, .q0 _, .q0 _, .q0 _, .q0 _, .q0 _, .q0 _, .q0 _, .al ((fun p => .pointer (some ⟨p, 0, none⟩)), _) 10, .s0 9 (.cells _ _)]) rfl (by kernel_rfl) rfl rfl
  intro th hge hne
  refine Seg.sq ?_
  refine Seg.sq ?_ (ht := Or.inl ⟨by rfl, fun U hU => vp_quiet (by (have h0 := held_cell (held_after hU.1 r_p0_0) 0 _ rfl; have h1 := held_cell (held_after hU.1 r_p0_0) 1 _ rfl; have h2 := held_cell (held_after hU.1 r_p0_0) 2 _ rfl; have h3 := held_cell (held_after hU.1 r_p0_0) 3 _ rfl; go_simp <;> exact rfl))⟩)
  refine Seg.sq ?_
  refine Seg.sq ?_ (ht := Or.inl ⟨by rfl, fun U hU => vp_quiet (by (have h0 := held_cell (held_after hU.1 r_p0_0) 4 _ rfl; have h1 := held_cell (held_after hU.1 r_p0_0) 5 _ rfl; have h2 := held_cell (held_after hU.1 r_p0_0) 6 _ rfl; go_simp <;> exact rfl))⟩)
  refine Seg.sq ?_
  refine Seg.sq ?_ (ht := Or.inl ⟨by rfl, fun U hU => vp_quiet (by (have h0 := held_cell (held_after hU.1 r_p0_0) 7 _ rfl; go_simp <;> exact rfl))⟩)
  refine Seg.sq ?_
  refine Seg.sq ?_ (ht := Or.inl ⟨by rfl, fun U hU => vp_quiet (by (have h0 := held_cell (held_after hU.1 r_p0_0) 8 _ rfl; go_simp <;> exact rfl))⟩)
  refine Seg.sq ?_
  refine Seg.step _ rfl ⟨by rfl, fun U hU => ?_⟩ ?_
  · go_simp; exact vp_alloc rfl rfl rfl
  refine Seg.sa ?_
  refine Seg.step _ rfl ⟨by rfl, fun U z k hz hU hc => ?_⟩ ?_
  · have hz2 := Option.some.inj hz
    cases hz2; clear hz
    exact vp_store_agg _ _ _ rfl hc rfl rfl (by kernel_rfl) rfl (by rfl)
  refine Seg.sa ?_
  refine Seg.stop (fun U5 hU hk => ?_)
  have nb9 := hge 9 _ _ rfl
  have rb9 := (hk 9 _ 10 rfl trivial).1.1 trivial _ (Nat.zero_le _) rfl
  clear hk hge hne
  generalize th (0 + 9) = p5_9 at *
  simp only [Ent.obj] at rb9
  replace r_p0_0 := held_after hU r_p0_0
  replace r_p0_1 := held_after hU r_p0_1
  replace r_p3_8 := held_after hU r_p3_8
  replace r_p4_8 := held_after hU r_p4_8
  have r_p5_9 := rb9
  clear rb9
  have n_p5_9 := nb9
  clear nb9
  have sz5 := hU.size
  replace hB := bthen hB hU
  clear hU
  go_upto_region 6 with (fail)
  apply wp_region_seg (w := U5) (S := (.q [] :: .q [] :: .q [] :: .q [] :: .q [] :: .q [] :: .q [] :: .q [] :: .q [] :: .q [] :: .q [] :: .q [] :: .q [] :: .q [] :: .q [] :: .q [] :: .q [] :: .q [] :: .q [] :: .q [] :: .q [] :: .q [] :: .q [] :: .q [] :: .q [] :: .q [] :: .q [] :: .q [] :: .q [] :: .q [] :: .q [] :: .q [] :: .q [] :: .q [] :: .q [] :: .q [] :: [])) (E := (.q0 _ :: .q0 _ :: .q0 _ :: .q0 _ :: .q0 _ :: .q0 _ :: .q0 _ :: .q0 _ :: .q0 _ :: .q0 _ :: .q0 _ :: .q0 _ :: .q0 _ :: .q0 _ :: .q0 _ :: .q0 _ :: .c0 _ :: .c0 _ :: .q0 _ :: .q0 _ :: .q0 _ :: .q0 _ :: .q0 _ :: .q0 _ :: .q0 _ :: .c0 _ :: .q0 _ :: .q0 _ :: .q0 _ :: .q0 _ :: .c0 _ :: .q0 _ :: .c0 _ :: .q0 _ :: .q0 _ :: .q0 _ :: [])) (by kernel_rfl) rfl (by kernel_rfl) rfl rfl
  intro th hge hne
  refine Seg.sq ?_ (ht := Or.inl ⟨by rfl, fun U hU => vp_quiet (by (have h0 := held_cell (held_after hU.1 r_p3_8) 0 _ rfl; have h1 := held_cell (held_after hU.1 r_p3_8) 1 _ rfl; have h2 := held_cell (held_after hU.1 r_p3_8) 2 _ rfl; go_simp <;> exact rfl))⟩)
  refine Seg.sq ?_ (ht := Or.inl ⟨by rfl, fun U hU => vp_quiet (by (have h0 := held_cell (held_after hU.1 r_p4_8) 0 _ rfl; have h1 := held_cell (held_after hU.1 r_p4_8) 1 _ rfl; have h2 := held_cell (held_after hU.1 r_p4_8) 2 _ rfl; go_simp <;> exact rfl))⟩)
  iterate 7 refine Seg.sq ?_
  refine Seg.sq ?_ (ht := Or.inl ⟨by rfl, fun U hU => vp_quiet (by (have h0 := held_cell (held_after hU.1 r_p5_9) 0 _ rfl; have h1 := held_cell (held_after hU.1 r_p5_9) 1 _ rfl; have h2 := held_cell (held_after hU.1 r_p5_9) 2 _ rfl; have h3 := held_cell (held_after hU.1 r_p5_9) 3 _ rfl; have h4 := held_cell (held_after hU.1 r_p5_9) 4 _ rfl; have h5 := held_cell (held_after hU.1 r_p5_9) 5 _ rfl; have h6 := held_cell (held_after hU.1 r_p5_9) 6 _ rfl; have h7 := held_cell (held_after hU.1 r_p5_9) 7 _ rfl; have h8 := held_cell (held_after hU.1 r_p5_9) 8 _ rfl; go_simp <;> exact rfl))⟩)
  refine Seg.sq ?_
  refine Seg.sq ?_ (ht := Or.inl ⟨by rfl, fun U hU => vp_quiet (by (have h0 := held_cell (held_after hU.1 r_p0_1) 0 _ rfl; have h1 := held_cell (held_after hU.1 r_p0_1) 1 _ rfl; have h2 := held_cell (held_after hU.1 r_p0_1) 2 _ rfl; go_simp <;> exact rfl))⟩)
  refine Seg.sq ?_
  refine Seg.sq ?_ (ht := Or.inl ⟨by rfl, fun U hU => vp_quiet (by (have h0 := held_cell (held_after hU.1 r_p0_1) 3 _ rfl; have h1 := held_cell (held_after hU.1 r_p0_1) 4 _ rfl; have h2 := held_cell (held_after hU.1 r_p0_1) 5 _ rfl; go_simp <;> exact rfl))⟩)
  refine Seg.sq ?_
  refine Seg.sq ?_ (ht := Or.inl ⟨by rfl, fun U hU => vp_quiet (by (have h0 := held_cell (held_after hU.1 r_p0_1) 6 _ rfl; go_simp <;> exact rfl))⟩)
  refine Seg.step _ rfl (Or.inl ⟨by rfl, fun U hU => ?_⟩) ?_
  · go_simp
    refine vp_call (k1.out _)
  refine Seg.sa ?_
  refine Seg.step _ rfl (Or.inl ⟨by rfl, fun U hU => ?_⟩) ?_
  · go_simp
    refine vp_call (k3.out _)
  refine Seg.sa ?_
  refine Seg.sq ?_ (ht := Or.inl ⟨by rfl, fun U hU => vp_quiet (by (have h0 := held_cell (held_after hU.1 r_p0_0) 0 _ rfl; have h1 := held_cell (held_after hU.1 r_p0_0) 1 _ rfl; have h2 := held_cell (held_after hU.1 r_p0_0) 2 _ rfl; have h3 := held_cell (held_after hU.1 r_p0_0) 3 _ rfl; have h4 := held_cell (held_after hU.1 r_p0_0) 4 _ rfl; have h5 := held_cell (held_after hU.1 r_p0_0) 5 _ rfl; have h6 := held_cell (held_after hU.1 r_p0_0) 6 _ rfl; have h7 := held_cell (held_after hU.1 r_p0_0) 7 _ rfl; have h8 := held_cell (held_after hU.1 r_p0_0) 8 _ rfl; go_simp <;> exact rfl))⟩)
  refine Seg.sq ?_
  refine Seg.sq ?_ (ht := Or.inl ⟨by rfl, fun U hU => vp_quiet (by (have h0 := held_cell (held_after hU.1 r_p0_1) 0 _ rfl; have h1 := held_cell (held_after hU.1 r_p0_1) 1 _ rfl; have h2 := held_cell (held_after hU.1 r_p0_1) 2 _ rfl; go_simp <;> exact rfl))⟩)
  refine Seg.sq ?_
  refine Seg.sq ?_ (ht := Or.inl ⟨by rfl, fun U hU => vp_quiet (by (have h0 := held_cell (held_after hU.1 r_p0_1) 3 _ rfl; have h1 := held_cell (held_after hU.1 r_p0_1) 4 _ rfl; have h2 := held_cell (held_after hU.1 r_p0_1) 5 _ rfl; go_simp <;> exact rfl))⟩)
  refine Seg.sq ?_
  refine Seg.sq ?_ (ht := Or.inl ⟨by rfl, fun U hU => vp_quiet (by (have h0 := held_cell (held_after hU.1 r_p0_1) 6 _ rfl; go_simp <;> exact rfl))⟩)
  refine Seg.step _ rfl (Or.inl ⟨by rfl, fun U hU => ?_⟩) ?_
  · go_simp
    refine vp_call (k2.out _)
  refine Seg.sa ?_
  iterate 3 refine Seg.sq ?_
  refine Seg.sq ?_ (ht := Or.inl ⟨by rfl, fun U hU => vp_quiet (by (have h0 := held_cell (held_after hU.1 r_p5_9) 0 _ rfl; have h1 := held_cell (held_after hU.1 r_p5_9) 1 _ rfl; have h2 := held_cell (held_after hU.1 r_p5_9) 2 _ rfl; have h3 := held_cell (held_after hU.1 r_p5_9) 3 _ rfl; have h4 := held_cell (held_after hU.1 r_p5_9) 4 _ rfl; have h5 := held_cell (held_after hU.1 r_p5_9) 5 _ rfl; have h6 := held_cell (held_after hU.1 r_p5_9) 6 _ rfl; have h7 := held_cell (held_after hU.1 r_p5_9) 7 _ rfl; have h8 := held_cell (held_after hU.1 r_p5_9) 8 _ rfl; go_simp <;> exact rfl))⟩)
  refine Seg.step _ rfl (Or.inl ⟨by rfl, fun U hU => ?_⟩) ?_
  · go_simp
    refine vp_call (k4.out _)
  refine Seg.sa ?_
  refine Seg.sq ?_ (ht := Or.inl ⟨by rfl, fun U hU => vp_quiet (by (have h0 := held_cell (held_after hU.1 r_p0_0) 0 _ rfl; have h1 := held_cell (held_after hU.1 r_p0_0) 1 _ rfl; have h2 := held_cell (held_after hU.1 r_p0_0) 2 _ rfl; have h3 := held_cell (held_after hU.1 r_p0_0) 3 _ rfl; have h4 := held_cell (held_after hU.1 r_p0_0) 4 _ rfl; have h5 := held_cell (held_after hU.1 r_p0_0) 5 _ rfl; have h6 := held_cell (held_after hU.1 r_p0_0) 6 _ rfl; have h7 := held_cell (held_after hU.1 r_p0_0) 7 _ rfl; have h8 := held_cell (held_after hU.1 r_p0_0) 8 _ rfl; go_simp <;> exact rfl))⟩)
  refine Seg.step _ rfl (Or.inl ⟨by rfl, fun U hU => ?_⟩) ?_
  · go_simp
    refine vp_call (k5.out _)
  refine Seg.sa ?_
  iterate 3 refine Seg.sq ?_
  refine Seg.stop (fun U6 hU hk => ?_)
  clear hk hge hne
  replace r_p0_0 := held_after hU r_p0_0
  replace r_p0_1 := held_after hU r_p0_1
  replace r_p3_8 := held_after hU r_p3_8
  replace r_p4_8 := held_after hU r_p4_8
  replace r_p5_9 := held_after hU r_p5_9
  have sz6 := hU.size
  replace hB := bthen hB hU
  clear hU
  go_wp2_with fail
  go_ret
  exact ⟨rfl, hB⟩
end Go.Proofs.YtpdpcdifnlellaaGreat
