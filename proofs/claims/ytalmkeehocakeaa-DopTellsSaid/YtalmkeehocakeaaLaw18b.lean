/- The laws of layer 18. -/
import Derived.Test.YtalmkeehocakeaaLaw18
import Derived.Deep.DeepCutAuto
namespace Go.Proofs.Ytalmkeehocakeaa
open Go.ChangeShapes Go.WideShapes Go.ChangeAt Go.RowKit
set_option linter.unusedVariables false
set_option linter.unusedSimpArgs false

set_option maxRecDepth 100000 in
set_option maxHeartbeats 8000000 in
theorem law_DopTells (a0_0 a0_1 a0_2 a0_3 a0_4 a0_5 a0_6 a0_7 : Int) (a1 : Option Addr) (len1 cap1 : Nat) (z1 : List Int) (a2 a3 : Int) (W : World) (w0_0 : (Lit.int .i64 a0_0).wf = true) (w0_1 : (Lit.int .i64 a0_1).wf = true) (w0_2 : (Lit.int .i64 a0_2).wf = true) (w0_3 : (Lit.int .i64 a0_3).wf = true) (w0_4 : (Lit.int .i64 a0_4).wf = true) (w0_5 : (Lit.int .i64 a0_5).wf = true) (w0_6 : (Lit.int .i64 a0_6).wf = true) (w0_7 : (Lit.int .i64 a0_7).wf = true) (w1 : IsRow .u8 W a1 len1 cap1 z1) (w2 : (Lit.int .i64 a2).wf = true) (w3 : (Lit.int .i64 a3).wf = true) :
    Calls Try.prog 3 #[.agg #[.int .i64 a0_0, .int .i64 a0_1, .int .i64 a0_2, .int .i64 a0_3, .int .i64 a0_4, .int .i64 a0_5, .int .i64 a0_6, .int .i64 a0_7], .slice a1 len1 cap1, .int .i64 a2, .int .i64 a3] W fun e w' => e = .returned (.bool true) ∧ Below W.heap.size W w' := by
  have hb : ∀ x ∈ [a0_0, a0_1, a0_2, a0_3, a0_4, a0_5, a0_6, a0_7], -9223372036854775808 ≤ x ∧ x ≤ 9223372036854775807 := by
    intro x hx
    simp at hx
    rcases hx with rfl | rfl | rfl | rfl | rfl | rfl | rfl | rfl
    · exact bounds_i64 w0_0
    · exact bounds_i64 w0_1
    · exact bounds_i64 w0_2
    · exact bounds_i64 w0_3
    · exact bounds_i64 w0_4
    · exact bounds_i64 w0_5
    · exact bounds_i64 w0_6
    · exact bounds_i64 w0_7
  have hb1q := (bounds_i64 w0_1).1
  have hb2q := (bounds_i64 w0_2).1
  have hb3q := (bounds_i64 w0_3).1
  have hb4q := (bounds_i64 w0_4).1
  have hb5q := (bounds_i64 w0_5).1
  have hb6q := (bounds_i64 w0_6).1
  have hb7q := (bounds_i64 w0_7).1
  clear w0_0 w0_1 w0_2 w0_3 w0_4 w0_5 w0_6 w0_7
  obtain ⟨hs1, hw1⟩ := w1.sl
  generalize z1.take len1 = bs at hs1 hw1
  clear w1
  have hb2 := hid (bytes_bd hw1)
  replace hs1 := hid hs1
  replace hw1 := hid hw1
  by_cases cb : (100 : Int) < len1
  case pos =>
    clear hb hb1q hb2q hb3q hb4q hb5q hb6q hb7q
    go_enter Try.func3, Try.ntmps3
    go_wp2_with fail
    refine (knows18_any _).mono ?_
    rintro e V ⟨rfl, hst⟩
    replace hst := hid hst
    go_wp2_with fail
    go_ret
    exact ⟨rfl, bthen (alloc_new _ _).2.1 hst.out⟩
  have c2 := (bounds_i64 w2).1
  have c3 := (bounds_i64 w3).1
  clear w2 w3
  have hTB := togS_bd a2 a3
  obtain ⟨⟨L, ee⟩, hr⟩ : ∃ r, putL DL [a0_0, a0_1, a0_2, a0_3, a0_4, a0_5, a0_6, a0_7] = r := ⟨_, rfl⟩
  obtain ⟨⟨P, ge⟩, hq⟩ : ∃ r, takL DL bs = r := ⟨_, rfl⟩
  have pe := putF_e (fN DL) (fS DL) (fL DL) (fH DL) DL.length [a0_0, a0_1, a0_2, a0_3, a0_4, a0_5, a0_6, a0_7]
  have te := takF_e (fN DL) (fS DL) (fL DL) (fH DL) DL.length bs
  change 0 ≤ (putL DL [a0_0, a0_1, a0_2, a0_3, a0_4, a0_5, a0_6, a0_7]).2 ∧ (putL DL [a0_0, a0_1, a0_2, a0_3, a0_4, a0_5, a0_6, a0_7]).2 ≤ 9 at pe
  change 0 ≤ (takL DL bs).2 ∧ (takL DL bs).2 ≤ 9 at te
  rw [hr] at pe
  rw [hq] at te
  dsimp only at pe te
  obtain ⟨m0, hm0⟩ : ∃ m, P.getD 0 0 = m := ⟨_, rfl⟩
  replace hm0 := hid hm0
  obtain ⟨m1, hm1⟩ : ∃ m, P.getD 1 0 = m := ⟨_, rfl⟩
  replace hm1 := hid hm1
  obtain ⟨m2, hm2⟩ : ∃ m, P.getD 2 0 = m := ⟨_, rfl⟩
  replace hm2 := hid hm2
  obtain ⟨m3, hm3⟩ : ∃ m, P.getD 3 0 = m := ⟨_, rfl⟩
  replace hm3 := hid hm3
  obtain ⟨m4, hm4⟩ : ∃ m, P.getD 4 0 = m := ⟨_, rfl⟩
  replace hm4 := hid hm4
  obtain ⟨m5, hm5⟩ : ∃ m, P.getD 5 0 = m := ⟨_, rfl⟩
  replace hm5 := hid hm5
  obtain ⟨m6, hm6⟩ : ∃ m, P.getD 6 0 = m := ⟨_, rfl⟩
  replace hm6 := hid hm6
  obtain ⟨m7, hm7⟩ : ∃ m, P.getD 7 0 = m := ⟨_, rfl⟩
  replace hm7 := hid hm7
  replace hr := hid hr
  replace hq := hid hq
  have kS := hid (fun W => sound_any a0_0 a0_1 a0_2 a0_3 a0_4 a0_5 a0_6 a0_7 hb1q hb2q hb3q hb4q hb5q hb6q hb7q W)
  have kR := hid (fun W => rsound_any a0_0 a0_1 a0_2 a0_3 a0_4 a0_5 a0_6 a0_7 hb1q hb2q hb3q hb4q hb5q hb6q hb7q W)
  have kT := hid (fun W => tog_any a2 a3 W c2 c3)
  have kU := hid (fun W => rtog_any a2 a3 W c2 c3)
  generalize soundS a0_1 a0_2 a0_3 a0_4 a0_5 a0_6 a0_7 = SB at *
  generalize togS a2 a3 = TT at *
  clear c2 c3 hTB hb1q hb2q hb3q hb4q hb5q hb6q hb7q
  replace hb := hid hb
  have nw := alloc_new W (.cells #[.int .i64 a0_0, .int .i64 a0_1, .int .i64 a0_2, .int .i64 a0_3, .int .i64 a0_4, .int .i64 a0_5, .int .i64 a0_6, .int .i64 a0_7] 23)
  have hB := hid nw.2.1
  have rm := hid nw.2.2
  clear nw
  go_enter Try.func3, Try.ntmps3
  go_upto_region 1 with (fail)
  obtain ⟨V0, hV0⟩ : ∃ X, W.alloc (.cells #[.int .i64 a0_0, .int .i64 a0_1, .int .i64 a0_2, .int .i64 a0_3, .int .i64 a0_4, .int .i64 a0_5, .int .i64 a0_6, .int .i64 a0_7] 23) = X := ⟨_, rfl⟩
  rw [hV0] at hB rm ⊢
  clear hV0
  go_wp2_with fail
  refine (knows18_any _).mono ?_
  rintro e V1 ⟨rfl, hA⟩
  replace rm := hid (held_after hA rm.out)
  replace hB := hid (bthen hB.out hA)
  clear hA
  have z0 := held_cell rm.out 0 _ rfl
  have z1 := held_cell rm.out 1 _ rfl
  have z2 := held_cell rm.out 2 _ rfl
  have z3 := held_cell rm.out 3 _ rfl
  have z4 := held_cell rm.out 4 _ rfl
  have z5 := held_cell rm.out 5 _ rfl
  have z6 := held_cell rm.out 6 _ rfl
  have z7 := held_cell rm.out 7 _ rfl
  go_wp2_with fail
  clear z0 z1 z2 z3 z4 z5 z6 z7
  refine (putD_any a0_0 a0_1 a0_2 a0_3 a0_4 a0_5 a0_6 a0_7 hb.out _).mono ?_
  rintro e V2 ⟨r1a, r1c, rfl, hO1, hA⟩
  replace rm := hid (held_after hA rm.out)
  replace hB := hid (bthen hB.out hA)
  clear hA
  rw [hr.out] at hO1 ⊢
  replace hO1 := hid hO1
  have z0 := held_cell rm.out 0 _ rfl
  have z1 := held_cell rm.out 1 _ rfl
  have z2 := held_cell rm.out 2 _ rfl
  have z3 := held_cell rm.out 3 _ rfl
  have z4 := held_cell rm.out 4 _ rfl
  have z5 := held_cell rm.out 5 _ rfl
  have z6 := held_cell rm.out 6 _ rfl
  have z7 := held_cell rm.out 7 _ rfl
  go_wp2_with fail
  clear z0 z1 z2 z3 z4 z5 z6 z7
  refine (rputD_any a0_0 a0_1 a0_2 a0_3 a0_4 a0_5 a0_6 a0_7 hb.out _).mono ?_
  rintro e V3 ⟨r2a, r2c, rfl, hO2, hA⟩
  replace hO1 := hid (hO1.out.below hA)
  replace rm := hid (held_after hA rm.out)
  replace hB := hid (bthen hB.out hA)
  clear hA
  rw [hr.out] at hO2 ⊢
  replace hO2 := hid hO2
  go_wp2_with fail
  refine (takeD_any a1 len1 cap1 bs _ (hs1.out.below hB.out) hw1.out (by omega)).mono ?_
  rintro e V4 ⟨rfl, hA⟩
  replace hO1 := hid (hO1.out.below hA)
  replace hO2 := hid (hO2.out.below hA)
  replace rm := hid (held_after hA rm.out)
  replace hB := hid (bthen hB.out hA)
  clear hA
  rw [hq.out]
  unfold dopV
  dsimp only
  rw [hm0.out, hm1.out, hm2.out, hm3.out, hm4.out, hm5.out, hm6.out, hm7.out]
  have nw := alloc_new V4 (.cells #[.int .i64 m0, .int .i64 m1, .int .i64 m2, .int .i64 m3, .int .i64 m4, .int .i64 m5, .int .i64 m6, .int .i64 m7] 23)
  have hA := nw.2.1
  have rk3 := nw.2.2
  clear nw
  go_upto_region 6 with (fail)
  obtain ⟨V5, hV5⟩ : ∃ X, V4.alloc (.cells #[.int .i64 m0, .int .i64 m1, .int .i64 m2, .int .i64 m3, .int .i64 m4, .int .i64 m5, .int .i64 m6, .int .i64 m7] 23) = X := ⟨_, rfl⟩
  rw [hV5] at hA rk3 ⊢
  obtain ⟨qk3, hqk3⟩ : ∃ X, V4.heap.size = X := ⟨_, rfl⟩
  rw [hqk3] at rk3 ⊢
  replace hV5 := hid hV5
  replace hqk3 := hid hqk3
  replace hO1 := hid (hO1.out.below hA)
  replace hO2 := hid (hO2.out.below hA)
  replace rm := hid (held_after hA rm.out)
  replace hB := hid (bthen hB.out hA)
  clear hA
  replace rk3 := hid rk3
  go_wp2_with fail
  refine (rtakeD_any a1 len1 cap1 bs _ (hs1.out.below hB.out) hw1.out (by omega)).mono ?_
  rintro e V6 ⟨rfl, hA⟩
  replace hO1 := hid (hO1.out.below hA)
  replace hO2 := hid (hO2.out.below hA)
  replace rm := hid (held_after hA rm.out)
  replace rk3 := hid (held_after hA rk3.out)
  replace hB := hid (bthen hB.out hA)
  clear hA
  rw [hq.out]
  unfold dopV
  dsimp only
  rw [hm0.out, hm1.out, hm2.out, hm3.out, hm4.out, hm5.out, hm6.out, hm7.out]
  have nw := alloc_new V6 (.cells #[.int .i64 m0, .int .i64 m1, .int .i64 m2, .int .i64 m3, .int .i64 m4, .int .i64 m5, .int .i64 m6, .int .i64 m7] 23)
  have hA := nw.2.1
  have rk4 := nw.2.2
  clear nw
  go_upto_region 7 with (fail)
  obtain ⟨V7, hV7⟩ : ∃ X, V6.alloc (.cells #[.int .i64 m0, .int .i64 m1, .int .i64 m2, .int .i64 m3, .int .i64 m4, .int .i64 m5, .int .i64 m6, .int .i64 m7] 23) = X := ⟨_, rfl⟩
  rw [hV7] at hA rk4 ⊢
  obtain ⟨qk4, hqk4⟩ : ∃ X, V6.heap.size = X := ⟨_, rfl⟩
  rw [hqk4] at rk4 ⊢
  replace hV7 := hid hV7
  replace hqk4 := hid hqk4
  replace hO1 := hid (hO1.out.below hA)
  replace hO2 := hid (hO2.out.below hA)
  replace rm := hid (held_after hA rm.out)
  replace rk3 := hid (held_after hA rk3.out)
  replace hB := hid (bthen hB.out hA)
  clear hA
  replace rk4 := hid rk4
  replace hB := hB.out
  replace rm := rm.out
  replace rk3 := rk3.out
  replace rk4 := rk4.out
  have t1 := (hO1.out).textR 24 9 5 Try.underlying24 Try.underlying5 Try.underlying9
  have t2 := (hO2.out).textR 24 9 5 Try.underlying24 Try.underlying5 Try.underlying9
  try dsimp only at t1 t2
  generalize textOf L = TX at *
  apply wp_region_seg (w := V7) (S := (.q [] :: .q [] :: .q [] :: .q [] :: .q [] :: .q [] :: .q [] :: .q [] :: .q [] :: .q [] :: .q [] :: .q [] :: .q [] :: .q [] :: .q [] :: .q [] :: .q [] :: .q [] :: .q [] :: .q [] :: .q [] :: .q [] :: .q [] :: .q [] :: .q [] :: .q [] :: .q [] :: .q [] :: .q [] :: .q [] :: .q [] :: .q [] :: .q [] :: .q [] :: .q [] :: .q [] :: .q [] :: .q [] :: .q [] :: .q [] :: .q [] :: [])) (E := (.q0 _ :: .c0 _ :: .q0 _ :: .c0 _ :: .q0 _ :: .q0 _ :: .q0 _ :: .q0 _ :: .q0 _ :: .q0 _ :: .q0 _ :: .q0 _ :: .q0 _ :: .q0 _ :: .c0 _ :: .q0 _ :: .c0 _ :: .q0 _ :: .q0 _ :: .q0 _ :: .q0 _ :: .q0 _ :: .q0 _ :: .q0 _ :: .q0 _ :: .q0 _ :: .c0 _ :: .q0 _ :: .c0 _ :: .q0 _ :: .q0 _ :: .q0 _ :: .q0 _ :: .q0 _ :: .c0 _ :: .q0 _ :: .q0 _ :: .c0 _ :: .q0 _ :: .q0 _ :: .q0 _ :: [])) (by kernel_rfl) rfl (by kernel_rfl) rfl rfl
  intro th hge hne
  refine Seg.step _ rfl (Or.inl ⟨by rfl, fun U hU => vp_quiet (by (have h0 := held_cell (held_after hU.1 rm) 0 _ rfl; have h1 := held_cell (held_after hU.1 rm) 1 _ rfl; have h2 := held_cell (held_after hU.1 rm) 2 _ rfl; have h3 := held_cell (held_after hU.1 rm) 3 _ rfl; have h4 := held_cell (held_after hU.1 rm) 4 _ rfl; have h5 := held_cell (held_after hU.1 rm) 5 _ rfl; have h6 := held_cell (held_after hU.1 rm) 6 _ rfl; have h7 := held_cell (held_after hU.1 rm) 7 _ rfl; go_simp <;> exact rfl))⟩) ⟨_, by (simp only [Ent.val]; go_simp <;> exact rfl), ?_⟩
  refine Seg.step _ rfl (Or.inl ⟨by rfl, fun U hU => ?_⟩) ?_
  · go_simp
    refine vp_call (kS.out _)
  refine ⟨_, by (simp only [Ent.val]; go_simp <;> exact rfl), ?_⟩
  refine Seg.step _ rfl (Or.inl ⟨by rfl, fun U hU => vp_quiet (by (have h0 := held_cell (held_after hU.1 rm) 0 _ rfl; have h1 := held_cell (held_after hU.1 rm) 1 _ rfl; have h2 := held_cell (held_after hU.1 rm) 2 _ rfl; have h3 := held_cell (held_after hU.1 rm) 3 _ rfl; have h4 := held_cell (held_after hU.1 rm) 4 _ rfl; have h5 := held_cell (held_after hU.1 rm) 5 _ rfl; have h6 := held_cell (held_after hU.1 rm) 6 _ rfl; have h7 := held_cell (held_after hU.1 rm) 7 _ rfl; go_simp <;> exact rfl))⟩) ⟨_, by (simp only [Ent.val]; go_simp <;> exact rfl), ?_⟩
  refine Seg.step _ rfl (Or.inl ⟨by rfl, fun U hU => ?_⟩) ?_
  · go_simp
    refine vp_call (kR.out _)
  refine ⟨_, by (simp only [Ent.val]; go_simp <;> exact rfl), ?_⟩
  refine Seg.step _ rfl (Or.inl ⟨by rfl, fun U hU => vp_quiet (by (go_simp <;> exact rfl))⟩) ⟨_, by (simp only [Ent.val]; go_simp <;> exact rfl), ?_⟩
  refine Seg.step _ rfl (Or.inl ⟨by rfl, fun U hU => vp_quiet (by (go_simp <;> exact rfl))⟩) ⟨_, by (simp only [Ent.val]; go_simp <;> exact rfl), ?_⟩
  refine Seg.step _ rfl (Or.inl ⟨by rfl, fun U hU => vp_quiet (by (go_simp <;> exact rfl))⟩) ⟨_, by (simp only [Ent.val]; go_simp <;> exact rfl), ?_⟩
  refine Seg.step _ rfl (Or.inl ⟨by rfl, fun U hU => vp_quiet (by (have hx := t1 U hU.1; go_simp <;> exact rfl))⟩) ⟨_, by (simp only [Ent.val]; go_simp <;> exact rfl), ?_⟩
  refine Seg.step _ rfl (Or.inl ⟨by rfl, fun U hU => vp_quiet (by (go_simp <;> exact rfl))⟩) ⟨_, by (simp only [Ent.val]; go_simp <;> exact rfl), ?_⟩
  refine Seg.step _ rfl (Or.inl ⟨by rfl, fun U hU => vp_quiet (by (have hx := t2 U hU.1; go_simp <;> exact rfl))⟩) ⟨_, by (simp only [Ent.val]; go_simp <;> exact rfl), ?_⟩
  refine Seg.step _ rfl (Or.inl ⟨by rfl, fun U hU => vp_quiet (by (go_simp <;> exact rfl))⟩) ⟨_, by (simp only [Ent.val]; go_simp <;> exact rfl), ?_⟩
  refine Seg.step _ rfl (Or.inl ⟨by rfl, fun U hU => vp_quiet (by (go_simp <;> exact rfl))⟩) ⟨_, by (simp only [Ent.val]; go_simp <;> exact rfl), ?_⟩
  refine Seg.step _ rfl (Or.inl ⟨by rfl, fun U hU => vp_quiet (by (go_simp <;> exact rfl))⟩) ⟨_, by (simp only [Ent.val]; go_simp <;> exact rfl), ?_⟩
  refine Seg.step _ rfl (Or.inl ⟨by rfl, fun U hU => vp_quiet (by (go_simp <;> exact rfl))⟩) ⟨_, by (simp only [Ent.val]; go_simp <;> exact rfl), ?_⟩
  refine Seg.step _ rfl (Or.inl ⟨by rfl, fun U hU => ?_⟩) ?_
  · go_simp
    refine vp_calls (num18_any ee _ (by omega) (by omega))
  refine ⟨_, by (simp only [Ent.val]; go_simp <;> exact rfl), ?_⟩
  refine Seg.step _ rfl (Or.inl ⟨by rfl, fun U hU => vp_quiet (by (go_simp <;> exact rfl))⟩) ⟨_, by (simp only [Ent.val]; go_simp <;> exact rfl), ?_⟩
  refine Seg.step _ rfl (Or.inl ⟨by rfl, fun U hU => ?_⟩) ?_
  · go_simp
    refine vp_calls (num18_any ee _ (by omega) (by omega))
  refine ⟨_, by (simp only [Ent.val]; go_simp <;> exact rfl), ?_⟩
  refine Seg.step _ rfl (Or.inl ⟨by rfl, fun U hU => vp_quiet (by (go_simp <;> exact rfl))⟩) ⟨_, by (simp only [Ent.val]; go_simp <;> exact rfl), ?_⟩
  refine Seg.step _ rfl (Or.inl ⟨by rfl, fun U hU => vp_quiet (by (go_simp <;> exact rfl))⟩) ⟨_, by (simp only [Ent.val]; go_simp <;> exact rfl), ?_⟩
  refine Seg.step _ rfl (Or.inl ⟨by rfl, fun U hU => vp_quiet (by (go_simp <;> exact rfl))⟩) ⟨_, by (simp only [Ent.val]; go_simp <;> exact rfl), ?_⟩
  refine Seg.step _ rfl (Or.inl ⟨by rfl, fun U hU => vp_quiet (by (have h0 := held_cell (held_after hU.1 rk3) 0 _ rfl; have h1 := held_cell (held_after hU.1 rk3) 1 _ rfl; have h2 := held_cell (held_after hU.1 rk3) 2 _ rfl; have h3 := held_cell (held_after hU.1 rk3) 3 _ rfl; have h4 := held_cell (held_after hU.1 rk3) 4 _ rfl; have h5 := held_cell (held_after hU.1 rk3) 5 _ rfl; have h6 := held_cell (held_after hU.1 rk3) 6 _ rfl; have h7 := held_cell (held_after hU.1 rk3) 7 _ rfl; go_simp <;> exact rfl))⟩) ⟨_, by (simp only [Ent.val]; go_simp <;> exact rfl), ?_⟩
  refine Seg.step _ rfl (Or.inl ⟨by rfl, fun U hU => vp_quiet (by (have h0 := held_cell (held_after hU.1 rk4) 0 _ rfl; have h1 := held_cell (held_after hU.1 rk4) 1 _ rfl; have h2 := held_cell (held_after hU.1 rk4) 2 _ rfl; have h3 := held_cell (held_after hU.1 rk4) 3 _ rfl; have h4 := held_cell (held_after hU.1 rk4) 4 _ rfl; have h5 := held_cell (held_after hU.1 rk4) 5 _ rfl; have h6 := held_cell (held_after hU.1 rk4) 6 _ rfl; have h7 := held_cell (held_after hU.1 rk4) 7 _ rfl; go_simp <;> exact rfl))⟩) ⟨_, by (simp only [Ent.val]; go_simp <;> exact rfl), ?_⟩
  refine Seg.step _ rfl (Or.inl ⟨by rfl, fun U hU => vp_quiet (by (go_simp <;> exact rfl))⟩) ⟨_, by (simp only [Ent.val]; go_simp <;> exact rfl), ?_⟩
  refine Seg.step _ rfl (Or.inl ⟨by rfl, fun U hU => vp_quiet (by (go_simp <;> exact rfl))⟩) ⟨_, by (simp only [Ent.val]; go_simp <;> exact rfl), ?_⟩
  refine Seg.step _ rfl (Or.inl ⟨by rfl, fun U hU => vp_quiet (by (go_simp <;> exact rfl))⟩) ⟨_, by (simp only [Ent.val]; go_simp <;> exact rfl), ?_⟩
  refine Seg.step _ rfl (Or.inl ⟨by rfl, fun U hU => vp_quiet (by (go_simp <;> exact rfl))⟩) ⟨_, by (simp only [Ent.val]; go_simp <;> exact rfl), ?_⟩
  refine Seg.step _ rfl (Or.inl ⟨by rfl, fun U hU => ?_⟩) ?_
  · go_simp
    refine vp_calls (num18_any ge _ (by omega) (by omega))
  refine ⟨_, by (simp only [Ent.val]; go_simp <;> exact rfl), ?_⟩
  refine Seg.step _ rfl (Or.inl ⟨by rfl, fun U hU => vp_quiet (by (go_simp <;> exact rfl))⟩) ⟨_, by (simp only [Ent.val]; go_simp <;> exact rfl), ?_⟩
  refine Seg.step _ rfl (Or.inl ⟨by rfl, fun U hU => ?_⟩) ?_
  · go_simp
    refine vp_calls (num18_any ge _ (by omega) (by omega))
  refine ⟨_, by (simp only [Ent.val]; go_simp <;> exact rfl), ?_⟩
  refine Seg.step _ rfl (Or.inl ⟨by rfl, fun U hU => vp_quiet (by (go_simp <;> exact rfl))⟩) ⟨_, by (simp only [Ent.val]; go_simp <;> exact rfl), ?_⟩
  refine Seg.step _ rfl (Or.inl ⟨by rfl, fun U hU => vp_quiet (by (go_simp <;> exact rfl))⟩) ⟨_, by (simp only [Ent.val]; go_simp <;> exact rfl), ?_⟩
  refine Seg.step _ rfl (Or.inl ⟨by rfl, fun U hU => vp_quiet (by (go_simp <;> exact rfl))⟩) ⟨_, by (simp only [Ent.val]; go_simp <;> exact rfl), ?_⟩
  refine Seg.step _ rfl (Or.inl ⟨by rfl, fun U hU => vp_quiet (by (go_simp <;> exact rfl))⟩) ⟨_, by (simp only [Ent.val]; go_simp <;> exact rfl), ?_⟩
  refine Seg.step _ rfl (Or.inl ⟨by rfl, fun U hU => vp_quiet (by (go_simp <;> exact rfl))⟩) ⟨_, by (simp only [Ent.val]; go_simp <;> exact rfl), ?_⟩
  refine Seg.step _ rfl (Or.inl ⟨by rfl, fun U hU => ?_⟩) ?_
  · go_simp
    refine vp_calls (kT.out _)
  refine ⟨_, by (simp only [Ent.val]; go_simp <;> exact rfl), ?_⟩
  refine Seg.step _ rfl (Or.inl ⟨by rfl, fun U hU => vp_quiet (by (go_simp <;> exact rfl))⟩) ⟨_, by (simp only [Ent.val]; go_simp <;> exact rfl), ?_⟩
  refine Seg.step _ rfl (Or.inl ⟨by rfl, fun U hU => vp_quiet (by (go_simp <;> exact rfl))⟩) ⟨_, by (simp only [Ent.val]; go_simp <;> exact rfl), ?_⟩
  refine Seg.step _ rfl (Or.inl ⟨by rfl, fun U hU => ?_⟩) ?_
  · go_simp
    refine vp_calls (kU.out _)
  refine ⟨_, by (simp only [Ent.val]; go_simp <;> exact rfl), ?_⟩
  refine Seg.step _ rfl (Or.inl ⟨by rfl, fun U hU => vp_quiet (by (go_simp <;> exact rfl))⟩) ⟨_, by (simp only [Ent.val]; go_simp <;> exact rfl), ?_⟩
  refine Seg.step _ rfl (Or.inl ⟨by rfl, fun U hU => vp_quiet (by (go_simp <;> exact rfl))⟩) ⟨_, by (simp only [Ent.val]; go_simp <;> exact rfl), ?_⟩
  refine Seg.step _ rfl (Or.inl ⟨by rfl, fun U hU => vp_quiet (by (go_simp <;> exact rfl))⟩) ⟨_, by (simp only [Ent.val]; go_simp <;> exact rfl), ?_⟩
  refine Seg.stop (fun U1 hU hk => ?_)
  clear hk hge hne
  replace rm := held_after hU rm
  replace rk3 := held_after hU rk3
  replace rk4 := held_after hU rk4
  have sz1 := hU.size
  replace hB := bthen hB hU
  clear hU
  go_wp2_with fail
  go_ret
  exact ⟨ret_bool (by simp), hB⟩

end Go.Proofs.Ytalmkeehocakeaa
