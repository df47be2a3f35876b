/- The laws of layer 23: knows, DecimTells. -/
import Derived.Test.YtelffhelelbfiaaDoorDec9
import Derived.Test.YtelffhelelbfiaaDoorEls
import Derived.Laws.StructEq
import Derived.Deep.DeepCutAuto
namespace Go.Proofs.YtelffhelelbfiaaDoor
open Go.ChangeShapes Go.WideShapes Go.ChangeAt Go.RowKit
set_option linter.unusedVariables false
set_option linter.unusedSimpArgs false

theorem num23_any (n : Int) (w : World) (h1 : -9223372036854775808 ≤ n) (h2 : n ≤ 9223372036854775807) :
    Calls Tryd.prog 12 #[.int .i64 n] w fun e w' => e = .returned (.int .i64 n) ∧ w' = w := by
  go_enter Tryd.func12, Tryd.ntmps12
  go_wp2_with fail
  go_ret
  exact ⟨rfl, rfl⟩
theorem putD_e (is : Bool) (n W M F lo hi : Int) : 0 ≤ (putD is n W M F lo hi).2 ∧ (putD is n W M F lo hi).2 ≤ 9 := by
  unfold putD; split
  · simp
  · split
    · simp
    · split <;> simp
theorem takO_e (o : Option Nat) (q : Nat) (lo hi : Int) : 0 ≤ (takO o q lo hi).2.2 ∧ (takO o q lo hi).2.2 ≤ 9 := by
  cases o with
  | none => rw [takO_no]; simp
  | some m => rw [takO_some]; split <;> simp
theorem takD_e (s : ByteArray) (W M F lo hi : Int) : 0 ≤ (takD s W M F lo hi).2.2 ∧ (takD s W M F lo hi).2.2 ≤ 9 := by
  unfold takD; split
  · simp
  · split
    · simp
    · exact takO_e _ _ _ _
set_option maxRecDepth 100000 in
set_option maxHeartbeats 2000000 in
theorem knows23_any (w : World) (hT : Tab w) : Calls Tryd.prog 7 #[] w fun e w' => e = .returned (.bool true) ∧ Below w.heap.size w w' := by
  have e1 : putD true (-5) 1 3 2 (-99) 99 = ([45, 48, 46, 48, 53], 0) := by decide +kernel
  have e2 : angD true 288423000 true = ([52, 56, 48, 52, 46, 50, 51], [78], 0) := by decide +kernel
  have b1 : nb [45, 48, 46, 48, 53] = ⟨#[45, 48, 46, 48, 53]⟩ := by rfl
  have b2 : nb [52, 56, 48, 52, 46, 50, 51] = ⟨#[52, 56, 48, 52, 46, 50, 51]⟩ := by rfl
  have b3 : nb [78] = ⟨#[78]⟩ := by rfl
  have k1 := put23_any true (-5) 1 3 2 (-99) 99 w (by decide) (by decide) hT
  have k2 := hid (fun U (h : Tab U) => angle_any true 288423000 true U (by decide) h)
  rw [e1] at k1
  rw [e2] at k2
  dsimp only at k1 k2
  rw [b1] at k1
  rw [b2, b3] at k2
  replace k1 := hid k1
  replace hT := hid hT
  clear e1 e2 b1 b2 b3
  go_enter Tryd.func7, Tryd.ntmps7
  go_wp2_with fail
  refine (k1.out).mono ?_
  rintro e V1 ⟨rfl, hA⟩
  have hB := hid hA
  clear hA
  go_wp2_with fail
  refine (k2.out _ (hT.out.on hB.out)).mono ?_
  rintro e V2 ⟨rfl, hA⟩
  replace hB := hid (bthen hB.out hA)
  clear hA
  go_wp2_with fail
  refine (num23_any 0 _ (by omega) (by omega)).mono ?_
  rintro e V ⟨rfl, rfl⟩
  go_wp2_with fail
  refine (num23_any 0 _ (by omega) (by omega)).mono ?_
  rintro e V ⟨rfl, rfl⟩
  go_wp2_with fail
  go_ret
  exact ⟨rfl, hB.out⟩
set_option maxRecDepth 100000 in
set_option maxHeartbeats 8000000 in
theorem law_DecimTells (a0_0 : Bool) (a0_1 : Int) (a1 : ByteArray) (a2_0 : Int) (a2_1 : Int) (a2_2 : Int) (a2_3 : Int) (a2_4 : Int) (W : World) (w0_1 : (Lit.int .i64 a0_1).wf = true) (w1 : a1.size ≤ maxLen) (w2_0 : (Lit.int .i64 a2_0).wf = true) (w2_1 : (Lit.int .i64 a2_1).wf = true) (w2_2 : (Lit.int .i64 a2_2).wf = true) (w2_3 : (Lit.int .i64 a2_3).wf = true) (w2_4 : (Lit.int .i64 a2_4).wf = true) (hT : Tab W) :
    Calls Tryd.prog 3 #[.agg #[.bool a0_0, .int .i64 a0_1], .string a1, .agg #[.int .i64 a2_0, .int .i64 a2_1, .int .i64 a2_2, .int .i64 a2_3, .int .i64 a2_4]] W fun e w' => e = .returned (.bool true) ∧ Below W.heap.size W w' := by
  have hb := bounds_i64 w0_1
  have hl3 := bounds_i64 w2_3
  have hl4 := bounds_i64 w2_4
  clear w0_1 w2_0 w2_1 w2_2 w2_3 w2_4
  have pe := putD_e a0_0 a0_1 a2_0 a2_1 a2_2 a2_3 a2_4
  have te := takD_e a1 a2_0 a2_1 a2_2 a2_3 a2_4
  have kP := hid (fun U (h : Tab U) => put23_any a0_0 a0_1 a2_0 a2_1 a2_2 a2_3 a2_4 U hb ⟨hl3, hl4⟩ h)
  have kQ := hid (fun U => rput23_any a0_0 a0_1 a2_0 a2_1 a2_2 a2_3 a2_4 U hb ⟨hl3, hl4⟩)
  have kR := hid (fun U => right23_any a2_0 a2_1 a2_2 a2_3 a2_4 ⟨hl3, hl4⟩ U)
  have kS := hid (fun U => rright23_any a2_0 a2_1 a2_2 a2_3 a2_4 ⟨hl3, hl4⟩ U)
  by_cases cb : (100 : Int) < a1.size
  case pos =>
    clear pe te kP kQ kR kS hb hl3 hl4
    go_enter Tryd.func3, Tryd.ntmps3
    go_upto_region 0 with (fail)
    apply wp_region_seg0 (w := W) (S := [.al 1000, .al 1000, .q []]) (E := [.al ((fun p => .pointer (some ⟨p, 0, none⟩)), _) 1000, .al ((fun p => .pointer (some ⟨p, 0, none⟩)), _) 1000, .q0 _]) rfl (by kernel_rfl) rfl rfl
    intro th hge hne
    refine Seg.step _ rfl ⟨by rfl, fun U hU => ?_⟩ ?_
    · go_simp; exact vp_alloc rfl rfl rfl
    refine ⟨_, by (simp only [Ent.val]; go_simp <;> exact rfl), ?_⟩
    refine Seg.step _ rfl ⟨by rfl, fun U hU => ?_⟩ ?_
    · go_simp; exact vp_alloc rfl rfl rfl
    refine ⟨_, by (simp only [Ent.val]; go_simp <;> exact rfl), ?_⟩
    refine Seg.step _ rfl (Or.inl ⟨by rfl, fun U hU => vp_quiet (by (go_simp <;> exact rfl))⟩) ⟨_, by (simp only [Ent.val]; go_simp <;> exact rfl), ?_⟩
    refine Seg.stop (fun U1 hU hk => ?_)
    have nb0 := hge 0 _ _ rfl
    have rb0 := (hk 0 _ _ rfl trivial).1.2 (by simp)
    have nb1 := hge 1 _ _ rfl
    have rb1 := (hk 1 _ _ rfl trivial).1.2 (by simp)
    have ne0_1 := hne 0 1 _ _ _ _ rfl rfl (by omega)
    clear hk hge hne
    generalize th (0 + 0) = p0_0 at *
    dsimp only at rb0
    generalize th (0 + 1) = p0_1 at *
    dsimp only at rb1
    have r_p0_0 := rb0
    clear rb0
    have n_p0_0 := nb0
    clear nb0
    have d_p0_0_p0_1 := ne0_1
    clear ne0_1
    have r_p0_1 := rb1
    clear rb1
    have n_p0_1 := nb1
    clear nb1
    have sz1 := hU.size
    have hB : Below W.heap.size W U1 := hU
    clear hU
    replace hT := hid (hT.on hB)
    replace hB := hid hB
    clear r_p0_0 r_p0_1
    go_wp2_with fail
    refine (knows23_any _ hT.out).mono ?_
    rintro e V ⟨rfl, hst⟩
    replace hB := hid (bthen hB.out hst)
    clear hst
    go_wp2_with fail
    go_ret
    exact ⟨rfl, hB.out⟩
  have kT := hid (fun U => take23_any a1 a2_0 a2_1 a2_2 a2_3 a2_4 U (by omega) ⟨hl3, hl4⟩)
  have kU := hid (fun U => rtake23_any a1 a2_0 a2_1 a2_2 a2_3 a2_4 U (by omega) ⟨hl3, hl4⟩)
  obtain ⟨⟨PL, ee⟩, hpd⟩ : ∃ r, putD a0_0 a0_1 a2_0 a2_1 a2_2 a2_3 a2_4 = r := ⟨_, rfl⟩
  obtain ⟨⟨ti, tn, ge⟩, htd⟩ : ∃ r, takD a1 a2_0 a2_1 a2_2 a2_3 a2_4 = r := ⟨_, rfl⟩
  rw [hpd] at pe kP kQ
  rw [htd] at te kT kU
  dsimp only at pe te kP kQ kT kU
  obtain ⟨RB, hRB⟩ : ∃ r, rightC a2_0 a2_1 a2_2 a2_3 a2_4 = r := ⟨_, rfl⟩
  rw [hRB] at kR kS
  generalize nb PL = TX at *
  clear hpd htd hRB hb hl3 hl4
  go_enter Tryd.func3, Tryd.ntmps3
  go_upto_region 0 with (fail)
  apply wp_region_seg0 (w := W) (S := [.al 1000, .al 1000, .q []]) (E := [.al ((fun p => .pointer (some ⟨p, 0, none⟩)), _) 1000, .al ((fun p => .pointer (some ⟨p, 0, none⟩)), _) 1000, .q0 _]) rfl (by kernel_rfl) rfl rfl
  intro th hge hne
  refine Seg.step _ rfl ⟨by rfl, fun U hU => ?_⟩ ?_
  · go_simp; exact vp_alloc rfl rfl rfl
  refine ⟨_, by (simp only [Ent.val]; go_simp <;> exact rfl), ?_⟩
  refine Seg.step _ rfl ⟨by rfl, fun U hU => ?_⟩ ?_
  · go_simp; exact vp_alloc rfl rfl rfl
  refine ⟨_, by (simp only [Ent.val]; go_simp <;> exact rfl), ?_⟩
  refine Seg.step _ rfl (Or.inl ⟨by rfl, fun U hU => vp_quiet (by (go_simp <;> exact rfl))⟩) ⟨_, by (simp only [Ent.val]; go_simp <;> exact rfl), ?_⟩
  refine Seg.stop (fun U1 hU hk => ?_)
  have nb0 := hge 0 _ _ rfl
  have rb0 := (hk 0 _ _ rfl trivial).1.2 (by simp)
  have nb1 := hge 1 _ _ rfl
  have rb1 := (hk 1 _ _ rfl trivial).1.2 (by simp)
  have ne0_1 := hne 0 1 _ _ _ _ rfl rfl (by omega)
  clear hk hge hne
  generalize th (0 + 0) = p0_0 at *
  dsimp only at rb0
  generalize th (0 + 1) = p0_1 at *
  dsimp only at rb1
  have r_p0_0 := rb0
  clear rb0
  have n_p0_0 := nb0
  clear nb0
  have d_p0_0_p0_1 := ne0_1
  clear ne0_1
  have r_p0_1 := rb1
  clear rb1
  have n_p0_1 := nb1
  clear nb1
  have sz1 := hU.size
  have hB : Below W.heap.size W U1 := hU
  clear hU
  have hTb := hid (hT.on hB)
  replace hB := hid hB
  have rn := hid r_p0_0
  have rc := hid r_p0_1
  clear r_p0_0 r_p0_1 hT
  go_wp2_with fail
  refine (knows23_any _ hTb.out).mono ?_
  rintro e V1 ⟨rfl, hA⟩
  replace hB := hid (bthen hB.out hA)
  replace hTb := hid (hTb.out.on hA)
  replace rn := hid (held_after hA rn.out)
  replace rc := hid (held_after hA rc.out)
  clear hA
  have x0 := held_cell rn.out 0 _ rfl
  have x1 := held_cell rn.out 1 _ rfl
  have y0 := held_cell rc.out 0 _ rfl
  have y1 := held_cell rc.out 1 _ rfl
  have y2 := held_cell rc.out 2 _ rfl
  have y3 := held_cell rc.out 3 _ rfl
  have y4 := held_cell rc.out 4 _ rfl
  go_wp2_with fail
  refine (kP.out _ hTb.out).mono ?_
  rintro e V2 ⟨rfl, hA⟩
  replace hB := hid (bthen hB.out hA)
  replace hTb := hid (hTb.out.on hA)
  replace rn := hid (held_after hA rn.out)
  replace rc := hid (held_after hA rc.out)
  clear hA
  clear x0 x1 y0 y1 y2 y3 y4
  have x0 := held_cell rn.out 0 _ rfl
  have x1 := held_cell rn.out 1 _ rfl
  have y0 := held_cell rc.out 0 _ rfl
  have y1 := held_cell rc.out 1 _ rfl
  have y2 := held_cell rc.out 2 _ rfl
  have y3 := held_cell rc.out 3 _ rfl
  have y4 := held_cell rc.out 4 _ rfl
  go_wp2_with fail
  refine (kQ.out _).mono ?_
  rintro e V3 ⟨rfl, hA⟩
  replace hB := hid (bthen hB.out hA)
  replace hTb := hid (hTb.out.on hA)
  replace rn := hid (held_after hA rn.out)
  replace rc := hid (held_after hA rc.out)
  clear hA
  clear x0 x1 y0 y1 y2 y3 y4
  have x0 := held_cell rn.out 0 _ rfl
  have x1 := held_cell rn.out 1 _ rfl
  have y0 := held_cell rc.out 0 _ rfl
  have y1 := held_cell rc.out 1 _ rfl
  have y2 := held_cell rc.out 2 _ rfl
  have y3 := held_cell rc.out 3 _ rfl
  have y4 := held_cell rc.out 4 _ rfl
  go_wp2_with fail
  refine (kT.out _).mono ?_
  rintro e V4 ⟨rfl, hA⟩
  replace hB := hid (bthen hB.out hA)
  replace hTb := hid (hTb.out.on hA)
  replace rn := hid (held_after hA rn.out)
  replace rc := hid (held_after hA rc.out)
  clear hA
  clear x0 x1 y0 y1 y2 y3 y4
  have nw := alloc_new V4 (.cells #[.bool ti, .int .i64 tn] 23)
  have hA := nw.2.1
  have ra := nw.2.2
  clear nw
  go_upto_region 6 with (fail)
  obtain ⟨V5, hV5⟩ : ∃ X, V4.alloc (.cells #[.bool ti, .int .i64 tn] 23) = X := ⟨_, rfl⟩
  rw [hV5] at hA ra ⊢
  obtain ⟨qa, hqa⟩ : ∃ X, V4.heap.size = X := ⟨_, rfl⟩
  rw [hqa] at ra ⊢
  replace hV5 := hid hV5
  replace hqa := hid hqa
  replace hB := hid (bthen hB.out hA)
  replace hTb := hid (hTb.out.on hA)
  replace rn := hid (held_after hA rn.out)
  replace rc := hid (held_after hA rc.out)
  clear hA
  replace ra := hid ra
  have x0 := held_cell rn.out 0 _ rfl
  have x1 := held_cell rn.out 1 _ rfl
  have y0 := held_cell rc.out 0 _ rfl
  have y1 := held_cell rc.out 1 _ rfl
  have y2 := held_cell rc.out 2 _ rfl
  have y3 := held_cell rc.out 3 _ rfl
  have y4 := held_cell rc.out 4 _ rfl
  go_wp2_with fail
  refine (kU.out _).mono ?_
  rintro e V6 ⟨rfl, hA⟩
  replace hB := hid (bthen hB.out hA)
  replace hTb := hid (hTb.out.on hA)
  replace rn := hid (held_after hA rn.out)
  replace rc := hid (held_after hA rc.out)
  replace ra := hid (held_after hA ra.out)
  clear hA
  clear x0 x1 y0 y1 y2 y3 y4
  have nw := alloc_new V6 (.cells #[.bool ti, .int .i64 tn] 23)
  have hA := nw.2.1
  have rb := nw.2.2
  clear nw
  go_upto_region 7 with (fail)
  obtain ⟨V7, hV7⟩ : ∃ X, V6.alloc (.cells #[.bool ti, .int .i64 tn] 23) = X := ⟨_, rfl⟩
  rw [hV7] at hA rb ⊢
  obtain ⟨qb, hqb⟩ : ∃ X, V6.heap.size = X := ⟨_, rfl⟩
  rw [hqb] at rb ⊢
  replace hV7 := hid hV7
  replace hqb := hid hqb
  replace hB := hid (bthen hB.out hA)
  replace hTb := hid (hTb.out.on hA)
  replace rn := hid (held_after hA rn.out)
  replace rc := hid (held_after hA rc.out)
  replace ra := hid (held_after hA ra.out)
  clear hA
  replace rb := hid rb
  replace hB := hB.out
  apply wp_region_seg (w := V7) (S := [.q [], .q [], .q [], .q [], .q [], .q [], .q [], .q [], .q [], .q [], .q [], .q [], .q [], .q [], .q [], .q [], .q [], .q [], .q [], .q [], .q [], .q [], .q [], .q [], .q [], .q [], .q [], .q [], .q [], .q []]) (E := [.q0 _, .q0 _, .q0 _, .q0 _, .q0 _, .c0 _, .q0 _, .c0 _, .q0 _, .q0 _, .q0 _, .q0 _, .q0 _, .q0 _, .q0 _, .q0 _, .q0 _, .c0 _, .q0 _, .c0 _, .q0 _, .q0 _, .q0 _, .q0 _, .c0 _, .q0 _, .c0 _, .q0 _, .q0 _, .q0 _]) (by kernel_rfl) rfl (by kernel_rfl) rfl rfl
  intro th hge hne
  refine Seg.step _ rfl (Or.inl ⟨by rfl, fun U hU => vp_quiet (by (go_simp <;> exact rfl))⟩) ⟨_, by (simp only [Ent.val]; go_simp <;> exact rfl), ?_⟩
  refine Seg.step _ rfl (Or.inl ⟨by rfl, fun U hU => vp_quiet (by (go_simp <;> exact rfl))⟩) ⟨_, by (simp only [Ent.val]; go_simp <;> exact rfl), ?_⟩
  refine Seg.step _ rfl (Or.inl ⟨by rfl, fun U hU => vp_quiet (by (go_simp <;> exact rfl))⟩) ⟨_, by (simp only [Ent.val]; go_simp <;> exact rfl), ?_⟩
  refine Seg.step _ rfl (Or.inl ⟨by rfl, fun U hU => vp_quiet (by (go_simp <;> exact rfl))⟩) ⟨_, by (simp only [Ent.val]; go_simp <;> exact rfl), ?_⟩
  refine Seg.step _ rfl (Or.inl ⟨by rfl, fun U hU => vp_quiet (by (go_simp <;> exact rfl))⟩) ⟨_, by (simp only [Ent.val]; go_simp <;> exact rfl), ?_⟩
  refine Seg.step _ rfl (Or.inl ⟨by rfl, fun U hU => ?_⟩) ?_
  · go_simp
    refine vp_calls (num23_any ee _ (by omega) (by omega))
  refine ⟨_, by (simp only [Ent.val]; go_simp <;> exact rfl), ?_⟩
  refine Seg.step _ rfl (Or.inl ⟨by rfl, fun U hU => vp_quiet (by (go_simp <;> exact rfl))⟩) ⟨_, by (simp only [Ent.val]; go_simp <;> exact rfl), ?_⟩
  refine Seg.step _ rfl (Or.inl ⟨by rfl, fun U hU => ?_⟩) ?_
  · go_simp
    refine vp_calls (num23_any ee _ (by omega) (by omega))
  refine ⟨_, by (simp only [Ent.val]; go_simp <;> exact rfl), ?_⟩
  refine Seg.step _ rfl (Or.inl ⟨by rfl, fun U hU => vp_quiet (by (go_simp <;> exact rfl))⟩) ⟨_, by (simp only [Ent.val]; go_simp <;> exact rfl), ?_⟩
  refine Seg.step _ rfl (Or.inl ⟨by rfl, fun U hU => vp_quiet (by (go_simp <;> exact rfl))⟩) ⟨_, by (simp only [Ent.val]; go_simp <;> exact rfl), ?_⟩
  refine Seg.step _ rfl (Or.inl ⟨by rfl, fun U hU => vp_quiet (by (go_simp <;> exact rfl))⟩) ⟨_, by (simp only [Ent.val]; go_simp <;> exact rfl), ?_⟩
  refine Seg.step _ rfl (Or.inl ⟨by rfl, fun U hU => vp_quiet (by (have h0 := held_cell (held_after hU.1 ra.out) 0 _ rfl; have h1 := held_cell (held_after hU.1 ra.out) 1 _ rfl; go_simp <;> exact rfl))⟩) ⟨_, by (simp only [Ent.val]; go_simp <;> exact rfl), ?_⟩
  refine Seg.step _ rfl (Or.inl ⟨by rfl, fun U hU => vp_quiet (by (have h0 := held_cell (held_after hU.1 rb.out) 0 _ rfl; have h1 := held_cell (held_after hU.1 rb.out) 1 _ rfl; go_simp <;> exact rfl))⟩) ⟨_, by (simp only [Ent.val]; go_simp <;> exact rfl), ?_⟩
  refine Seg.step _ rfl (Or.inl ⟨by rfl, fun U hU => vp_quiet (by (go_simp <;> exact rfl))⟩) ⟨_, by (simp only [Ent.val]; go_simp <;> exact rfl), ?_⟩
  refine Seg.step _ rfl (Or.inl ⟨by rfl, fun U hU => vp_quiet (by (go_simp <;> exact rfl))⟩) ⟨_, by (simp only [Ent.val]; go_simp <;> exact rfl), ?_⟩
  refine Seg.step _ rfl (Or.inl ⟨by rfl, fun U hU => vp_quiet (by (go_simp <;> exact rfl))⟩) ⟨_, by (simp only [Ent.val]; go_simp <;> exact rfl), ?_⟩
  refine Seg.step _ rfl (Or.inl ⟨by rfl, fun U hU => vp_quiet (by (go_simp <;> exact rfl))⟩) ⟨_, by (simp only [Ent.val]; go_simp <;> exact rfl), ?_⟩
  refine Seg.step _ rfl (Or.inl ⟨by rfl, fun U hU => ?_⟩) ?_
  · go_simp
    refine vp_calls (num23_any ge _ (by omega) (by omega))
  refine ⟨_, by (simp only [Ent.val]; go_simp <;> exact rfl), ?_⟩
  refine Seg.step _ rfl (Or.inl ⟨by rfl, fun U hU => vp_quiet (by (go_simp <;> exact rfl))⟩) ⟨_, by (simp only [Ent.val]; go_simp <;> exact rfl), ?_⟩
  refine Seg.step _ rfl (Or.inl ⟨by rfl, fun U hU => ?_⟩) ?_
  · go_simp
    refine vp_calls (num23_any ge _ (by omega) (by omega))
  refine ⟨_, by (simp only [Ent.val]; go_simp <;> exact rfl), ?_⟩
  refine Seg.step _ rfl (Or.inl ⟨by rfl, fun U hU => vp_quiet (by (go_simp <;> exact rfl))⟩) ⟨_, by (simp only [Ent.val]; go_simp <;> exact rfl), ?_⟩
  refine Seg.step _ rfl (Or.inl ⟨by rfl, fun U hU => vp_quiet (by (go_simp <;> exact rfl))⟩) ⟨_, by (simp only [Ent.val]; go_simp <;> exact rfl), ?_⟩
  refine Seg.step _ rfl (Or.inl ⟨by rfl, fun U hU => vp_quiet (by (go_simp <;> exact rfl))⟩) ⟨_, by (simp only [Ent.val]; go_simp <;> exact rfl), ?_⟩
  refine Seg.step _ rfl (Or.inl ⟨by rfl, fun U hU => vp_quiet (by (have h0 := held_cell (held_after hU.1 rc.out) 0 _ rfl; have h1 := held_cell (held_after hU.1 rc.out) 1 _ rfl; have h2 := held_cell (held_after hU.1 rc.out) 2 _ rfl; have h3 := held_cell (held_after hU.1 rc.out) 3 _ rfl; have h4 := held_cell (held_after hU.1 rc.out) 4 _ rfl; go_simp <;> exact rfl))⟩) ⟨_, by (simp only [Ent.val]; go_simp <;> exact rfl), ?_⟩
  refine Seg.step _ rfl (Or.inl ⟨by rfl, fun U hU => ?_⟩) ?_
  · go_simp
    refine vp_call (kR.out _)
  refine ⟨_, by (simp only [Ent.val]; go_simp <;> exact rfl), ?_⟩
  refine Seg.step _ rfl (Or.inl ⟨by rfl, fun U hU => vp_quiet (by (have h0 := held_cell (held_after hU.1 rc.out) 0 _ rfl; have h1 := held_cell (held_after hU.1 rc.out) 1 _ rfl; have h2 := held_cell (held_after hU.1 rc.out) 2 _ rfl; have h3 := held_cell (held_after hU.1 rc.out) 3 _ rfl; have h4 := held_cell (held_after hU.1 rc.out) 4 _ rfl; go_simp <;> exact rfl))⟩) ⟨_, by (simp only [Ent.val]; go_simp <;> exact rfl), ?_⟩
  refine Seg.step _ rfl (Or.inl ⟨by rfl, fun U hU => ?_⟩) ?_
  · go_simp
    refine vp_call (kS.out _)
  refine ⟨_, by (simp only [Ent.val]; go_simp <;> exact rfl), ?_⟩
  refine Seg.step _ rfl (Or.inl ⟨by rfl, fun U hU => vp_quiet (by (go_simp <;> exact rfl))⟩) ⟨_, by (simp only [Ent.val]; go_simp <;> exact rfl), ?_⟩
  refine Seg.step _ rfl (Or.inl ⟨by rfl, fun U hU => vp_quiet (by (go_simp <;> exact rfl))⟩) ⟨_, by (simp only [Ent.val]; go_simp <;> exact rfl), ?_⟩
  refine Seg.step _ rfl (Or.inl ⟨by rfl, fun U hU => vp_quiet (by (go_simp <;> exact rfl))⟩) ⟨_, by (simp only [Ent.val]; go_simp <;> exact rfl), ?_⟩
  refine Seg.stop (fun U2 hU hk => ?_)
  clear hk hge hne
  have sz2 := hU.size
  replace hB := bthen hB hU
  clear hU
  go_wp2_with fail
  go_ret
  exact ⟨ret_bool (by simp), hB⟩

end Go.Proofs.YtelffhelelbfiaaDoor
