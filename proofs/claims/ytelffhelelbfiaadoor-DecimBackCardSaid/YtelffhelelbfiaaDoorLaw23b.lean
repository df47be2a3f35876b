/- The laws of layer 23: DecimAngles. -/
import Derived.Test.YtelffhelelbfiaaDoorDec11
import Derived.Test.YtelffhelelbfiaaDoorDec12
import Derived.Test.YtelffhelelbfiaaDoorDec13
import Derived.Test.YtelffhelelbfiaaDoorLaw23
import Derived.Laws.StructEq
import Derived.Deep.DeepCutAuto
namespace Go.Proofs.YtelffhelelbfiaaDoor
open Go.ChangeShapes Go.WideShapes Go.ChangeAt Go.RowKit
set_option linter.unusedVariables false
set_option linter.unusedSimpArgs false

theorem angD_e (is : Bool) (n : Int) (lat : Bool) : 0 ≤ (angD is n lat).2.2 ∧ (angD is n lat).2.2 ≤ 9 := by
  unfold angD; split
  · simp
  · split <;> simp
theorem tkaD_e (s side : ByteArray) (lat : Bool) : 0 ≤ (tkaD s side lat).2.2 ∧ (tkaD s side lat).2.2 ≤ 9 := by
  unfold tkaD; split
  · simp
  · cases fixP (sb s) 0 (wideA lat + 2) (wideA lat + 2) 5 with
    | none => rw [tkaO_no]; simp
    | some m =>
      rw [tkaO_some]; split
      · simp
      · split <;> simp
set_option maxRecDepth 100000 in
set_option maxHeartbeats 8000000 in
theorem law_DecimAngles (a0_0 : Bool) (a0_1 : Int) (a1 : ByteArray) (a2 : ByteArray) (a3 : Bool) (W : World) (w0_1 : (Lit.int .i64 a0_1).wf = true) (w1 : a1.size ≤ maxLen) (w2 : a2.size ≤ maxLen) (hT : Tab W) :
    Calls Tryd.prog 4 #[.agg #[.bool a0_0, .int .i64 a0_1], .string a1, .string a2, .bool a3] W fun e w' => e = .returned (.bool true) ∧ Below W.heap.size W w' := by
  have hb := bounds_i64 w0_1
  clear w0_1
  have pe := angD_e a0_0 a0_1 a3
  have te := tkaD_e a1 a2 a3
  have kP := hid (fun U (h : Tab U) => angle_any a0_0 a0_1 a3 U hb h)
  have kQ := hid (fun U => rangle_any a0_0 a0_1 a3 U hb)
  have kR := hid (fun U => degrees_any a0_1 U hb)
  have kS := hid (fun U => rdegrees_any a0_1 U hb)
  by_cases cb : (100 : Int) < a1.size
  case pos =>
    clear pe te kP kQ kR kS hb
    go_enter Tryd.func4, Tryd.ntmps4
    go_upto_region 0 with (fail)
    apply wp_region_seg0 (w := W) (S := [.al 1000, .q []]) (E := [.al ((fun p => .pointer (some ⟨p, 0, none⟩)), _) 1000, .q0 _]) rfl (by kernel_rfl) rfl rfl
    intro th hge hne
    refine Seg.step _ rfl ⟨by rfl, fun U hU => ?_⟩ ?_
    · go_simp; exact vp_alloc rfl rfl rfl
    refine ⟨_, by (simp only [Ent.val]; go_simp <;> exact rfl), ?_⟩
    refine Seg.step _ rfl (Or.inl ⟨by rfl, fun U hU => vp_quiet (by (go_simp <;> exact rfl))⟩) ⟨_, by (simp only [Ent.val]; go_simp <;> exact rfl), ?_⟩
    refine Seg.stop (fun U1 hU hk => ?_)
    have nb0 := hge 0 _ _ rfl
    have rb0 := (hk 0 _ _ rfl trivial).1.2 (by simp)
    clear hk hge hne
    generalize th (0 + 0) = p0_0 at *
    dsimp only at rb0
    have r_p0_0 := rb0
    clear rb0
    have n_p0_0 := nb0
    clear nb0
    have sz1 := hU.size
    have hB : Below W.heap.size W U1 := hU
    clear hU
    replace hT := hid (hT.on hB)
    replace hB := hid hB
    clear r_p0_0
    go_wp2_with fail
    refine (knows23_any _ hT.out).mono ?_
    rintro e V ⟨rfl, hst⟩
    replace hB := hid (bthen hB.out hst)
    clear hst
    go_wp2_with fail
    go_ret
    exact ⟨rfl, hB.out⟩
  by_cases cc : (100 : Int) < a2.size
  case pos =>
    clear pe te kP kQ kR kS hb
    go_enter Tryd.func4, Tryd.ntmps4
    go_upto_region 0 with (fail)
    apply wp_region_seg0 (w := W) (S := [.al 1000, .q []]) (E := [.al ((fun p => .pointer (some ⟨p, 0, none⟩)), _) 1000, .q0 _]) rfl (by kernel_rfl) rfl rfl
    intro th hge hne
    refine Seg.step _ rfl ⟨by rfl, fun U hU => ?_⟩ ?_
    · go_simp; exact vp_alloc rfl rfl rfl
    refine ⟨_, by (simp only [Ent.val]; go_simp <;> exact rfl), ?_⟩
    refine Seg.step _ rfl (Or.inl ⟨by rfl, fun U hU => vp_quiet (by (go_simp <;> exact rfl))⟩) ⟨_, by (simp only [Ent.val]; go_simp <;> exact rfl), ?_⟩
    refine Seg.stop (fun U1 hU hk => ?_)
    have nb0 := hge 0 _ _ rfl
    have rb0 := (hk 0 _ _ rfl trivial).1.2 (by simp)
    clear hk hge hne
    generalize th (0 + 0) = p0_0 at *
    dsimp only at rb0
    have r_p0_0 := rb0
    clear rb0
    have n_p0_0 := nb0
    clear nb0
    have sz1 := hU.size
    have hB : Below W.heap.size W U1 := hU
    clear hU
    replace hT := hid (hT.on hB)
    replace hB := hid hB
    clear r_p0_0
    go_wp2_with fail
    refine (knows23_any _ hT.out).mono ?_
    rintro e V ⟨rfl, hst⟩
    replace hB := hid (bthen hB.out hst)
    clear hst
    go_wp2_with fail
    go_ret
    exact ⟨rfl, hB.out⟩
  have kT := hid (fun U => tangle_any a1 a2 a3 U (by omega))
  have kU := hid (fun U => rtangle_any a1 a2 a3 U (by omega))
  obtain ⟨⟨PA, PB, ee⟩, hpd⟩ : ∃ r, angD a0_0 a0_1 a3 = r := ⟨_, rfl⟩
  obtain ⟨⟨ti, tn, ge⟩, htd⟩ : ∃ r, tkaD a1 a2 a3 = r := ⟨_, rfl⟩
  rw [hpd] at pe kP kQ
  rw [htd] at te kT kU
  dsimp only at pe te kP kQ kT kU
  generalize nb PA = TX at *
  generalize nb PB = TY at *
  generalize degV a0_1 = DG at *
  clear hpd htd hb
  go_enter Tryd.func4, Tryd.ntmps4
  go_upto_region 0 with (fail)
  apply wp_region_seg0 (w := W) (S := [.al 1000, .q []]) (E := [.al ((fun p => .pointer (some ⟨p, 0, none⟩)), _) 1000, .q0 _]) rfl (by kernel_rfl) rfl rfl
  intro th hge hne
  refine Seg.step _ rfl ⟨by rfl, fun U hU => ?_⟩ ?_
  · go_simp; exact vp_alloc rfl rfl rfl
  refine ⟨_, by (simp only [Ent.val]; go_simp <;> exact rfl), ?_⟩
  refine Seg.step _ rfl (Or.inl ⟨by rfl, fun U hU => vp_quiet (by (go_simp <;> exact rfl))⟩) ⟨_, by (simp only [Ent.val]; go_simp <;> exact rfl), ?_⟩
  refine Seg.stop (fun U1 hU hk => ?_)
  have nb0 := hge 0 _ _ rfl
  have rb0 := (hk 0 _ _ rfl trivial).1.2 (by simp)
  clear hk hge hne
  generalize th (0 + 0) = p0_0 at *
  dsimp only at rb0
  have r_p0_0 := rb0
  clear rb0
  have n_p0_0 := nb0
  clear nb0
  have sz1 := hU.size
  have hB : Below W.heap.size W U1 := hU
  clear hU
  have hTb := hid (hT.on hB)
  replace hB := hid hB
  have rn := hid r_p0_0
  clear r_p0_0 hT
  go_wp2_with fail
  refine (knows23_any _ hTb.out).mono ?_
  rintro e V1 ⟨rfl, hA⟩
  replace hB := hid (bthen hB.out hA)
  replace hTb := hid (hTb.out.on hA)
  replace rn := hid (held_after hA rn.out)
  clear hA
  have x0 := held_cell rn.out 0 _ rfl
  have x1 := held_cell rn.out 1 _ rfl
  go_wp2_with fail
  refine (kP.out _ hTb.out).mono ?_
  rintro e V2 ⟨rfl, hA⟩
  replace hB := hid (bthen hB.out hA)
  replace hTb := hid (hTb.out.on hA)
  replace rn := hid (held_after hA rn.out)
  clear hA
  clear x0 x1
  have x0 := held_cell rn.out 0 _ rfl
  have x1 := held_cell rn.out 1 _ rfl
  go_wp2_with fail
  refine (kQ.out _).mono ?_
  rintro e V3 ⟨rfl, hA⟩
  replace hB := hid (bthen hB.out hA)
  replace hTb := hid (hTb.out.on hA)
  replace rn := hid (held_after hA rn.out)
  clear hA
  clear x0 x1
  have x0 := held_cell rn.out 0 _ rfl
  have x1 := held_cell rn.out 1 _ rfl
  go_wp2_with fail
  refine (kT.out _).mono ?_
  rintro e V4 ⟨rfl, hA⟩
  replace hB := hid (bthen hB.out hA)
  replace hTb := hid (hTb.out.on hA)
  replace rn := hid (held_after hA rn.out)
  clear hA
  clear x0 x1
  have nw := alloc_new V4 (.cells #[.bool ti, .int .i64 tn] 23)
  have hA := nw.2.1
  have ra := nw.2.2
  clear nw
  go_upto_region 6 with (fail)
  obtain ⟨V5, hV5⟩ : ∃ X, V4.alloc (.cells #[.bool ti, .int .i64 tn] 23) = X := ⟨_, rfl⟩
  rw [hV5] at hA ra ⊢
  obtain ⟨qa, hqa⟩ : ∃ X, V4.heap.size = X := ⟨_, rfl⟩
  rw [hqa] at ra ⊢
  replace hV5 := hid hV5
  replace hqa := hid hqa
  replace hB := hid (bthen hB.out hA)
  replace hTb := hid (hTb.out.on hA)
  replace rn := hid (held_after hA rn.out)
  clear hA
  replace ra := hid ra
  have x0 := held_cell rn.out 0 _ rfl
  have x1 := held_cell rn.out 1 _ rfl
  go_wp2_with fail
  refine (kU.out _).mono ?_
  rintro e V6 ⟨rfl, hA⟩
  replace hB := hid (bthen hB.out hA)
  replace hTb := hid (hTb.out.on hA)
  replace rn := hid (held_after hA rn.out)
  replace ra := hid (held_after hA ra.out)
  clear hA
  clear x0 x1
  have nw := alloc_new V6 (.cells #[.bool ti, .int .i64 tn] 23)
  have hA := nw.2.1
  have rb := nw.2.2
  clear nw
  go_upto_region 7 with (fail)
  obtain ⟨V7, hV7⟩ : ∃ X, V6.alloc (.cells #[.bool ti, .int .i64 tn] 23) = X := ⟨_, rfl⟩
  rw [hV7] at hA rb ⊢
  obtain ⟨qb, hqb⟩ : ∃ X, V6.heap.size = X := ⟨_, rfl⟩
  rw [hqb] at rb ⊢
  replace hV7 := hid hV7
  replace hqb := hid hqb
  replace hB := hid (bthen hB.out hA)
  replace hTb := hid (hTb.out.on hA)
  replace rn := hid (held_after hA rn.out)
  replace ra := hid (held_after hA ra.out)
  clear hA
  replace rb := hid rb
  replace hB := hB.out
  apply wp_region_seg (w := V7) (S := (.q [] :: .q [] :: .q [] :: .q [] :: .q [] :: .q [] :: .q [] :: .q [] :: .q [] :: .q [] :: .q [] :: .q [] :: .q [] :: .q [] :: .q [] :: .q [] :: .q [] :: .q [] :: .q [] :: .q [] :: .q [] :: .q [] :: .q [] :: .q [] :: .q [] :: .q [] :: .q [] :: .q [] :: .q [] :: .q [] :: .q [] :: .q [] :: .q [] :: .q [] :: .q [] :: .q [] :: .q [] :: [])) (E := (.q0 _ :: .q0 _ :: .q0 _ :: .q0 _ :: .q0 _ :: .q0 _ :: .q0 _ :: .q0 _ :: .q0 _ :: .q0 _ :: .c0 _ :: .q0 _ :: .c0 _ :: .q0 _ :: .q0 _ :: .q0 _ :: .q0 _ :: .q0 _ :: .q0 _ :: .q0 _ :: .q0 _ :: .q0 _ :: .c0 _ :: .q0 _ :: .c0 _ :: .q0 _ :: .q0 _ :: .q0 _ :: .q0 _ :: .q0 _ :: .c0 _ :: .q0 _ :: .q0 _ :: .c0 _ :: .q0 _ :: .q0 _ :: .q0 _ :: [])) (by kernel_rfl) rfl (by kernel_rfl) rfl rfl
  intro th hge hne
  refine Seg.step _ rfl (Or.inl ⟨by rfl, fun U hU => vp_quiet (by (go_simp <;> exact rfl))⟩) ⟨_, by (simp only [Ent.val]; go_simp <;> exact rfl), ?_⟩
  refine Seg.step _ rfl (Or.inl ⟨by rfl, fun U hU => vp_quiet (by (go_simp <;> exact rfl))⟩) ⟨_, by (simp only [Ent.val]; go_simp <;> exact rfl), ?_⟩
  refine Seg.step _ rfl (Or.inl ⟨by rfl, fun U hU => vp_quiet (by (go_simp <;> exact rfl))⟩) ⟨_, by (simp only [Ent.val]; go_simp <;> exact rfl), ?_⟩
  refine Seg.step _ rfl (Or.inl ⟨by rfl, fun U hU => vp_quiet (by (go_simp <;> exact rfl))⟩) ⟨_, by (simp only [Ent.val]; go_simp <;> exact rfl), ?_⟩
  refine Seg.step _ rfl (Or.inl ⟨by rfl, fun U hU => vp_quiet (by (go_simp <;> exact rfl))⟩) ⟨_, by (simp only [Ent.val]; go_simp <;> exact rfl), ?_⟩
  refine Seg.step _ rfl (Or.inl ⟨by rfl, fun U hU => vp_quiet (by (go_simp <;> exact rfl))⟩) ⟨_, by (simp only [Ent.val]; go_simp <;> exact rfl), ?_⟩
  refine Seg.step _ rfl (Or.inl ⟨by rfl, fun U hU => vp_quiet (by (go_simp <;> exact rfl))⟩) ⟨_, by (simp only [Ent.val]; go_simp <;> exact rfl), ?_⟩
  refine Seg.step _ rfl (Or.inl ⟨by rfl, fun U hU => vp_quiet (by (go_simp <;> exact rfl))⟩) ⟨_, by (simp only [Ent.val]; go_simp <;> exact rfl), ?_⟩
  refine Seg.step _ rfl (Or.inl ⟨by rfl, fun U hU => vp_quiet (by (go_simp <;> exact rfl))⟩) ⟨_, by (simp only [Ent.val]; go_simp <;> exact rfl), ?_⟩
  refine Seg.step _ rfl (Or.inl ⟨by rfl, fun U hU => vp_quiet (by (go_simp <;> exact rfl))⟩) ⟨_, by (simp only [Ent.val]; go_simp <;> exact rfl), ?_⟩
  refine Seg.step _ rfl (Or.inl ⟨by rfl, fun U hU => ?_⟩) ?_
  · go_simp
    refine vp_calls (num23_any ee _ (by omega) (by omega))
  refine ⟨_, by (simp only [Ent.val]; go_simp <;> exact rfl), ?_⟩
  refine Seg.step _ rfl (Or.inl ⟨by rfl, fun U hU => vp_quiet (by (go_simp <;> exact rfl))⟩) ⟨_, by (simp only [Ent.val]; go_simp <;> exact rfl), ?_⟩
  refine Seg.step _ rfl (Or.inl ⟨by rfl, fun U hU => ?_⟩) ?_
  · go_simp
    refine vp_calls (num23_any ee _ (by omega) (by omega))
  refine ⟨_, by (simp only [Ent.val]; go_simp <;> exact rfl), ?_⟩
  refine Seg.step _ rfl (Or.inl ⟨by rfl, fun U hU => vp_quiet (by (go_simp <;> exact rfl))⟩) ⟨_, by (simp only [Ent.val]; go_simp <;> exact rfl), ?_⟩
  refine Seg.step _ rfl (Or.inl ⟨by rfl, fun U hU => vp_quiet (by (go_simp <;> exact rfl))⟩) ⟨_, by (simp only [Ent.val]; go_simp <;> exact rfl), ?_⟩
  refine Seg.step _ rfl (Or.inl ⟨by rfl, fun U hU => vp_quiet (by (go_simp <;> exact rfl))⟩) ⟨_, by (simp only [Ent.val]; go_simp <;> exact rfl), ?_⟩
  refine Seg.step _ rfl (Or.inl ⟨by rfl, fun U hU => vp_quiet (by (have h0 := held_cell (held_after hU.1 ra.out) 0 _ rfl; have h1 := held_cell (held_after hU.1 ra.out) 1 _ rfl; go_simp <;> exact rfl))⟩) ⟨_, by (simp only [Ent.val]; go_simp <;> exact rfl), ?_⟩
  refine Seg.step _ rfl (Or.inl ⟨by rfl, fun U hU => vp_quiet (by (have h0 := held_cell (held_after hU.1 rb.out) 0 _ rfl; have h1 := held_cell (held_after hU.1 rb.out) 1 _ rfl; go_simp <;> exact rfl))⟩) ⟨_, by (simp only [Ent.val]; go_simp <;> exact rfl), ?_⟩
  refine Seg.step _ rfl (Or.inl ⟨by rfl, fun U hU => vp_quiet (by (go_simp <;> exact rfl))⟩) ⟨_, by (simp only [Ent.val]; go_simp <;> exact rfl), ?_⟩
  refine Seg.step _ rfl (Or.inl ⟨by rfl, fun U hU => vp_quiet (by (go_simp <;> exact rfl))⟩) ⟨_, by (simp only [Ent.val]; go_simp <;> exact rfl), ?_⟩
  refine Seg.step _ rfl (Or.inl ⟨by rfl, fun U hU => vp_quiet (by (go_simp <;> exact rfl))⟩) ⟨_, by (simp only [Ent.val]; go_simp <;> exact rfl), ?_⟩
  refine Seg.step _ rfl (Or.inl ⟨by rfl, fun U hU => vp_quiet (by (go_simp <;> exact rfl))⟩) ⟨_, by (simp only [Ent.val]; go_simp <;> exact rfl), ?_⟩
  refine Seg.step _ rfl (Or.inl ⟨by rfl, fun U hU => ?_⟩) ?_
  · go_simp
    refine vp_calls (num23_any ge _ (by omega) (by omega))
  refine ⟨_, by (simp only [Ent.val]; go_simp <;> exact rfl), ?_⟩
  refine Seg.step _ rfl (Or.inl ⟨by rfl, fun U hU => vp_quiet (by (go_simp <;> exact rfl))⟩) ⟨_, by (simp only [Ent.val]; go_simp <;> exact rfl), ?_⟩
  refine Seg.step _ rfl (Or.inl ⟨by rfl, fun U hU => ?_⟩) ?_
  · go_simp
    refine vp_calls (num23_any ge _ (by omega) (by omega))
  refine ⟨_, by (simp only [Ent.val]; go_simp <;> exact rfl), ?_⟩
  refine Seg.step _ rfl (Or.inl ⟨by rfl, fun U hU => vp_quiet (by (go_simp <;> exact rfl))⟩) ⟨_, by (simp only [Ent.val]; go_simp <;> exact rfl), ?_⟩
  refine Seg.step _ rfl (Or.inl ⟨by rfl, fun U hU => vp_quiet (by (go_simp <;> exact rfl))⟩) ⟨_, by (simp only [Ent.val]; go_simp <;> exact rfl), ?_⟩
  refine Seg.step _ rfl (Or.inl ⟨by rfl, fun U hU => vp_quiet (by (go_simp <;> exact rfl))⟩) ⟨_, by (simp only [Ent.val]; go_simp <;> exact rfl), ?_⟩
  refine Seg.step _ rfl (Or.inl ⟨by rfl, fun U hU => vp_quiet (by (go_simp <;> exact rfl))⟩) ⟨_, by (simp only [Ent.val]; go_simp <;> exact rfl), ?_⟩
  refine Seg.step _ rfl (Or.inl ⟨by rfl, fun U hU => vp_quiet (by (have h0 := held_cell (held_after hU.1 rn.out) 0 _ rfl; have h1 := held_cell (held_after hU.1 rn.out) 1 _ rfl; go_simp <;> exact rfl))⟩) ⟨_, by (simp only [Ent.val]; go_simp <;> exact rfl), ?_⟩
  refine Seg.step _ rfl (Or.inl ⟨by rfl, fun U hU => ?_⟩) ?_
  · go_simp
    refine vp_calld (kR.out _)
  refine ⟨_, by (simp only [Ent.val]; go_simp <;> exact rfl), ?_⟩
  refine Seg.step _ rfl (Or.inl ⟨by rfl, fun U hU => vp_quiet (by (go_simp <;> exact rfl))⟩) ⟨_, by (simp only [Ent.val]; go_simp <;> exact rfl), ?_⟩
  refine Seg.step _ rfl (Or.inl ⟨by rfl, fun U hU => vp_quiet (by (have h0 := held_cell (held_after hU.1 rn.out) 0 _ rfl; have h1 := held_cell (held_after hU.1 rn.out) 1 _ rfl; go_simp <;> exact rfl))⟩) ⟨_, by (simp only [Ent.val]; go_simp <;> exact rfl), ?_⟩
  refine Seg.step _ rfl (Or.inl ⟨by rfl, fun U hU => ?_⟩) ?_
  · go_simp
    refine vp_calls (kS.out _)
  refine ⟨_, by (simp only [Ent.val]; go_simp <;> exact rfl), ?_⟩
  refine Seg.step _ rfl (Or.inl ⟨by rfl, fun U hU => vp_quiet (by (go_simp <;> exact rfl))⟩) ⟨_, by (simp only [Ent.val]; go_simp <;> exact rfl), ?_⟩
  refine Seg.step _ rfl (Or.inl ⟨by rfl, fun U hU => vp_quiet (by (go_simp <;> exact rfl))⟩) ⟨_, by (simp only [Ent.val]; go_simp <;> exact rfl), ?_⟩
  refine Seg.step _ rfl (Or.inl ⟨by rfl, fun U hU => vp_quiet (by (go_simp <;> exact rfl))⟩) ⟨_, by (simp only [Ent.val]; go_simp <;> exact rfl), ?_⟩
  refine Seg.stop (fun U2 hU hk => ?_)
  clear hk hge hne
  have sz2 := hU.size
  replace hB := bthen hB hU
  clear hU
  go_wp2_with fail
  go_ret
  exact ⟨ret_bool (by simp), hB⟩

end Go.Proofs.YtelffhelelbfiaaDoor
