/- The laws of layer 23: DecimBack. -/
import Derived.Test.YtelffhelelbfiaaDoorDecB
import Derived.Test.YtelffhelelbfiaaDoorLaw23b
import Derived.Laws.StructEq
import Derived.Deep.DeepCutAuto
namespace Go.Proofs.YtelffhelelbfiaaDoor
open Go.ChangeShapes Go.WideShapes Go.ChangeAt Go.RowKit
set_option linter.unusedVariables false
set_option linter.unusedSimpArgs false

theorem Tab.below {W W' : World} (h : Tab W) (k : After W W') : Tab W' := h.on k
set_option maxRecDepth 100000 in
set_option maxHeartbeats 16000000 in
theorem law_DecimBack (a0_0 : Bool) (a0_1 : Int) (a1 : ByteArray) (a2 : ByteArray) (a3_0 : Int) (a3_1 : Int) (a3_2 : Int) (a3_3 : Int) (a3_4 : Int) (a4 : Bool) (W : World) (w0_1 : (Lit.int .i64 a0_1).wf = true) (w1 : a1.size ≤ maxLen) (w2 : a2.size ≤ maxLen) (w3_0 : (Lit.int .i64 a3_0).wf = true) (w3_1 : (Lit.int .i64 a3_1).wf = true) (w3_2 : (Lit.int .i64 a3_2).wf = true) (w3_3 : (Lit.int .i64 a3_3).wf = true) (w3_4 : (Lit.int .i64 a3_4).wf = true) (hT : Tab W) :
    Calls Tryd.prog 5 #[.agg #[.bool a0_0, .int .i64 a0_1], .string a1, .string a2, .agg #[.int .i64 a3_0, .int .i64 a3_1, .int .i64 a3_2, .int .i64 a3_3, .int .i64 a3_4], .bool a4] W fun e w' => e = .returned (.bool true) ∧ Below W.heap.size W w' := by
  have hb := bounds_i64 w0_1
  have hlb := And.intro (bounds_i64 w3_3) (bounds_i64 w3_4)
  clear w0_1 w3_0 w3_1 w3_2 w3_3 w3_4
  by_cases cb : (100 : Int) < a1.size
  case pos =>
    clear hb hlb
    go_enter Tryd.func5, Tryd.ntmps5
    go_upto_region 0 with (fail)
    apply wp_region_seg0 (w := W) (S := [.al 1000, .al 1000, .q []]) (E := [.al ((fun p => .pointer (some ⟨p, 0, none⟩)), _) 1000, .al ((fun p => .pointer (some ⟨p, 0, none⟩)), _) 1000, .q0 _]) rfl (by kernel_rfl) rfl rfl
    intro th hge hne
    refine Seg.step _ rfl ⟨by rfl, fun U hU => ?_⟩ ?_
    · go_simp; exact vp_alloc rfl rfl rfl
    refine ⟨_, by (simp only [Ent.val]; go_simp <;> exact rfl), ?_⟩
    refine Seg.step _ rfl ⟨by rfl, fun U hU => ?_⟩ ?_
    · go_simp; exact vp_alloc rfl rfl rfl
    refine ⟨_, by (simp only [Ent.val]; go_simp <;> exact rfl), ?_⟩
    refine Seg.step _ rfl (Or.inl ⟨by rfl, fun U hU => vp_quiet (by (go_simp <;> exact rfl))⟩) ⟨_, by (simp only [Ent.val]; go_simp <;> exact rfl), ?_⟩
    refine Seg.stop (fun U1 hU hk => ?_)
    have nb0 := hge 0 _ _ rfl
    have rb0 := (hk 0 _ _ rfl trivial).1.2 (by simp)
    have nb1 := hge 1 _ _ rfl
    have rb1 := (hk 1 _ _ rfl trivial).1.2 (by simp)
    have ne0_1 := hne 0 1 _ _ _ _ rfl rfl (by omega)
    clear hk hge hne
    generalize th (0 + 0) = p0_0 at *
    dsimp only at rb0
    generalize th (0 + 1) = p0_1 at *
    dsimp only at rb1
    have r_p0_0 := rb0
    clear rb0
    have n_p0_0 := nb0
    clear nb0
    have d_p0_0_p0_1 := ne0_1
    clear ne0_1
    have r_p0_1 := rb1
    clear rb1
    have n_p0_1 := nb1
    clear nb1
    have sz1 := hU.size
    have hB : Below W.heap.size W U1 := hU
    clear hU
    replace hT := hid (hT.on hB)
    replace hB := hid hB
    clear r_p0_0 r_p0_1
    go_wp2_with fail
    refine (knows23_any _ hT.out).mono ?_
    rintro e V ⟨rfl, hst⟩
    replace hB := hid (bthen hB.out hst)
    clear hst
    go_wp2_with fail
    go_ret
    exact ⟨rfl, hB.out⟩
  by_cases cc : (100 : Int) < a2.size
  case pos =>
    clear hb hlb
    go_enter Tryd.func5, Tryd.ntmps5
    go_upto_region 0 with (fail)
    apply wp_region_seg0 (w := W) (S := [.al 1000, .al 1000, .q []]) (E := [.al ((fun p => .pointer (some ⟨p, 0, none⟩)), _) 1000, .al ((fun p => .pointer (some ⟨p, 0, none⟩)), _) 1000, .q0 _]) rfl (by kernel_rfl) rfl rfl
    intro th hge hne
    refine Seg.step _ rfl ⟨by rfl, fun U hU => ?_⟩ ?_
    · go_simp; exact vp_alloc rfl rfl rfl
    refine ⟨_, by (simp only [Ent.val]; go_simp <;> exact rfl), ?_⟩
    refine Seg.step _ rfl ⟨by rfl, fun U hU => ?_⟩ ?_
    · go_simp; exact vp_alloc rfl rfl rfl
    refine ⟨_, by (simp only [Ent.val]; go_simp <;> exact rfl), ?_⟩
    refine Seg.step _ rfl (Or.inl ⟨by rfl, fun U hU => vp_quiet (by (go_simp <;> exact rfl))⟩) ⟨_, by (simp only [Ent.val]; go_simp <;> exact rfl), ?_⟩
    refine Seg.stop (fun U1 hU hk => ?_)
    have nb0 := hge 0 _ _ rfl
    have rb0 := (hk 0 _ _ rfl trivial).1.2 (by simp)
    have nb1 := hge 1 _ _ rfl
    have rb1 := (hk 1 _ _ rfl trivial).1.2 (by simp)
    have ne0_1 := hne 0 1 _ _ _ _ rfl rfl (by omega)
    clear hk hge hne
    generalize th (0 + 0) = p0_0 at *
    dsimp only at rb0
    generalize th (0 + 1) = p0_1 at *
    dsimp only at rb1
    have r_p0_0 := rb0
    clear rb0
    have n_p0_0 := nb0
    clear nb0
    have d_p0_0_p0_1 := ne0_1
    clear ne0_1
    have r_p0_1 := rb1
    clear rb1
    have n_p0_1 := nb1
    clear nb1
    have sz1 := hU.size
    have hB : Below W.heap.size W U1 := hU
    clear hU
    replace hT := hid (hT.on hB)
    replace hB := hid hB
    clear r_p0_0 r_p0_1
    go_wp2_with fail
    refine (knows23_any _ hT.out).mono ?_
    rintro e V ⟨rfl, hst⟩
    replace hB := hid (bthen hB.out hst)
    clear hst
    go_wp2_with fail
    go_ret
    exact ⟨rfl, hB.out⟩
  obtain ⟨⟨PL, ee⟩, hpd⟩ : ∃ r, putD a0_0 a0_1 a3_0 a3_1 a3_2 a3_3 a3_4 = r := ⟨_, rfl⟩
  obtain ⟨⟨ti, tn, ge⟩, htd⟩ : ∃ r, takD a1 a3_0 a3_1 a3_2 a3_3 a3_4 = r := ⟨_, rfl⟩
  obtain ⟨⟨PA, PB, fe⟩, had⟩ : ∃ r, angD a0_0 a0_1 a4 = r := ⟨_, rfl⟩
  obtain ⟨⟨ui, un, he⟩, hud⟩ : ∃ r, tkaD a1 a2 a4 = r := ⟨_, rfl⟩
  have pe := putD_e a0_0 a0_1 a3_0 a3_1 a3_2 a3_3 a3_4
  have te := takD_e a1 a3_0 a3_1 a3_2 a3_3 a3_4
  have ae := angD_e a0_0 a0_1 a4
  have ue := tkaD_e a1 a2 a4
  rw [hpd] at pe
  rw [htd] at te
  rw [had] at ae
  rw [hud] at ue
  dsimp only at pe te ae ue
  have kP := hid (fun U (h : Tab U) => hpd ▸ put23_any a0_0 a0_1 a3_0 a3_1 a3_2 a3_3 a3_4 U hb hlb h)
  have kT := hid (fun U => htd ▸ take23_any a1 a3_0 a3_1 a3_2 a3_3 a3_4 U (by omega) hlb)
  have kA := hid (fun U (h : Tab U) => had ▸ angle_any a0_0 a0_1 a4 U hb h)
  have kU := hid (fun U => hud ▸ tangle_any a1 a2 a4 U (by omega))
  dsimp only at kP kT kA kU
  replace hpd := hid (put_all hpd)
  replace htd := hid (fun h => tak_all htd h hlb)
  replace had := hid (ang_all had)
  have hun := hid (tka_none hud)
  replace hud := hid (fun h => tka_all hud h)
  replace hb := hid hb
  replace hlb := hid hlb
  replace pe := hid pe
  replace te := hid te
  replace ae := hid ae
  replace ue := hid ue
  generalize nb PL = TX at *
  generalize nb PA = TA at *
  generalize nb PB = TB at *
  go_enter Tryd.func5, Tryd.ntmps5
  go_upto_region 0 with (fail)
  apply wp_region_seg0 (w := W) (S := [.al 1000, .al 1000, .q []]) (E := [.al ((fun p => .pointer (some ⟨p, 0, none⟩)), _) 1000, .al ((fun p => .pointer (some ⟨p, 0, none⟩)), _) 1000, .q0 _]) rfl (by kernel_rfl) rfl rfl
  intro th hge hne
  refine Seg.step _ rfl ⟨by rfl, fun U hU => ?_⟩ ?_
  · go_simp; exact vp_alloc rfl rfl rfl
  refine ⟨_, by (simp only [Ent.val]; go_simp <;> exact rfl), ?_⟩
  refine Seg.step _ rfl ⟨by rfl, fun U hU => ?_⟩ ?_
  · go_simp; exact vp_alloc rfl rfl rfl
  refine ⟨_, by (simp only [Ent.val]; go_simp <;> exact rfl), ?_⟩
  refine Seg.step _ rfl (Or.inl ⟨by rfl, fun U hU => vp_quiet (by (go_simp <;> exact rfl))⟩) ⟨_, by (simp only [Ent.val]; go_simp <;> exact rfl), ?_⟩
  refine Seg.stop (fun U1 hU hk => ?_)
  have nb0 := hge 0 _ _ rfl
  have rb0 := (hk 0 _ _ rfl trivial).1.2 (by simp)
  have nb1 := hge 1 _ _ rfl
  have rb1 := (hk 1 _ _ rfl trivial).1.2 (by simp)
  have ne0_1 := hne 0 1 _ _ _ _ rfl rfl (by omega)
  clear hk hge hne
  generalize th (0 + 0) = p0_0 at *
  dsimp only at rb0
  generalize th (0 + 1) = p0_1 at *
  dsimp only at rb1
  have r_p0_0 := rb0
  clear rb0
  have n_p0_0 := nb0
  clear nb0
  have d_p0_0_p0_1 := ne0_1
  clear ne0_1
  have r_p0_1 := rb1
  clear rb1
  have n_p0_1 := nb1
  clear nb1
  have sz1 := hU.size
  have hB : Below W.heap.size W U1 := hU
  clear hU
  replace hT := hid (hT.on hB)
  replace hB := hid hB
  have rn := hid r_p0_0
  have rc := hid r_p0_1
  clear r_p0_0 r_p0_1
  go_wp2_with fail
  refine (knows23_any _ hT.out).mono ?_
  rintro e V1 ⟨rfl, hA⟩
  replace hB := hid (bthen hB.out hA)
  replace hT := hid (hT.out.on hA)
  replace rn := hid (held_after hA rn.out)
  replace rc := hid (held_after hA rc.out)
  clear hA
  have x0 := held_cell rn.out 0 _ rfl
  have x1 := held_cell rn.out 1 _ rfl
  have y0 := held_cell rc.out 0 _ rfl
  have y1 := held_cell rc.out 1 _ rfl
  have y2 := held_cell rc.out 2 _ rfl
  have y3 := held_cell rc.out 3 _ rfl
  have y4 := held_cell rc.out 4 _ rfl
  go_wp2_with fail
  refine (kP.out _ hT.out).mono ?_
  rintro e V2 ⟨rfl, hA⟩
  replace hT := hid (hT.out.below hA)
  replace rn := hid (held_after hA rn.out)
  replace rc := hid (held_after hA rc.out)
  replace hB := hid (bthen hB.out hA)
  clear hA
  clear x0 x1 y0 y1 y2 y3 y4
  go_wp2_with fail
  refine (num23_any ee _ (by have := pe.out; omega) (by have := pe.out; omega)).mono ?_
  rintro e V3 ⟨rfl, hv⟩
  obtain rfl : V2 = V3 := hv.symm
  go_upto_if 54 with (fail)
  go_cut [13, 14] (fun _ _ W0 => W0.heap[p0_0]? = some (.cells #[.bool a0_0, .int .i64 a0_1] 23 (0, 0)) ∧ W0.heap[p0_1]? = some (.cells #[.int .i64 a3_0, .int .i64 a3_1, .int .i64 a3_2, .int .i64 a3_3, .int .i64 a3_4] 25 (0, 0)) ∧ Tab W0 ∧ Below W.heap.size W W0)
  case first =>
    by_cases c0 : ee = 0
    case neg =>
      have t0 : (ee == 0) = false := by simpa using c0
      go_wp2_with fail
      go_meet
      exact ⟨rn.out, rc.out, hT.out, hB.out⟩
    subst c0
    obtain ⟨hq, hz⟩ := hpd.out rfl
    have kX := hid (fun U => hq ▸ take23_any TX a3_0 a3_1 a3_2 a3_3 a3_4 U hz hlb.out)
    dsimp only at kX
    clear hq hz
    have x0 := held_cell rn.out 0 _ rfl
    have x1 := held_cell rn.out 1 _ rfl
    have y0 := held_cell rc.out 0 _ rfl
    have y1 := held_cell rc.out 1 _ rfl
    have y2 := held_cell rc.out 2 _ rfl
    have y3 := held_cell rc.out 3 _ rfl
    have y4 := held_cell rc.out 4 _ rfl
    go_wp2_with fail
    refine (kX.out _).mono ?_
    rintro e V4 ⟨rfl, hA⟩
    replace hT := hid (hT.out.below hA)
    replace rn := hid (held_after hA rn.out)
    replace rc := hid (held_after hA rc.out)
    replace hB := hid (bthen hB.out hA)
    clear hA
    clear x0 x1 y0 y1 y2 y3 y4
    have nw := alloc_new V4 (.cells #[.bool a0_0, .int .i64 a0_1] 23)
    have hA := nw.2.1
    have ra := nw.2.2
    clear nw
    go_upto_region 6 with (fail)
    obtain ⟨V5, hV5⟩ : ∃ X, V4.alloc (.cells #[.bool a0_0, .int .i64 a0_1] 23) = X := ⟨_, rfl⟩
    rw [hV5] at hA ra ⊢
    obtain ⟨qa, hqa⟩ : ∃ X, V4.heap.size = X := ⟨_, rfl⟩
    rw [hqa] at ra ⊢
    replace hV5 := hid hV5
    replace hqa := hid hqa
    replace hT := hid (hT.out.below hA)
    replace rn := hid (held_after hA rn.out)
    replace rc := hid (held_after hA rc.out)
    replace hB := hid (bthen hB.out hA)
    clear hA
    replace ra := hid ra
    have x0 := held_cell rn.out 0 _ rfl
    have x1 := held_cell rn.out 1 _ rfl
    have z0 := held_cell ra.out 0 _ rfl
    have z1 := held_cell ra.out 1 _ rfl
    go_wp2_with fail
    refine (num23_any 0 _ (by decide) (by decide)).mono ?_
    rintro e V6 ⟨rfl, hv⟩
    obtain rfl : V5 = V6 := hv.symm
    go_wp2_with fail
    go_meet
    exact ⟨rn.out, rc.out, hT.out, hB.out⟩
  case rest =>
    clear rn rc hT hB
    obtain ⟨rn, rc, hT, hB⟩ := hcut
    replace rn := hid rn
    replace rc := hid rc
    replace hT := hid hT
    replace hB := hid hB
    clear kP hpd pe
    have y0 := held_cell rc.out 0 _ rfl
    have y1 := held_cell rc.out 1 _ rfl
    have y2 := held_cell rc.out 2 _ rfl
    have y3 := held_cell rc.out 3 _ rfl
    have y4 := held_cell rc.out 4 _ rfl
    go_wp2_with fail
    refine (kT.out _).mono ?_
    rintro e V4 ⟨rfl, hA⟩
    replace hT := hid (hT.out.below hA)
    replace rn := hid (held_after hA rn.out)
    replace rc := hid (held_after hA rc.out)
    replace hB := hid (bthen hB.out hA)
    clear hA
    clear y0 y1 y2 y3 y4
    have nw := alloc_new V4 (.cells #[.bool ti, .int .i64 tn] 23)
    have hA := nw.2.1
    have rt := nw.2.2
    clear nw
    go_upto_region 9 with (fail)
    obtain ⟨V5, hV5⟩ : ∃ X, V4.alloc (.cells #[.bool ti, .int .i64 tn] 23) = X := ⟨_, rfl⟩
    rw [hV5] at hA rt ⊢
    obtain ⟨qt, hqt⟩ : ∃ X, V4.heap.size = X := ⟨_, rfl⟩
    rw [hqt] at rt ⊢
    replace hV5 := hid hV5
    replace hqt := hid hqt
    replace hT := hid (hT.out.below hA)
    replace rn := hid (held_after hA rn.out)
    replace rc := hid (held_after hA rc.out)
    replace hB := hid (bthen hB.out hA)
    clear hA
    replace rt := hid rt
    go_wp2_with fail
    refine (num23_any ge _ (by have := te.out; omega) (by have := te.out; omega)).mono ?_
    rintro e V6 ⟨rfl, hv⟩
    obtain rfl : V5 = V6 := hv.symm
    go_upto_if 77 with (fail)
    go_cut [17, 18, 19, 20] (fun _ _ _ _ W0 => W0.heap[p0_0]? = some (.cells #[.bool a0_0, .int .i64 a0_1] 23 (0, 0)) ∧ W0.heap[p0_1]? = some (.cells #[.int .i64 a3_0, .int .i64 a3_1, .int .i64 a3_2, .int .i64 a3_3, .int .i64 a3_4] 25 (0, 0)) ∧ Tab W0 ∧ Below W.heap.size W W0)
    case first =>
      by_cases c0 : ge = 0
      case neg =>
        have t0 : (ge == 0) = false := by simpa using c0
        go_wp2_with fail
        go_meet
        exact ⟨rn.out, rc.out, hT.out, hB.out⟩
      subst c0
      obtain ⟨QL, hq, hbn, hW⟩ := htd.out rfl
      obtain ⟨hr, hz⟩ := put_all hq rfl
      have kX := hid (fun U (h : Tab U) => hq ▸ put23_any ti tn a3_0 a3_1 a3_2 a3_3 a3_4 U hbn hlb.out h)
      have kY := hid (fun U => hr ▸ take23_any (nb QL) a3_0 a3_1 a3_2 a3_3 a3_4 U hz hlb.out)
      dsimp only at kX kY
      generalize nb QL = TQ at *
      have tW : (a3_0 == 1) = false ∨ ((a3_0 == 1) = true ∧ ¬ a1.size < TQ.size) := by
        by_cases h1 : a3_0 = 1
        · exact .inr ⟨by simpa using h1, by have := hW h1; omega⟩
        · exact .inl (by simpa using h1)
      replace tW := hid tW
      clear hq hr hW hbn hz
      have z0 := held_cell rt.out 0 _ rfl
      have z1 := held_cell rt.out 1 _ rfl
      have y0 := held_cell rc.out 0 _ rfl
      have y1 := held_cell rc.out 1 _ rfl
      have y2 := held_cell rc.out 2 _ rfl
      have y3 := held_cell rc.out 3 _ rfl
      have y4 := held_cell rc.out 4 _ rfl
      go_wp2_with fail
      refine (kX.out _ hT.out).mono ?_
      rintro e V7 ⟨rfl, hA⟩
      replace hT := hid (hT.out.below hA)
      replace rn := hid (held_after hA rn.out)
      replace rc := hid (held_after hA rc.out)
      replace rt := hid (held_after hA rt.out)
      replace hB := hid (bthen hB.out hA)
      clear hA
      clear z0 z1 y0 y1 y2 y3 y4
      have y0 := held_cell rc.out 0 _ rfl
      have y1 := held_cell rc.out 1 _ rfl
      have y2 := held_cell rc.out 2 _ rfl
      have y3 := held_cell rc.out 3 _ rfl
      have y4 := held_cell rc.out 4 _ rfl
      go_wp2_with fail
      refine (kY.out _).mono ?_
      rintro e V8 ⟨rfl, hA⟩
      replace hT := hid (hT.out.below hA)
      replace rn := hid (held_after hA rn.out)
      replace rc := hid (held_after hA rc.out)
      replace rt := hid (held_after hA rt.out)
      replace hB := hid (bthen hB.out hA)
      clear hA
      clear y0 y1 y2 y3 y4
      have nw := alloc_new V8 (.cells #[.bool ti, .int .i64 tn] 23)
      have hA := nw.2.1
      have ra := nw.2.2
      clear nw
      go_upto_region 12 with (fail)
      obtain ⟨V9, hV9⟩ : ∃ X, V8.alloc (.cells #[.bool ti, .int .i64 tn] 23) = X := ⟨_, rfl⟩
      rw [hV9] at hA ra ⊢
      obtain ⟨qa, hqa⟩ : ∃ X, V8.heap.size = X := ⟨_, rfl⟩
      rw [hqa] at ra ⊢
      replace hV9 := hid hV9
      replace hqa := hid hqa
      replace hT := hid (hT.out.below hA)
      replace rn := hid (held_after hA rn.out)
      replace rc := hid (held_after hA rc.out)
      replace rt := hid (held_after hA rt.out)
      replace hB := hid (bthen hB.out hA)
      clear hA
      replace ra := hid ra
      have z0 := held_cell rt.out 0 _ rfl
      have z1 := held_cell rt.out 1 _ rfl
      have u0 := held_cell ra.out 0 _ rfl
      have u1 := held_cell ra.out 1 _ rfl
      have y0 := held_cell rc.out 0 _ rfl
      have y1 := held_cell rc.out 1 _ rfl
      have y2 := held_cell rc.out 2 _ rfl
      have y3 := held_cell rc.out 3 _ rfl
      have y4 := held_cell rc.out 4 _ rfl
      go_wp2_with fail
      refine (num23_any 0 _ (by decide) (by decide)).mono ?_
      rintro e V10 ⟨rfl, hv⟩
      obtain rfl : V9 = V10 := hv.symm
      go_wp2_with fail
      refine (num23_any 0 _ (by decide) (by decide)).mono ?_
      rintro e V11 ⟨rfl, hv⟩
      obtain rfl : V9 = V11 := hv.symm
      rcases tW.out with t1 | ⟨t1, t2⟩
      · go_wp2_with fail
        go_meet
        exact ⟨rn.out, rc.out, hT.out, hB.out⟩
      · go_wp2_with fail
        go_meet
        exact ⟨rn.out, rc.out, hT.out, hB.out⟩
    case rest =>
      clear rn rc hT hB
      obtain ⟨rn, rc, hT, hB⟩ := hcut
      replace rn := hid rn
      replace rc := hid rc
      replace hT := hid hT
      replace hB := hid hB
      clear kT htd te
      have x0 := held_cell rn.out 0 _ rfl
      have x1 := held_cell rn.out 1 _ rfl
      go_wp2_with fail
      refine (kA.out _ hT.out).mono ?_
      rintro e V7 ⟨rfl, hA⟩
      replace hT := hid (hT.out.below hA)
      replace rn := hid (held_after hA rn.out)
      replace rc := hid (held_after hA rc.out)
      replace hB := hid (bthen hB.out hA)
      clear hA
      clear x0 x1
      go_wp2_with fail
      refine (num23_any fe _ (by have := ae.out; omega) (by have := ae.out; omega)).mono ?_
      rintro e V8 ⟨rfl, hv⟩
      obtain rfl : V7 = V8 := hv.symm
      go_upto_if 124 with (fail)
      go_cut [24, 25] (fun _ _ W0 => W0.heap[p0_0]? = some (.cells #[.bool a0_0, .int .i64 a0_1] 23 (0, 0)) ∧ W0.heap[p0_1]? = some (.cells #[.int .i64 a3_0, .int .i64 a3_1, .int .i64 a3_2, .int .i64 a3_3, .int .i64 a3_4] 25 (0, 0)) ∧ Tab W0 ∧ Below W.heap.size W W0)
      case first =>
        by_cases c0 : fe = 0
        case neg =>
          have t0 : (fe == 0) = false := by simpa using c0
          go_wp2_with fail
          go_meet
          exact ⟨rn.out, rc.out, hT.out, hB.out⟩
        subst c0
        obtain ⟨hq, hz⟩ := had.out rfl
        have kX := hid (fun U => hq ▸ tangle_any TA TB a4 U hz)
        dsimp only at kX
        clear hq hz
        go_wp2_with fail
        refine (kX.out _).mono ?_
        rintro e V9 ⟨rfl, hA⟩
        replace hT := hid (hT.out.below hA)
        replace rn := hid (held_after hA rn.out)
        replace rc := hid (held_after hA rc.out)
        replace hB := hid (bthen hB.out hA)
        clear hA
        have nw := alloc_new V9 (.cells #[.bool a0_0, .int .i64 a0_1] 23)
        have hA := nw.2.1
        have ra := nw.2.2
        clear nw
        go_upto_region 17 with (fail)
        obtain ⟨V10, hV10⟩ : ∃ X, V9.alloc (.cells #[.bool a0_0, .int .i64 a0_1] 23) = X := ⟨_, rfl⟩
        rw [hV10] at hA ra ⊢
        obtain ⟨qa, hqa⟩ : ∃ X, V9.heap.size = X := ⟨_, rfl⟩
        rw [hqa] at ra ⊢
        replace hV10 := hid hV10
        replace hqa := hid hqa
        replace hT := hid (hT.out.below hA)
        replace rn := hid (held_after hA rn.out)
        replace rc := hid (held_after hA rc.out)
        replace hB := hid (bthen hB.out hA)
        clear hA
        replace ra := hid ra
        have x0 := held_cell rn.out 0 _ rfl
        have x1 := held_cell rn.out 1 _ rfl
        have z0 := held_cell ra.out 0 _ rfl
        have z1 := held_cell ra.out 1 _ rfl
        go_wp2_with fail
        refine (num23_any 0 _ (by decide) (by decide)).mono ?_
        rintro e V11 ⟨rfl, hv⟩
        obtain rfl : V10 = V11 := hv.symm
        go_wp2_with fail
        go_meet
        exact ⟨rn.out, rc.out, hT.out, hB.out⟩
      case rest =>
        clear rn rc hT hB
        obtain ⟨rn, rc, hT, hB⟩ := hcut
        replace rn := hid rn
        replace rc := hid rc
        replace hT := hid hT
        replace hB := hid hB
        clear kA had ae
        go_wp2_with fail
        refine (kU.out _).mono ?_
        rintro e V9 ⟨rfl, hA⟩
        replace hT := hid (hT.out.below hA)
        replace rn := hid (held_after hA rn.out)
        replace rc := hid (held_after hA rc.out)
        replace hB := hid (bthen hB.out hA)
        clear hA
        have nw := alloc_new V9 (.cells #[.bool ui, .int .i64 un] 23)
        have hA := nw.2.1
        have ru := nw.2.2
        clear nw
        go_upto_region 20 with (fail)
        obtain ⟨V10, hV10⟩ : ∃ X, V9.alloc (.cells #[.bool ui, .int .i64 un] 23) = X := ⟨_, rfl⟩
        rw [hV10] at hA ru ⊢
        obtain ⟨qu, hqu⟩ : ∃ X, V9.heap.size = X := ⟨_, rfl⟩
        rw [hqu] at ru ⊢
        replace hV10 := hid hV10
        replace hqu := hid hqu
        replace hT := hid (hT.out.below hA)
        replace rn := hid (held_after hA rn.out)
        replace rc := hid (held_after hA rc.out)
        replace hB := hid (bthen hB.out hA)
        clear hA
        replace ru := hid ru
        have z0 := held_cell ru.out 0 _ rfl
        have z1 := held_cell ru.out 1 _ rfl
        go_wp2_with fail
        refine (num23_any he _ (by have := ue.out; omega) (by have := ue.out; omega)).mono ?_
        rintro e V11 ⟨rfl, hv⟩
        obtain rfl : V10 = V11 := hv.symm
        by_cases c0 : he = 0
        case neg =>
          obtain ⟨e1, e2⟩ := hun.out c0
          have t0 : (he != 0) = true := by simpa using c0
          subst e1 e2
          go_wp2_with fail
          go_ret
          exact ⟨ret_bool (by simp), hB.out⟩
        subst c0
        clear z0 z1
        obtain ⟨QA, QB, hq, hbn, s1, s2⟩ := hud.out rfl
        obtain ⟨hr, hz⟩ := ang_all hq rfl
        have kX := hid (fun U (h : Tab U) => hq ▸ angle_any ui un a4 U hbn h)
        have kY := hid (fun U => hr ▸ tangle_any (nb QA) (nb QB) a4 U hz)
        dsimp only at kX kY
        generalize nb QA = UA at *
        generalize nb QB = UB at *
        clear hq hr hbn hz
        have z0 := held_cell ru.out 0 _ rfl
        have z1 := held_cell ru.out 1 _ rfl
        go_wp2_with fail
        refine (kX.out _ hT.out).mono ?_
        rintro e V12 ⟨rfl, hA⟩
        replace hT := hid (hT.out.below hA)
        replace rn := hid (held_after hA rn.out)
        replace rc := hid (held_after hA rc.out)
        replace ru := hid (held_after hA ru.out)
        replace hB := hid (bthen hB.out hA)
        clear hA
        clear z0 z1
        go_wp2_with fail
        refine (kY.out _).mono ?_
        rintro e V13 ⟨rfl, hA⟩
        replace hT := hid (hT.out.below hA)
        replace rn := hid (held_after hA rn.out)
        replace rc := hid (held_after hA rc.out)
        replace ru := hid (held_after hA ru.out)
        replace hB := hid (bthen hB.out hA)
        clear hA
        have nw := alloc_new V13 (.cells #[.bool ui, .int .i64 un] 23)
        have hA := nw.2.1
        have ra := nw.2.2
        clear nw
        go_upto_region 24 with (fail)
        obtain ⟨V14, hV14⟩ : ∃ X, V13.alloc (.cells #[.bool ui, .int .i64 un] 23) = X := ⟨_, rfl⟩
        rw [hV14] at hA ra ⊢
        obtain ⟨qa, hqa⟩ : ∃ X, V13.heap.size = X := ⟨_, rfl⟩
        rw [hqa] at ra ⊢
        replace hV14 := hid hV14
        replace hqa := hid hqa
        replace hT := hid (hT.out.below hA)
        replace rn := hid (held_after hA rn.out)
        replace rc := hid (held_after hA rc.out)
        replace ru := hid (held_after hA ru.out)
        replace hB := hid (bthen hB.out hA)
        clear hA
        replace ra := hid ra
        have z0 := held_cell ru.out 0 _ rfl
        have z1 := held_cell ru.out 1 _ rfl
        have u0 := held_cell ra.out 0 _ rfl
        have u1 := held_cell ra.out 1 _ rfl
        go_wp2_with fail
        refine (num23_any 0 _ (by decide) (by decide)).mono ?_
        rintro e V15 ⟨rfl, hv⟩
        obtain rfl : V14 = V15 := hv.symm
        go_wp2_with fail
        refine (num23_any 0 _ (by decide) (by decide)).mono ?_
        rintro e V16 ⟨rfl, hv⟩
        obtain rfl : V14 = V16 := hv.symm
        go_wp2_with fail
        go_ret
        exact ⟨ret_bool (by simp [s1, s2]), hB.out⟩

end Go.Proofs.YtelffhelelbfiaaDoor
