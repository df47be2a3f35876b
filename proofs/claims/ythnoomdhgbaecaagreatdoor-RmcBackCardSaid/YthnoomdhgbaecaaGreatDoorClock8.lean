/- Package clock: TakeDate. -/
import Derived.Test.YthnoomdhgbaecaaGreatDoorClock7
import Derived.Deep.DeepCutAuto
namespace Go.Proofs.YthnoomdhgbaecaaGreatDoor

open Go.ChangeShapes Go.WideShapes Go.ChangeAt Go.RowKit

set_option linter.unusedVariables false

set_option maxRecDepth 100000 in
set_option maxHeartbeats 8000000 in
theorem taked_any (s : ByteArray) (w : World) (hs : s.size ≤ 90000) : Calls Tryz.prog 58 #[.string s] w fun e w' => e = .returned (takeD (sb s)) ∧ Below w.heap.size w w' := by
  have hl := sb_len s
  have hV : takeD (sb s) = takeD (sb s) := rfl
  conv at hV => rhs; unfold takeD; rw [hl]
  obtain ⟨R, hR⟩ : ∃ R, takeD (sb s) = R := ⟨_, rfl⟩
  rw [hR] at hV ⊢
  clear hR
  by_cases h0 : s.size = 0
  · rw [if_pos h0] at hV
    replace hV := hid hV
    have hE : s.toList.isEmpty = true := by rw [emp_iff]; simp [h0]
    go_enter Tryz.func58, Tryz.ntmps58
    go_upto_region 0 with (fail)
    apply wp_region_seg0 (w := w) (S := [.al 1000, .q []]) (E := [.al ((fun p => .pointer (some ⟨p, 0, none⟩)), _) 1000, .q0 _]) rfl (by kernel_rfl) rfl rfl
    intro th hge hne
    refine Seg.step _ rfl ⟨by rfl, fun U hU => ?_⟩ ?_
    · go_simp; exact vp_alloc rfl rfl rfl
    refine Seg.sa ?_
    refine Seg.sq ?_
    refine Seg.stop (fun U1 hU hk => ?_)
    have nb0 := hge 0 _ _ rfl
    have rb0 := (hk 0 _ _ rfl trivial).1.2 (by simp)
    clear hk hge hne
    generalize th (0 + 0) = p0_0 at *
    dsimp only at rb0
    have r_p0_0 := rb0
    clear rb0
    have n_p0_0 := nb0
    clear nb0
    have sz1 := hU.size
    have hB : Below w.heap.size w U1 := hU
    clear hU
    go_upto_region 2 with (fail)
    have nP : w.heap.size ≤ p0_0 := n_p0_0
    have z0 := held_cell r_p0_0 0 _ rfl
    have z1 := held_cell r_p0_0 1 _ rfl
    have z2 := held_cell r_p0_0 2 _ rfl
    have z3 := held_cell r_p0_0 3 _ rfl
    have g0 := held_free r_p0_0 0
    have g1 := held_free r_p0_0 1
    have g2 := held_free r_p0_0 2
    have g3 := held_free r_p0_0 3
    obtain ⟨W9, hW9, ya, yO⟩ := set4 r_p0_0 (.bool false) (.int .i64 0) (.int .i64 0) (.int .i64 0)
    replace hB := belowC hB yO nP
    have ez0 := held_cell ya 0 _ rfl
    have ez1 := held_cell ya 1 _ rfl
    have ez2 := held_cell ya 2 _ rfl
    have ez3 := held_cell ya 3 _ rfl
    clear yO ya
    replace hB := hid hB
    go_wp2_with fail
    refine bodyPost_ret (v := .tuple #[.agg #[.bool false, .int .i64 0, .int .i64 0, .int .i64 0], .int .i64 0]) (by simp [results, Tryz.results58, go_sem, ez0, ez1, ez2, ez3]) rfl ⟨?_, hB.out⟩
    rw [hV.out]; rfl
  rw [if_neg h0] at hV
  have hE : s.toList.isEmpty = false := by rw [emp_iff]; simp [h0]
  have kT := fun v => three_any s v (by omega)
  have gb := fun i => gN_bd (sb s) i
  generalize prS (sb s) = P at *
  by_cases h6 : s.size = 6
  · simp only [if_pos h6] at kT
    replace kT := hid kT
    obtain ⟨a, b, c, ok, hT, hok, habc⟩ := three_form P
    rw [hT] at kT
    rw [← hok] at hV
    clear hT hok
    go_enter Tryz.func58, Tryz.ntmps58
    go_upto_region 0 with (fail)
    apply wp_region_seg0 (w := w) (S := [.al 1000, .q []]) (E := [.al ((fun p => .pointer (some ⟨p, 0, none⟩)), _) 1000, .q0 _]) rfl (by kernel_rfl) rfl rfl
    intro th hge hne
    refine Seg.step _ rfl ⟨by rfl, fun U hU => ?_⟩ ?_
    · go_simp; exact vp_alloc rfl rfl rfl
    refine Seg.sa ?_
    refine Seg.sq ?_
    refine Seg.stop (fun U1 hU hk => ?_)
    have nb0 := hge 0 _ _ rfl
    have rb0 := (hk 0 _ _ rfl trivial).1.2 (by simp)
    clear hk hge hne
    generalize th (0 + 0) = p0_0 at *
    dsimp only at rb0
    have r_p0_0 := rb0
    clear rb0
    have n_p0_0 := nb0
    clear nb0
    have sz1 := hU.size
    have hB : Below w.heap.size w U1 := hU
    clear hU
    go_upto_region 3 with (fail)
    apply wp_region_seg0 (w := U1) (S := [.q [], .q [], .q [], .q [], .q [], .al 6, .st 5 [], .q []]) (E := [.q0 _, .c0 _, .q0 _, .q0 _, .q0 _, .al ((fun p => .pointer (some ⟨p, 0, none⟩)), _) 6, .s0 5 (.cells _ _), .q0 _]) rfl (by kernel_rfl) rfl rfl
    intro th hge hne
    refine Seg.sq ?_
    refine Seg.step _ rfl (Or.inl ⟨by rfl, fun U hU => ?_⟩) ?_
    · go_simp
      refine vp_call (kT.out _)
    refine Seg.sa ?_
    iterate 3 refine Seg.sq ?_
    refine Seg.step _ rfl ⟨by rfl, fun U hU => ?_⟩ ?_
    · go_simp; exact vp_alloc rfl rfl rfl
    refine Seg.sa ?_
    refine Seg.step _ rfl ⟨by rfl, fun U z k hz hU hc => ?_⟩ ?_
    · have hz2 := Option.some.inj hz
      cases hz2; clear hz
      exact vp_store_agg _ _ _ rfl hc rfl rfl (by kernel_rfl) rfl (by rfl)
    refine Seg.sa ?_
    refine Seg.sq ?_
    refine Seg.stop (fun U2 hU hk => ?_)
    have nb5 := hge 5 _ _ rfl
    have rb5 := (hk 5 _ 6 rfl trivial).1.1 trivial _ (Nat.zero_le _) rfl
    clear hk hge hne
    generalize th (0 + 5) = p3_5 at *
    simp only [Ent.obj] at rb5
    have df_p0_0_p3_5 : p0_0 ≠ p3_5 := by have := held_lt r_p0_0; omega
    replace r_p0_0 := held_after hU r_p0_0
    have r_p3_5 := rb5
    clear rb5
    have n_p3_5 := nb5
    clear nb5
    have sz2 := hU.size
    replace hB := bthen hB hU
    clear hU
    have nP : w.heap.size ≤ p0_0 := n_p0_0
    cases ok
    · rw [if_neg (by simp)] at hV
      replace hV := hid hV
      go_upto_region 5 with (fail)
      have z0 := held_cell r_p0_0 0 _ rfl
      have z1 := held_cell r_p0_0 1 _ rfl
      have z2 := held_cell r_p0_0 2 _ rfl
      have z3 := held_cell r_p0_0 3 _ rfl
      have g0 := held_free r_p0_0 0
      have g1 := held_free r_p0_0 1
      have g2 := held_free r_p0_0 2
      have g3 := held_free r_p0_0 3
      obtain ⟨W9, hW9, ya, yO⟩ := set4 r_p0_0 (.bool false) (.int .i64 0) (.int .i64 0) (.int .i64 0)
      replace hB := belowC hB yO nP
      have ez0 := held_cell ya 0 _ rfl
      have ez1 := held_cell ya 1 _ rfl
      have ez2 := held_cell ya 2 _ rfl
      have ez3 := held_cell ya 3 _ rfl
      clear yO ya
      replace hB := hid hB
      go_wp2_with fail
      refine bodyPost_ret (v := .tuple #[.agg #[.bool false, .int .i64 0, .int .i64 0, .int .i64 0], .int .i64 3]) (by simp [results, Tryz.results58, go_sem, ez0, ez1, ez2, ez3]) rfl ⟨?_, hB.out⟩
      rw [hV.out]; rfl
    rw [if_pos ⟨h6, rfl⟩] at hV
    obtain ⟨ea, eb, ec⟩ := habc rfl
    have gc := gb 2
    rw [← ec] at gc
    rw [← ea, ← eb, ← ec] at hV
    have fc : IntKind.i64.wrap (2000 + c) = 2000 + c := by rw [IntKind.wrap_i64]; omega
    have kM := hid (fun v => maydate_any true a b (2000 + c) v)
    clear ea eb ec habc gb
    go_upto_region 6 with (fail)
    apply wp_region_seg0 (w := U2) (S := [.q [], .q [], .q [], .q [], .q [], .q [], .q [], .q [], .al 9, .st 8 []]) (E := [.q0 _, .q0 _, .q0 _, .q0 _, .q0 _, .q0 _, .q0 _, .q0 _, .al ((fun p => .pointer (some ⟨p, 0, none⟩)), _) 9, .s0 8 (.cells _ _)]) rfl (by kernel_rfl) rfl rfl
    intro th hge hne
    refine Seg.sq ?_
    refine Seg.sq ?_ (ht := Or.inl ⟨by rfl, fun U hU => vp_quiet (by (have h0 := held_cell (held_after hU.1 r_p3_5) 0 _ rfl; go_simp <;> exact rfl))⟩)
    refine Seg.sq ?_
    refine Seg.sq ?_ (ht := Or.inl ⟨by rfl, fun U hU => vp_quiet (by (have h0 := held_cell (held_after hU.1 r_p3_5) 1 _ rfl; go_simp <;> exact rfl))⟩)
    refine Seg.sq ?_
    refine Seg.sq ?_ (ht := Or.inl ⟨by rfl, fun U hU => vp_quiet (by (have h0 := held_cell (held_after hU.1 r_p3_5) 2 _ rfl; go_simp <;> exact rfl))⟩)
    refine Seg.sq ?_
    refine Seg.sq ?_
    refine Seg.step _ rfl ⟨by rfl, fun U hU => ?_⟩ ?_
    · go_simp; exact vp_alloc rfl rfl rfl
    refine Seg.sa ?_
    refine Seg.step _ rfl ⟨by rfl, fun U z k hz hU hc => ?_⟩ ?_
    · have hz2 := Option.some.inj hz
      cases hz2; clear hz
      exact vp_store_agg _ _ _ rfl hc rfl rfl (by kernel_rfl) rfl (by rfl)
    refine Seg.sa ?_
    refine Seg.stop (fun U3 hU hk => ?_)
    have nb8 := hge 8 _ _ rfl
    have rb8 := (hk 8 _ 9 rfl trivial).1.1 trivial _ (Nat.zero_le _) rfl
    clear hk hge hne
    generalize th (0 + 8) = p6_8 at *
    simp only [Ent.obj] at rb8
    have df_p0_0_p6_8 : p0_0 ≠ p6_8 := by have := held_lt r_p0_0; omega
    have df_p3_5_p6_8 : p3_5 ≠ p6_8 := by have := held_lt r_p3_5; omega
    replace r_p0_0 := held_after hU r_p0_0
    replace r_p3_5 := held_after hU r_p3_5
    have r_p6_8 := rb8
    clear rb8
    have n_p6_8 := nb8
    clear nb8
    have sz3 := hU.size
    replace hB := bthen hB hU
    clear hU
    go_upto_region 7 with (fail)
    cases em : mayDB true a b (2000 + c)
    · rw [em] at kM hV
      rw [if_neg (by simp)] at hV
      replace hV := hid hV
      apply wp_region_seg0 (w := U3) (S := [.q [], .q [], .q []]) (E := [.q0 _, .c0 _, .q0 _]) rfl (by kernel_rfl) rfl rfl
      intro th hge hne
      refine Seg.sq ?_ (ht := Or.inl ⟨by rfl, fun U hU => vp_quiet (by (have h0 := held_cell (held_after hU.1 r_p6_8) 0 _ rfl; have h1 := held_cell (held_after hU.1 r_p6_8) 1 _ rfl; have h2 := held_cell (held_after hU.1 r_p6_8) 2 _ rfl; have h3 := held_cell (held_after hU.1 r_p6_8) 3 _ rfl; go_simp <;> exact rfl))⟩)
      refine Seg.step _ rfl (Or.inl ⟨by rfl, fun U hU => ?_⟩) ?_
      · go_simp
        refine vp_call (kM.out _)
      refine Seg.sa ?_
      refine Seg.sq ?_
      refine Seg.stop (fun U4 hU hk => ?_)
      clear hk hge hne
      replace r_p0_0 := held_after hU r_p0_0
      replace r_p3_5 := held_after hU r_p3_5
      replace r_p6_8 := held_after hU r_p6_8
      have sz4 := hU.size
      replace hB := bthen hB hU
      clear hU
      go_upto_region 8 with (fail)
      have z0 := held_cell r_p0_0 0 _ rfl
      have z1 := held_cell r_p0_0 1 _ rfl
      have z2 := held_cell r_p0_0 2 _ rfl
      have z3 := held_cell r_p0_0 3 _ rfl
      have g0 := held_free r_p0_0 0
      have g1 := held_free r_p0_0 1
      have g2 := held_free r_p0_0 2
      have g3 := held_free r_p0_0 3
      obtain ⟨W9, hW9, ya, yO⟩ := set4 r_p0_0 (.bool false) (.int .i64 0) (.int .i64 0) (.int .i64 0)
      replace hB := belowC hB yO nP
      have ez0 := held_cell ya 0 _ rfl
      have ez1 := held_cell ya 1 _ rfl
      have ez2 := held_cell ya 2 _ rfl
      have ez3 := held_cell ya 3 _ rfl
      clear yO ya
      replace hB := hid hB
      go_wp2_with fail
      refine bodyPost_ret (v := .tuple #[.agg #[.bool false, .int .i64 0, .int .i64 0, .int .i64 0], .int .i64 5]) (by simp [results, Tryz.results58, go_sem, ez0, ez1, ez2, ez3]) rfl ⟨?_, hB.out⟩
      rw [hV.out]; rfl
    · rw [em] at kM hV
      rw [if_pos rfl] at hV
      replace hV := hid hV
      apply wp_region_seg0 (w := U3) (S := [.q [], .q [], .q []]) (E := [.q0 _, .c0 _, .q0 _]) rfl (by kernel_rfl) rfl rfl
      intro th hge hne
      refine Seg.sq ?_ (ht := Or.inl ⟨by rfl, fun U hU => vp_quiet (by (have h0 := held_cell (held_after hU.1 r_p6_8) 0 _ rfl; have h1 := held_cell (held_after hU.1 r_p6_8) 1 _ rfl; have h2 := held_cell (held_after hU.1 r_p6_8) 2 _ rfl; have h3 := held_cell (held_after hU.1 r_p6_8) 3 _ rfl; go_simp <;> exact rfl))⟩)
      refine Seg.step _ rfl (Or.inl ⟨by rfl, fun U hU => ?_⟩) ?_
      · go_simp
        refine vp_call (kM.out _)
      refine Seg.sa ?_
      refine Seg.sq ?_
      refine Seg.stop (fun U4 hU hk => ?_)
      clear hk hge hne
      replace r_p0_0 := held_after hU r_p0_0
      replace r_p3_5 := held_after hU r_p3_5
      replace r_p6_8 := held_after hU r_p6_8
      have sz4 := hU.size
      replace hB := bthen hB hU
      clear hU
      go_upto_region 9 with (fail)
      have x0 := held_cell r_p6_8 0 _ rfl
      have x1 := held_cell r_p6_8 1 _ rfl
      have x2 := held_cell r_p6_8 2 _ rfl
      have x3 := held_cell r_p6_8 3 _ rfl
      have z0 := held_cell r_p0_0 0 _ rfl
      have z1 := held_cell r_p0_0 1 _ rfl
      have z2 := held_cell r_p0_0 2 _ rfl
      have z3 := held_cell r_p0_0 3 _ rfl
      have g0 := held_free r_p0_0 0
      have g1 := held_free r_p0_0 1
      have g2 := held_free r_p0_0 2
      have g3 := held_free r_p0_0 3
      obtain ⟨W9, hW9, ya, yO⟩ := set4 r_p0_0 (.bool true) (.int .i64 a) (.int .i64 b) (.int .i64 (2000 + c))
      replace hB := belowC hB yO nP
      have ez0 := held_cell ya 0 _ rfl
      have ez1 := held_cell ya 1 _ rfl
      have ez2 := held_cell ya 2 _ rfl
      have ez3 := held_cell ya 3 _ rfl
      clear yO ya
      replace hB := hid hB
      go_wp2_with fail
      refine bodyPost_ret (v := .tuple #[.agg #[.bool true, .int .i64 a, .int .i64 b, .int .i64 (2000 + c)], .int .i64 0]) (by simp [results, Tryz.results58, go_sem, ez0, ez1, ez2, ez3]) rfl ⟨?_, hB.out⟩
      rw [hV.out]
  · rw [if_neg (fun h => h6 h.1)] at hV
    replace hV := hid hV
    simp only [if_neg h6] at kT
    replace kT := hid kT
    go_enter Tryz.func58, Tryz.ntmps58
    go_upto_region 0 with (fail)
    apply wp_region_seg0 (w := w) (S := [.al 1000, .q []]) (E := [.al ((fun p => .pointer (some ⟨p, 0, none⟩)), _) 1000, .q0 _]) rfl (by kernel_rfl) rfl rfl
    intro th hge hne
    refine Seg.step _ rfl ⟨by rfl, fun U hU => ?_⟩ ?_
    · go_simp; exact vp_alloc rfl rfl rfl
    refine Seg.sa ?_
    refine Seg.sq ?_
    refine Seg.stop (fun U1 hU hk => ?_)
    have nb0 := hge 0 _ _ rfl
    have rb0 := (hk 0 _ _ rfl trivial).1.2 (by simp)
    clear hk hge hne
    generalize th (0 + 0) = p0_0 at *
    dsimp only at rb0
    have r_p0_0 := rb0
    clear rb0
    have n_p0_0 := nb0
    clear nb0
    have sz1 := hU.size
    have hB : Below w.heap.size w U1 := hU
    clear hU
    go_upto_region 3 with (fail)
    apply wp_region_seg0 (w := U1) (S := [.q [], .q [], .q [], .q [], .q [], .al 6, .st 5 [], .q []]) (E := [.q0 _, .c0 _, .q0 _, .q0 _, .q0 _, .al ((fun p => .pointer (some ⟨p, 0, none⟩)), _) 6, .s0 5 (.cells _ _), .q0 _]) rfl (by kernel_rfl) rfl rfl
    intro th hge hne
    refine Seg.sq ?_
    refine Seg.step _ rfl (Or.inl ⟨by rfl, fun U hU => ?_⟩) ?_
    · go_simp
      refine vp_call (kT.out _)
    refine Seg.sa ?_
    iterate 3 refine Seg.sq ?_
    refine Seg.step _ rfl ⟨by rfl, fun U hU => ?_⟩ ?_
    · go_simp; exact vp_alloc rfl rfl rfl
    refine Seg.sa ?_
    refine Seg.step _ rfl ⟨by rfl, fun U z k hz hU hc => ?_⟩ ?_
    · have hz2 := Option.some.inj hz
      cases hz2; clear hz
      exact vp_store_agg _ _ _ rfl hc rfl rfl (by kernel_rfl) rfl (by rfl)
    refine Seg.sa ?_
    refine Seg.sq ?_
    refine Seg.stop (fun U2 hU hk => ?_)
    have nb5 := hge 5 _ _ rfl
    have rb5 := (hk 5 _ 6 rfl trivial).1.1 trivial _ (Nat.zero_le _) rfl
    clear hk hge hne
    generalize th (0 + 5) = p3_5 at *
    simp only [Ent.obj] at rb5
    have df_p0_0_p3_5 : p0_0 ≠ p3_5 := by have := held_lt r_p0_0; omega
    replace r_p0_0 := held_after hU r_p0_0
    have r_p3_5 := rb5
    clear rb5
    have n_p3_5 := nb5
    clear nb5
    have sz2 := hU.size
    replace hB := bthen hB hU
    clear hU
    have nP : w.heap.size ≤ p0_0 := n_p0_0
    go_upto_region 5 with (fail)
    have z0 := held_cell r_p0_0 0 _ rfl
    have z1 := held_cell r_p0_0 1 _ rfl
    have z2 := held_cell r_p0_0 2 _ rfl
    have z3 := held_cell r_p0_0 3 _ rfl
    have g0 := held_free r_p0_0 0
    have g1 := held_free r_p0_0 1
    have g2 := held_free r_p0_0 2
    have g3 := held_free r_p0_0 3
    obtain ⟨W9, hW9, ya, yO⟩ := set4 r_p0_0 (.bool false) (.int .i64 0) (.int .i64 0) (.int .i64 0)
    replace hB := belowC hB yO nP
    have ez0 := held_cell ya 0 _ rfl
    have ez1 := held_cell ya 1 _ rfl
    have ez2 := held_cell ya 2 _ rfl
    have ez3 := held_cell ya 3 _ rfl
    clear yO ya
    replace hB := hid hB
    go_wp2_with fail
    refine bodyPost_ret (v := .tuple #[.agg #[.bool false, .int .i64 0, .int .i64 0, .int .i64 0], .int .i64 3]) (by simp [results, Tryz.results58, go_sem, ez0, ez1, ez2, ez3]) rfl ⟨?_, hB.out⟩
    rw [hV.out]; rfl

end Go.Proofs.YthnoomdhgbaecaaGreatDoor
