/- The papers' TakeDate. -/
import Derived.Test.YthnoomdhgbaecaaGreatDoorClock11
import Derived.Deep.DeepCutAuto
namespace Go.Proofs.YthnoomdhgbaecaaGreatDoor

open Go.ChangeShapes Go.WideShapes Go.ChangeAt Go.RowKit

set_option linter.unusedVariables false

set_option maxRecDepth 100000 in
set_option maxHeartbeats 16000000 in
theorem rtaked_any (s : ByteArray) (w : World) (hs : s.size ≤ 90000) : Calls Tryz.prog 69 #[.string s] w fun e w' => e = .returned (takeD (sb s)) ∧ Below w.heap.size w w' := by
  have hl := sb_len s
  have hV : takeD (sb s) = takeD (sb s) := rfl
  conv at hV => rhs; unfold takeD; rw [hl]
  obtain ⟨R, hR⟩ : ∃ R, takeD (sb s) = R := ⟨_, rfl⟩
  rw [hR] at hV ⊢
  clear hR
  by_cases h0 : s.size = 0
  · rw [if_pos h0] at hV
    replace hV := hid hV
    have hE : s.toList.isEmpty = true := by rw [emp_iff]; simp [h0]
    go_enter Tryz.func69, Tryz.ntmps69
    go_upto_region 0 with (fail)
    apply wp_region_seg0 (w := w) (S := [.al 1000, .q []]) (E := [.al ((fun p => .pointer (some ⟨p, 0, none⟩)), _) 1000, .q0 _]) rfl (by kernel_rfl) rfl rfl
    intro th hge hne
    refine Seg.step _ rfl ⟨by rfl, fun U hU => ?_⟩ ?_
    · go_simp; exact vp_alloc rfl rfl rfl
    refine Seg.sa ?_
    refine Seg.sq ?_
    refine Seg.stop (fun U1 hU hk => ?_)
    have nb0 := hge 0 _ _ rfl
    have rb0 := (hk 0 _ _ rfl trivial).1.2 (by simp)
    clear hk hge hne
    generalize th (0 + 0) = p0_0 at *
    dsimp only at rb0
    have r_p0_0 := rb0
    clear rb0
    have n_p0_0 := nb0
    clear nb0
    have sz1 := hU.size
    have hB : Below w.heap.size w U1 := hU
    clear hU
    have nP : w.heap.size ≤ p0_0 := n_p0_0
    go_upto_region 2 with (fail)
    have z0 := held_cell r_p0_0 0 _ rfl
    have z1 := held_cell r_p0_0 1 _ rfl
    have z2 := held_cell r_p0_0 2 _ rfl
    have z3 := held_cell r_p0_0 3 _ rfl
    have g0 := held_free r_p0_0 0
    have g1 := held_free r_p0_0 1
    have g2 := held_free r_p0_0 2
    have g3 := held_free r_p0_0 3
    obtain ⟨W9, hW9, ya, yO⟩ := set4 r_p0_0 (.bool false) (.int .i64 0) (.int .i64 0) (.int .i64 0)
    replace hB := belowC hB yO nP
    have ez0 := held_cell ya 0 _ rfl
    have ez1 := held_cell ya 1 _ rfl
    have ez2 := held_cell ya 2 _ rfl
    have ez3 := held_cell ya 3 _ rfl
    clear yO ya
    replace hB := hid hB
    go_wp2_with fail
    refine bodyPost_ret (v := .tuple #[.agg #[.bool false, .int .i64 0, .int .i64 0, .int .i64 0], .int .i64 0]) (by simp [results, Tryz.results69, go_sem, ez0, ez1, ez2, ez3]) rfl ⟨?_, hB.out⟩
    rw [hV.out]; rfl
  rw [if_neg h0] at hV
  have hE : s.toList.isEmpty = false := by rw [emp_iff]; simp [h0]
  by_cases hz : s.size = 6
  case neg =>
    rw [if_neg (fun h => hz h.1)] at hV
    replace hV := hid hV
    have i6 : ((s.size : Int) != 6) = true := by exact bne_iff_ne.2 (by omega)
    go_enter Tryz.func69, Tryz.ntmps69
    go_upto_region 0 with (fail)
    apply wp_region_seg0 (w := w) (S := [.al 1000, .q []]) (E := [.al ((fun p => .pointer (some ⟨p, 0, none⟩)), _) 1000, .q0 _]) rfl (by kernel_rfl) rfl rfl
    intro th hge hne
    refine Seg.step _ rfl ⟨by rfl, fun U hU => ?_⟩ ?_
    · go_simp; exact vp_alloc rfl rfl rfl
    refine Seg.sa ?_
    refine Seg.sq ?_
    refine Seg.stop (fun U1 hU hk => ?_)
    have nb0 := hge 0 _ _ rfl
    have rb0 := (hk 0 _ _ rfl trivial).1.2 (by simp)
    clear hk hge hne
    generalize th (0 + 0) = p0_0 at *
    dsimp only at rb0
    have r_p0_0 := rb0
    clear rb0
    have n_p0_0 := nb0
    clear nb0
    have sz1 := hU.size
    have hB : Below w.heap.size w U1 := hU
    clear hU
    have nP : w.heap.size ≤ p0_0 := n_p0_0
    go_upto_region 4 with (fail)
    have z0 := held_cell r_p0_0 0 _ rfl
    have z1 := held_cell r_p0_0 1 _ rfl
    have z2 := held_cell r_p0_0 2 _ rfl
    have z3 := held_cell r_p0_0 3 _ rfl
    have g0 := held_free r_p0_0 0
    have g1 := held_free r_p0_0 1
    have g2 := held_free r_p0_0 2
    have g3 := held_free r_p0_0 3
    obtain ⟨W9, hW9, ya, yO⟩ := set4 r_p0_0 (.bool false) (.int .i64 0) (.int .i64 0) (.int .i64 0)
    replace hB := belowC hB yO nP
    have ez0 := held_cell ya 0 _ rfl
    have ez1 := held_cell ya 1 _ rfl
    have ez2 := held_cell ya 2 _ rfl
    have ez3 := held_cell ya 3 _ rfl
    clear yO ya
    replace hB := hid hB
    go_wp2_with fail
    refine bodyPost_ret (v := .tuple #[.agg #[.bool false, .int .i64 0, .int .i64 0, .int .i64 0], .int .i64 3]) (by simp [results, Tryz.results69, go_sem, ez0, ez1, ez2, ez3]) rfl ⟨?_, hB.out⟩
    rw [hV.out]; rfl
  have i6 : (s.size : Int) = 6 := by omega
  obtain ⟨a, b, c, d, e, f, r, hr, hrl⟩ := six_of (l := sb s) (by omega)
  obtain rfl : r = [] := List.eq_nil_of_length_eq_zero (by omega)
  have kD := fun v : World => rdigits24_any s v (by omega)
  rw [hr] at kD hV
  have e2 : sb (s.extract 2 s.size) = c :: d :: e :: f :: [] := by rw [sb_from, hr]; rfl
  have e4 : sb (s.extract 4 s.size) = e :: f :: [] := by rw [sb_from, hr]; rfl
  obtain ⟨hok, hgn⟩ := prS_six a b c d e f
  rw [hok] at hV
  clear hok
  generalize prS [a, b, c, d, e, f] = PP at *
  cases hd : dAll [a, b, c, d, e, f]
  · rw [hd] at kD hV
    rw [if_neg (by simp)] at hV
    replace hV := hid hV
    clear hd hgn hr hrl e2 e4
    go_enter Tryz.func69, Tryz.ntmps69
    go_upto_region 0 with (fail)
    apply wp_region_seg0 (w := w) (S := [.al 1000, .q []]) (E := [.al ((fun p => .pointer (some ⟨p, 0, none⟩)), _) 1000, .q0 _]) rfl (by kernel_rfl) rfl rfl
    intro th hge hne
    refine Seg.step _ rfl ⟨by rfl, fun U hU => ?_⟩ ?_
    · go_simp; exact vp_alloc rfl rfl rfl
    refine Seg.sa ?_
    refine Seg.sq ?_
    refine Seg.stop (fun U1 hU hk => ?_)
    have nb0 := hge 0 _ _ rfl
    have rb0 := (hk 0 _ _ rfl trivial).1.2 (by simp)
    clear hk hge hne
    generalize th (0 + 0) = p0_0 at *
    dsimp only at rb0
    have r_p0_0 := rb0
    clear rb0
    have n_p0_0 := nb0
    clear nb0
    have sz1 := hU.size
    have hB : Below w.heap.size w U1 := hU
    clear hU
    have nP : w.heap.size ≤ p0_0 := n_p0_0
    go_wp2_with fail
    refine (kD _).mono ?_
    rintro e V ⟨rfl, rfl⟩
    go_upto_region 4 with (fail)
    have z0 := held_cell r_p0_0 0 _ rfl
    have z1 := held_cell r_p0_0 1 _ rfl
    have z2 := held_cell r_p0_0 2 _ rfl
    have z3 := held_cell r_p0_0 3 _ rfl
    have g0 := held_free r_p0_0 0
    have g1 := held_free r_p0_0 1
    have g2 := held_free r_p0_0 2
    have g3 := held_free r_p0_0 3
    obtain ⟨W9, hW9, ya, yO⟩ := set4 r_p0_0 (.bool false) (.int .i64 0) (.int .i64 0) (.int .i64 0)
    replace hB := belowC hB yO nP
    have ez0 := held_cell ya 0 _ rfl
    have ez1 := held_cell ya 1 _ rfl
    have ez2 := held_cell ya 2 _ rfl
    have ez3 := held_cell ya 3 _ rfl
    clear yO ya
    replace hB := hid hB
    go_wp2_with fail
    refine bodyPost_ret (v := .tuple #[.agg #[.bool false, .int .i64 0, .int .i64 0, .int .i64 0], .int .i64 3]) (by simp [results, Tryz.results69, go_sem, ez0, ez1, ez2, ez3]) rfl ⟨?_, hB.out⟩
    rw [hV.out]; rfl
  rw [hd] at kD hV
  obtain ⟨ga, gb, gc⟩ := hgn hd
  rw [ga, gb, gc] at hV
  rw [if_pos ⟨hz, rfl⟩] at hV
  obtain ⟨da, db, dc, dd, de, df⟩ := dAll_six hd
  clear ga gb gc hgn hd
  have k1 := fun v : World => rpair_any s a b _ v hr da db
  have k2 := fun v : World => rpair_any (s.extract 2 s.size) c d _ v e2 dc dd
  have k3 := fun v : World => rpair_any (s.extract 4 s.size) e f _ v e4 de df
  have y0 := pair_bd da db
  have y1 := pair_bd dc dd
  have y2 := pair_bd de df
  have kM := fun v : World => rmaydate_any true (pairN a b) (pairN c d) (2000 + pairN e f) v
  rw [hz] at k2 k3
  generalize pairN a b = A at *
  generalize pairN c d = B at *
  generalize pairN e f = C at *
  have fc : IntKind.i64.wrap (2000 + C) = 2000 + C := by rw [IntKind.wrap_i64]; omega
  replace k1 := hid k1
  replace k2 := hid k2
  replace k3 := hid k3
  clear e2 e4 hr da db dc dd de df hrl
  go_enter Tryz.func69, Tryz.ntmps69
  go_upto_region 0 with (fail)
  apply wp_region_seg0 (w := w) (S := [.al 1000, .q []]) (E := [.al ((fun p => .pointer (some ⟨p, 0, none⟩)), _) 1000, .q0 _]) rfl (by kernel_rfl) rfl rfl
  intro th hge hne
  refine Seg.step _ rfl ⟨by rfl, fun U hU => ?_⟩ ?_
  · go_simp; exact vp_alloc rfl rfl rfl
  refine Seg.sa ?_
  refine Seg.sq ?_
  refine Seg.stop (fun U1 hU hk => ?_)
  have nb0 := hge 0 _ _ rfl
  have rb0 := (hk 0 _ _ rfl trivial).1.2 (by simp)
  clear hk hge hne
  generalize th (0 + 0) = p0_0 at *
  dsimp only at rb0
  have r_p0_0 := rb0
  clear rb0
  have n_p0_0 := nb0
  clear nb0
  have sz1 := hU.size
  have hB : Below w.heap.size w U1 := hU
  clear hU
  go_wp2_with fail
  refine (kD _).mono ?_
  rintro e V ⟨rfl, hv⟩
  obtain rfl : U1 = V := hv.symm
  clear hv
  have nP : w.heap.size ≤ p0_0 := n_p0_0
  go_upto_region 5 with (fail)
  apply wp_region_seg (w := U1) (S := [.q [], .q [], .q [], .q [], .q [], .q [], .q [], .q [], .q [], .q [], .al 11, .st 10 []]) (E := [.q0 _, .c0 _, .q0 _, .q0 _, .c0 _, .q0 _, .q0 _, .c0 _, .q0 _, .q0 _, .al ((fun p => .pointer (some ⟨p, 0, none⟩)), _) 11, .s0 10 (.cells _ _)]) (by kernel_rfl) rfl (by kernel_rfl) rfl rfl
  intro th hge hne
  refine Seg.sq ?_
  refine Seg.step _ rfl (Or.inl ⟨by rfl, fun U hU => ?_⟩) ?_
  · go_simp
    refine vp_calld (k1.out _)
  refine Seg.sa ?_
  refine Seg.sq ?_
  refine Seg.sq ?_
  refine Seg.step _ rfl (Or.inl ⟨by rfl, fun U hU => ?_⟩) ?_
  · go_simp
    refine vp_calld (k2.out _)
  refine Seg.sa ?_
  refine Seg.sq ?_
  refine Seg.sq ?_
  refine Seg.step _ rfl (Or.inl ⟨by rfl, fun U hU => ?_⟩) ?_
  · go_simp
    refine vp_calld (k3.out _)
  refine Seg.sa ?_
  refine Seg.sq ?_
  refine Seg.sq ?_
  refine Seg.step _ rfl ⟨by rfl, fun U hU => ?_⟩ ?_
  · go_simp; exact vp_alloc rfl rfl rfl
  refine Seg.sa ?_
  refine Seg.step _ rfl ⟨by rfl, fun U z k hz hU hc => ?_⟩ ?_
  · have hz2 := Option.some.inj hz
    cases hz2; clear hz
    exact vp_store_agg _ _ _ rfl hc rfl rfl (by kernel_rfl) rfl (by rfl)
  refine Seg.sa ?_
  refine Seg.stop (fun U2 hU hk => ?_)
  have nb10 := hge 10 _ _ rfl
  have rb10 := (hk 10 _ 11 rfl trivial).1.1 trivial _ (Nat.zero_le _) rfl
  clear hk hge hne
  generalize th (0 + 10) = p5_10 at *
  simp only [Ent.obj] at rb10
  have df_p0_0_p5_10 : p0_0 ≠ p5_10 := by have := held_lt r_p0_0; omega
  replace r_p0_0 := held_after hU r_p0_0
  have r_p5_10 := rb10
  clear rb10
  have n_p5_10 := nb10
  clear nb10
  have sz2 := hU.size
  replace hB := bthen hB hU
  clear hU
  go_upto_region 6 with (fail)
  cases em : mayDB true A B (2000 + C)
  · rw [em] at kM hV
    rw [if_neg (by simp)] at hV
    replace hV := hid hV
    replace kM := hid kM
    apply wp_region_seg0 (w := U2) (S := [.q [], .q [], .q []]) (E := [.q0 _, .c0 _, .q0 _]) rfl (by kernel_rfl) rfl rfl
    intro th hge hne
    refine Seg.sq ?_ (ht := Or.inl ⟨by rfl, fun U hU => vp_quiet (by (have h0 := held_cell (held_after hU.1 r_p5_10) 0 _ rfl; have h1 := held_cell (held_after hU.1 r_p5_10) 1 _ rfl; have h2 := held_cell (held_after hU.1 r_p5_10) 2 _ rfl; have h3 := held_cell (held_after hU.1 r_p5_10) 3 _ rfl; go_simp <;> exact rfl))⟩)
    refine Seg.step _ rfl (Or.inl ⟨by rfl, fun U hU => ?_⟩) ?_
    · go_simp
      refine vp_call (kM.out _)
    refine Seg.sa ?_
    refine Seg.sq ?_
    refine Seg.stop (fun U3 hU hk => ?_)
    clear hk hge hne
    replace r_p0_0 := held_after hU r_p0_0
    replace r_p5_10 := held_after hU r_p5_10
    have sz3 := hU.size
    replace hB := bthen hB hU
    clear hU
    go_upto_region 7 with (fail)
    have z0 := held_cell r_p0_0 0 _ rfl
    have z1 := held_cell r_p0_0 1 _ rfl
    have z2 := held_cell r_p0_0 2 _ rfl
    have z3 := held_cell r_p0_0 3 _ rfl
    have g0 := held_free r_p0_0 0
    have g1 := held_free r_p0_0 1
    have g2 := held_free r_p0_0 2
    have g3 := held_free r_p0_0 3
    obtain ⟨W9, hW9, ya, yO⟩ := set4 r_p0_0 (.bool false) (.int .i64 0) (.int .i64 0) (.int .i64 0)
    replace hB := belowC hB yO nP
    have ez0 := held_cell ya 0 _ rfl
    have ez1 := held_cell ya 1 _ rfl
    have ez2 := held_cell ya 2 _ rfl
    have ez3 := held_cell ya 3 _ rfl
    clear yO ya
    replace hB := hid hB
    go_wp2_with fail
    refine bodyPost_ret (v := .tuple #[.agg #[.bool false, .int .i64 0, .int .i64 0, .int .i64 0], .int .i64 5]) (by simp [results, Tryz.results69, go_sem, ez0, ez1, ez2, ez3]) rfl ⟨?_, hB.out⟩
    rw [hV.out]; rfl
  · rw [em] at kM hV
    rw [if_pos rfl] at hV
    replace hV := hid hV
    replace kM := hid kM
    apply wp_region_seg0 (w := U2) (S := [.q [], .q [], .q []]) (E := [.q0 _, .c0 _, .q0 _]) rfl (by kernel_rfl) rfl rfl
    intro th hge hne
    refine Seg.sq ?_ (ht := Or.inl ⟨by rfl, fun U hU => vp_quiet (by (have h0 := held_cell (held_after hU.1 r_p5_10) 0 _ rfl; have h1 := held_cell (held_after hU.1 r_p5_10) 1 _ rfl; have h2 := held_cell (held_after hU.1 r_p5_10) 2 _ rfl; have h3 := held_cell (held_after hU.1 r_p5_10) 3 _ rfl; go_simp <;> exact rfl))⟩)
    refine Seg.step _ rfl (Or.inl ⟨by rfl, fun U hU => ?_⟩) ?_
    · go_simp
      refine vp_call (kM.out _)
    refine Seg.sa ?_
    refine Seg.sq ?_
    refine Seg.stop (fun U3 hU hk => ?_)
    clear hk hge hne
    replace r_p0_0 := held_after hU r_p0_0
    replace r_p5_10 := held_after hU r_p5_10
    have sz3 := hU.size
    replace hB := bthen hB hU
    clear hU
    go_upto_region 8 with (fail)
    have x0 := held_cell r_p5_10 0 _ rfl
    have x1 := held_cell r_p5_10 1 _ rfl
    have x2 := held_cell r_p5_10 2 _ rfl
    have x3 := held_cell r_p5_10 3 _ rfl
    have z0 := held_cell r_p0_0 0 _ rfl
    have z1 := held_cell r_p0_0 1 _ rfl
    have z2 := held_cell r_p0_0 2 _ rfl
    have z3 := held_cell r_p0_0 3 _ rfl
    have g0 := held_free r_p0_0 0
    have g1 := held_free r_p0_0 1
    have g2 := held_free r_p0_0 2
    have g3 := held_free r_p0_0 3
    obtain ⟨W9, hW9, ya, yO⟩ := set4 r_p0_0 (.bool true) (.int .i64 A) (.int .i64 B) (.int .i64 (2000 + C))
    replace hB := belowC hB yO nP
    have ez0 := held_cell ya 0 _ rfl
    have ez1 := held_cell ya 1 _ rfl
    have ez2 := held_cell ya 2 _ rfl
    have ez3 := held_cell ya 3 _ rfl
    clear yO ya
    replace hB := hid hB
    go_wp2_with fail
    refine bodyPost_ret (v := .tuple #[.agg #[.bool true, .int .i64 A, .int .i64 B, .int .i64 (2000 + C)], .int .i64 0]) (by simp [results, Tryz.results69, go_sem, ez0, ez1, ez2, ez3]) rfl ⟨?_, hB.out⟩
    rw [hV.out]

end Go.Proofs.YthnoomdhgbaecaaGreatDoor
