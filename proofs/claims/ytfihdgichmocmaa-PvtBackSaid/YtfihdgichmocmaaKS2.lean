/- Several texts in one: Shape4, Shape5. -/
import Derived.Test.YtfihdgichmocmaaKS1
import Derived.Deep.DeepCutAuto

/- The papers' Any, U, I, room. -/
namespace Go.Proofs.Ytfihdgichmocmaa
open Go.ChangeShapes Go.WideShapes Go.ChangeAt Go.RowKit
set_option linter.unusedVariables false
set_option linter.unusedSimpArgs false

set_option maxRecDepth 100000 in
set_option maxHeartbeats 4000000 in
theorem rany_any (n : Int) (sg : Bool) (w : World) : Calls Try.prog 70 #[.int .i64 n, .bool sg] w fun e w' => e = .returned (anyV n sg) ∧ Below w.heap.size w w' := by
  by_cases c1 : n < 1
  · have hV : anyV n sg = .agg #[.int .i64 0, .bool false, .int .i64 0, .int .i64 0] := by unfold anyV; rw [if_neg (fun h => by have := szB_iff.1 h; omega)]
    rw [hV]
    clear hV
    go_enter Try.func70, Try.ntmps70
    go_upto_region 0 with (fail)
    apply wp_region_seg0 (w := w) (S := [.al 1000]) (E := [.al ((fun p => .pointer (some ⟨p, 0, none⟩)), _) 1000]) rfl (by kernel_rfl) rfl rfl
    intro th hge hne
    refine Seg.step _ rfl ⟨by rfl, fun U hU => ?_⟩ ?_
    · go_simp; exact vp_alloc rfl rfl rfl
    refine ⟨_, by (simp only [Ent.val]; go_simp <;> exact rfl), ?_⟩
    refine Seg.stop (fun U1 hU hk => ?_)
    have nb0 := hge 0 _ _ rfl
    have rb0 := (hk 0 _ _ rfl trivial).1.2 (by simp)
    clear hk hge hne
    generalize th (0 + 0) = p0_0 at *
    dsimp only at rb0
    have r_p0_0 := rb0
    clear rb0
    have n_p0_0 := nb0
    clear nb0
    have sz1 := hU.size
    have hB : Below w.heap.size w U1 := hU
    clear hU
    have nP : w.heap.size ≤ p0_0 := n_p0_0
    go_upto_region 2 with (fail)
    have z0 := held_cell r_p0_0 0 _ rfl
    have z1 := held_cell r_p0_0 1 _ rfl
    have z2 := held_cell r_p0_0 2 _ rfl
    have z3 := held_cell r_p0_0 3 _ rfl
    have g0 := held_free r_p0_0 0
    have g1 := held_free r_p0_0 1
    have g2 := held_free r_p0_0 2
    have g3 := held_free r_p0_0 3
    obtain ⟨W9, hW9, ya, yO⟩ := st4 r_p0_0 (.int .i64 0) (.bool false) (.int .i64 0) (.int .i64 0)
    replace hB := belowS hB yO nP
    have ez0 := held_cell ya 0 _ rfl
    have ez1 := held_cell ya 1 _ rfl
    have ez2 := held_cell ya 2 _ rfl
    have ez3 := held_cell ya 3 _ rfl
    clear yO ya
    replace hB := hid hB
    go_wp2_with fail
    refine bodyPost_ret (v := .agg #[.int .i64 0, .bool false, .int .i64 0, .int .i64 0]) (by simp [results, Try.results70, go_sem, ez0, ez1, ez2, ez3]) rfl ⟨rfl, hB.out⟩
  by_cases c2 : 8 < n
  · have hV : anyV n sg = .agg #[.int .i64 0, .bool false, .int .i64 0, .int .i64 0] := by unfold anyV; rw [if_neg (fun h => by have := szB_iff.1 h; omega)]
    rw [hV]
    clear hV
    go_enter Try.func70, Try.ntmps70
    go_upto_region 0 with (fail)
    apply wp_region_seg0 (w := w) (S := [.al 1000]) (E := [.al ((fun p => .pointer (some ⟨p, 0, none⟩)), _) 1000]) rfl (by kernel_rfl) rfl rfl
    intro th hge hne
    refine Seg.step _ rfl ⟨by rfl, fun U hU => ?_⟩ ?_
    · go_simp; exact vp_alloc rfl rfl rfl
    refine ⟨_, by (simp only [Ent.val]; go_simp <;> exact rfl), ?_⟩
    refine Seg.stop (fun U1 hU hk => ?_)
    have nb0 := hge 0 _ _ rfl
    have rb0 := (hk 0 _ _ rfl trivial).1.2 (by simp)
    clear hk hge hne
    generalize th (0 + 0) = p0_0 at *
    dsimp only at rb0
    have r_p0_0 := rb0
    clear rb0
    have n_p0_0 := nb0
    clear nb0
    have sz1 := hU.size
    have hB : Below w.heap.size w U1 := hU
    clear hU
    have nP : w.heap.size ≤ p0_0 := n_p0_0
    go_upto_region 2 with (fail)
    have z0 := held_cell r_p0_0 0 _ rfl
    have z1 := held_cell r_p0_0 1 _ rfl
    have z2 := held_cell r_p0_0 2 _ rfl
    have z3 := held_cell r_p0_0 3 _ rfl
    have g0 := held_free r_p0_0 0
    have g1 := held_free r_p0_0 1
    have g2 := held_free r_p0_0 2
    have g3 := held_free r_p0_0 3
    obtain ⟨W9, hW9, ya, yO⟩ := st4 r_p0_0 (.int .i64 0) (.bool false) (.int .i64 0) (.int .i64 0)
    replace hB := belowS hB yO nP
    have ez0 := held_cell ya 0 _ rfl
    have ez1 := held_cell ya 1 _ rfl
    have ez2 := held_cell ya 2 _ rfl
    have ez3 := held_cell ya 3 _ rfl
    clear yO ya
    replace hB := hid hB
    go_wp2_with fail
    refine bodyPost_ret (v := .agg #[.int .i64 0, .bool false, .int .i64 0, .int .i64 0]) (by simp [results, Try.results70, go_sem, ez0, ez1, ez2, ez3]) rfl ⟨rfl, hB.out⟩
  have km := hid (fun v : World => rmost_any n sg v (by omega) (by omega))
  have hb := hiS_bd (n := n) sg (by omega) (by omega)
  have hV : anyV n sg = .agg #[.int .i64 n, .bool sg, .int .i64 (loS n sg), .int .i64 (hiS n sg)] := by unfold anyV; rw [if_pos (szB_iff.2 ⟨by omega, by omega⟩)]
  rw [hV]
  clear hV
  have hL : loS n sg = if sg = true then -hiS n sg - 1 else 0 := rfl
  generalize loS n sg = L at *
  generalize hiS n sg = H at *
  cases sg
  · obtain rfl : L = 0 := hL
    go_enter Try.func70, Try.ntmps70
    go_upto_region 0 with (fail)
    apply wp_region_seg0 (w := w) (S := [.al 1000]) (E := [.al ((fun p => .pointer (some ⟨p, 0, none⟩)), _) 1000]) rfl (by kernel_rfl) rfl rfl
    intro th hge hne
    refine Seg.step _ rfl ⟨by rfl, fun U hU => ?_⟩ ?_
    · go_simp; exact vp_alloc rfl rfl rfl
    refine ⟨_, by (simp only [Ent.val]; go_simp <;> exact rfl), ?_⟩
    refine Seg.stop (fun U1 hU hk => ?_)
    have nb0 := hge 0 _ _ rfl
    have rb0 := (hk 0 _ _ rfl trivial).1.2 (by simp)
    clear hk hge hne
    generalize th (0 + 0) = p0_0 at *
    dsimp only at rb0
    have r_p0_0 := rb0
    clear rb0
    have n_p0_0 := nb0
    clear nb0
    have sz1 := hU.size
    have hB : Below w.heap.size w U1 := hU
    clear hU
    go_upto_region 3 with (fail)
    apply wp_region_seg0 (w := U1) (S := [.q [], .q [], .q [], .q [], .q [], .q [], .al 7, .st 6 []]) (E := [.q0 _, .q0 _, .q0 _, .q0 _, .c0 _, .q0 _, .al ((fun p => .pointer (some ⟨p, 0, none⟩)), _) 7, .s0 6 (.cells _ _)]) rfl (by kernel_rfl) rfl rfl
    intro th hge hne
    refine Seg.step _ rfl (Or.inl ⟨by rfl, fun U hU => vp_quiet (by (go_simp <;> exact rfl))⟩) ⟨_, by (simp only [Ent.val]; go_simp <;> exact rfl), ?_⟩
    refine Seg.step _ rfl (Or.inl ⟨by rfl, fun U hU => vp_quiet (by (go_simp <;> exact rfl))⟩) ⟨_, by (simp only [Ent.val]; go_simp <;> exact rfl), ?_⟩
    refine Seg.step _ rfl (Or.inl ⟨by rfl, fun U hU => vp_quiet (by (go_simp <;> exact rfl))⟩) ⟨_, by (simp only [Ent.val]; go_simp <;> exact rfl), ?_⟩
    refine Seg.step _ rfl (Or.inl ⟨by rfl, fun U hU => vp_quiet (by (go_simp <;> exact rfl))⟩) ⟨_, by (simp only [Ent.val]; go_simp <;> exact rfl), ?_⟩
    refine Seg.step _ rfl (Or.inl ⟨by rfl, fun U hU => ?_⟩) ?_
    · go_simp
      refine vp_calls (km.out _)
    refine ⟨_, by (simp only [Ent.val]; go_simp <;> exact rfl), ?_⟩
    refine Seg.step _ rfl (Or.inl ⟨by rfl, fun U hU => vp_quiet (by (go_simp <;> exact rfl))⟩) ⟨_, by (simp only [Ent.val]; go_simp <;> exact rfl), ?_⟩
    refine Seg.step _ rfl ⟨by rfl, fun U hU => ?_⟩ ?_
    · go_simp; exact vp_alloc rfl rfl rfl
    refine ⟨_, by (simp only [Ent.val]; go_simp <;> exact rfl), ?_⟩
    refine Seg.step _ rfl ⟨by rfl, fun U z k hz hU hc => ?_⟩ ?_
    · have hz2 := Option.some.inj hz
      cases hz2; clear hz
      exact vp_store_agg _ _ _ rfl hc rfl rfl (by kernel_rfl) rfl (by rfl)
    refine ⟨_, by (simp only [Ent.val]; go_simp <;> exact rfl), ?_⟩
    refine Seg.stop (fun U2 hU hk => ?_)
    have nb6 := hge 6 _ _ rfl
    have rb6 := (hk 6 _ 7 rfl trivial).1.1 trivial _ (Nat.zero_le _) rfl
    clear hk hge hne
    generalize th (0 + 6) = p3_6 at *
    simp only [Ent.obj] at rb6
    have df_p0_0_p3_6 : p0_0 ≠ p3_6 := by have := held_lt r_p0_0; omega
    replace r_p0_0 := held_after hU r_p0_0
    have r_p3_6 := rb6
    clear rb6
    have n_p3_6 := nb6
    clear nb6
    have sz2 := hU.size
    replace hB := bthen hB hU
    clear hU
    have nP : w.heap.size ≤ p0_0 := n_p0_0
    have q0 := held_cell r_p3_6 0 _ rfl
    have q1 := held_cell r_p3_6 1 _ rfl
    have q2 := held_cell r_p3_6 2 _ rfl
    have q3 := held_cell r_p3_6 3 _ rfl
    have qf := held_free r_p3_6 2
    have w1 : IntKind.i64.wrap (-H) = -H := by rw [IntKind.wrap_i64]; omega
    have w2 : IntKind.i64.wrap (-H - 1) = -H - 1 := by rw [IntKind.wrap_i64]; omega
    have z0 := held_cell r_p0_0 0 _ rfl
    have z1 := held_cell r_p0_0 1 _ rfl
    have z2 := held_cell r_p0_0 2 _ rfl
    have z3 := held_cell r_p0_0 3 _ rfl
    have g0 := held_free r_p0_0 0
    have g1 := held_free r_p0_0 1
    have g2 := held_free r_p0_0 2
    have g3 := held_free r_p0_0 3
    obtain ⟨W9, hW9, ya, yO⟩ := st4 r_p0_0 (.int .i64 n) (.bool false) (.int .i64 0) (.int .i64 H)
    replace hB := belowS hB yO nP
    have ez0 := held_cell ya 0 _ rfl
    have ez1 := held_cell ya 1 _ rfl
    have ez2 := held_cell ya 2 _ rfl
    have ez3 := held_cell ya 3 _ rfl
    clear yO ya
    replace hB := hid hB
    go_wp2_with fail
    refine bodyPost_ret (v := .agg #[.int .i64 n, .bool false, .int .i64 0, .int .i64 H]) (by simp [results, Try.results70, go_sem, ez0, ez1, ez2, ez3]) rfl ⟨rfl, hB.out⟩
  · obtain rfl : L = -H - 1 := hL
    go_enter Try.func70, Try.ntmps70
    go_upto_region 0 with (fail)
    apply wp_region_seg0 (w := w) (S := [.al 1000]) (E := [.al ((fun p => .pointer (some ⟨p, 0, none⟩)), _) 1000]) rfl (by kernel_rfl) rfl rfl
    intro th hge hne
    refine Seg.step _ rfl ⟨by rfl, fun U hU => ?_⟩ ?_
    · go_simp; exact vp_alloc rfl rfl rfl
    refine ⟨_, by (simp only [Ent.val]; go_simp <;> exact rfl), ?_⟩
    refine Seg.stop (fun U1 hU hk => ?_)
    have nb0 := hge 0 _ _ rfl
    have rb0 := (hk 0 _ _ rfl trivial).1.2 (by simp)
    clear hk hge hne
    generalize th (0 + 0) = p0_0 at *
    dsimp only at rb0
    have r_p0_0 := rb0
    clear rb0
    have n_p0_0 := nb0
    clear nb0
    have sz1 := hU.size
    have hB : Below w.heap.size w U1 := hU
    clear hU
    go_upto_region 3 with (fail)
    apply wp_region_seg0 (w := U1) (S := [.q [], .q [], .q [], .q [], .q [], .q [], .al 7, .st 6 []]) (E := [.q0 _, .q0 _, .q0 _, .q0 _, .c0 _, .q0 _, .al ((fun p => .pointer (some ⟨p, 0, none⟩)), _) 7, .s0 6 (.cells _ _)]) rfl (by kernel_rfl) rfl rfl
    intro th hge hne
    refine Seg.step _ rfl (Or.inl ⟨by rfl, fun U hU => vp_quiet (by (go_simp <;> exact rfl))⟩) ⟨_, by (simp only [Ent.val]; go_simp <;> exact rfl), ?_⟩
    refine Seg.step _ rfl (Or.inl ⟨by rfl, fun U hU => vp_quiet (by (go_simp <;> exact rfl))⟩) ⟨_, by (simp only [Ent.val]; go_simp <;> exact rfl), ?_⟩
    refine Seg.step _ rfl (Or.inl ⟨by rfl, fun U hU => vp_quiet (by (go_simp <;> exact rfl))⟩) ⟨_, by (simp only [Ent.val]; go_simp <;> exact rfl), ?_⟩
    refine Seg.step _ rfl (Or.inl ⟨by rfl, fun U hU => vp_quiet (by (go_simp <;> exact rfl))⟩) ⟨_, by (simp only [Ent.val]; go_simp <;> exact rfl), ?_⟩
    refine Seg.step _ rfl (Or.inl ⟨by rfl, fun U hU => ?_⟩) ?_
    · go_simp
      refine vp_calls (km.out _)
    refine ⟨_, by (simp only [Ent.val]; go_simp <;> exact rfl), ?_⟩
    refine Seg.step _ rfl (Or.inl ⟨by rfl, fun U hU => vp_quiet (by (go_simp <;> exact rfl))⟩) ⟨_, by (simp only [Ent.val]; go_simp <;> exact rfl), ?_⟩
    refine Seg.step _ rfl ⟨by rfl, fun U hU => ?_⟩ ?_
    · go_simp; exact vp_alloc rfl rfl rfl
    refine ⟨_, by (simp only [Ent.val]; go_simp <;> exact rfl), ?_⟩
    refine Seg.step _ rfl ⟨by rfl, fun U z k hz hU hc => ?_⟩ ?_
    · have hz2 := Option.some.inj hz
      cases hz2; clear hz
      exact vp_store_agg _ _ _ rfl hc rfl rfl (by kernel_rfl) rfl (by rfl)
    refine ⟨_, by (simp only [Ent.val]; go_simp <;> exact rfl), ?_⟩
    refine Seg.stop (fun U2 hU hk => ?_)
    have nb6 := hge 6 _ _ rfl
    have rb6 := (hk 6 _ 7 rfl trivial).1.1 trivial _ (Nat.zero_le _) rfl
    clear hk hge hne
    generalize th (0 + 6) = p3_6 at *
    simp only [Ent.obj] at rb6
    have df_p0_0_p3_6 : p0_0 ≠ p3_6 := by have := held_lt r_p0_0; omega
    replace r_p0_0 := held_after hU r_p0_0
    have r_p3_6 := rb6
    clear rb6
    have n_p3_6 := nb6
    clear nb6
    have sz2 := hU.size
    replace hB := bthen hB hU
    clear hU
    have nP : w.heap.size ≤ p0_0 := n_p0_0
    have q0 := held_cell r_p3_6 0 _ rfl
    have q1 := held_cell r_p3_6 1 _ rfl
    have q2 := held_cell r_p3_6 2 _ rfl
    have q3 := held_cell r_p3_6 3 _ rfl
    have qf := held_free r_p3_6 2
    have w1 : IntKind.i64.wrap (-H) = -H := by rw [IntKind.wrap_i64]; omega
    have w2 : IntKind.i64.wrap (-H - 1) = -H - 1 := by rw [IntKind.wrap_i64]; omega
    obtain ⟨S1, hS1, s1, o1⟩ := st1 r_p3_6 2 (.int .i64 (-H - 1))
    have r9 := heldS o1 df_p0_0_p3_6 r_p0_0
    have hB9 := belowS hB o1 (by omega)
    clear o1 hB r_p0_0
    have hB := hB9
    have r_p0_0 := r9
    clear hB9 r9
    have t0 := held_cell s1 0 _ rfl
    have t1 := held_cell s1 1 _ rfl
    have t2 := held_cell s1 2 _ rfl
    have t3 := held_cell s1 3 _ rfl
    replace s1 := hid s1
    have z0 := held_cell r_p0_0 0 _ rfl
    have z1 := held_cell r_p0_0 1 _ rfl
    have z2 := held_cell r_p0_0 2 _ rfl
    have z3 := held_cell r_p0_0 3 _ rfl
    have g0 := held_free r_p0_0 0
    have g1 := held_free r_p0_0 1
    have g2 := held_free r_p0_0 2
    have g3 := held_free r_p0_0 3
    obtain ⟨W9, hW9, ya, yO⟩ := st4 r_p0_0 (.int .i64 n) (.bool true) (.int .i64 (-H - 1)) (.int .i64 H)
    replace hB := belowS hB yO nP
    have ez0 := held_cell ya 0 _ rfl
    have ez1 := held_cell ya 1 _ rfl
    have ez2 := held_cell ya 2 _ rfl
    have ez3 := held_cell ya 3 _ rfl
    clear yO ya
    replace hB := hid hB
    go_wp2_with fail
    refine bodyPost_ret (v := .agg #[.int .i64 n, .bool true, .int .i64 (-H - 1), .int .i64 H]) (by simp [results, Try.results70, go_sem, ez0, ez1, ez2, ez3]) rfl ⟨rfl, hB.out⟩
def inS (n : Int) (sg : Bool) (x : Int) : Bool := decide (loS n sg ≤ x) && decide (x ≤ hiS n sg)
set_option maxRecDepth 100000 in
set_option maxHeartbeats 2000000 in
theorem rroom_any (n : Int) (sg : Bool) (lo hi x : Int) (w : World) (h1 : 1 ≤ n) (h2 : n ≤ 8) : Calls Try.prog 62 #[.agg #[.int .i64 n, .bool sg, .int .i64 lo, .int .i64 hi], .int .i64 x] w fun e w' => e = .returned (.bool (inS n sg x)) ∧ Below w.heap.size w w' := by
  have hA : anyV n sg = .agg #[.int .i64 n, .bool sg, .int .i64 (loS n sg), .int .i64 (hiS n sg)] := by unfold anyV; rw [if_pos (szB_iff.2 ⟨h1, h2⟩)]
  have kA := hid (fun v : World => hA ▸ rany_any n sg v)
  clear hA
  unfold inS
  generalize loS n sg = L at *
  generalize hiS n sg = H at *
  go_enter Try.func62, Try.ntmps62
  go_upto_region 0 with (fail)
  apply wp_region_seg0 (w := w) (S := [.al 1000, .q []]) (E := [.al ((fun p => .pointer (some ⟨p, 0, none⟩)), _) 1000, .q0 _]) rfl (by kernel_rfl) rfl rfl
  intro th hge hne
  refine Seg.step _ rfl ⟨by rfl, fun U hU => ?_⟩ ?_
  · go_simp; exact vp_alloc rfl rfl rfl
  refine ⟨_, by (simp only [Ent.val]; go_simp <;> exact rfl), ?_⟩
  refine Seg.step _ rfl (Or.inl ⟨by rfl, fun U hU => vp_quiet (by (go_simp <;> exact rfl))⟩) ⟨_, by (simp only [Ent.val]; go_simp <;> exact rfl), ?_⟩
  refine Seg.stop (fun U1 hU hk => ?_)
  have nb0 := hge 0 _ _ rfl
  have rb0 := (hk 0 _ _ rfl trivial).1.2 (by simp)
  clear hk hge hne
  generalize th (0 + 0) = p0_0 at *
  dsimp only at rb0
  have r_p0_0 := rb0
  clear rb0
  have n_p0_0 := nb0
  clear nb0
  have sz1 := hU.size
  have hB : Below w.heap.size w U1 := hU
  clear hU
  go_upto_region 1 with (fail)
  apply wp_region_seg0 (w := U1) (S := [.q [], .q [], .q [], .q [], .q [], .al 6, .st 5 []]) (E := [.q0 _, .q0 _, .q0 _, .q0 _, .c0 _, .al ((fun p => .pointer (some ⟨p, 0, none⟩)), _) 6, .s0 5 (.cells _ _)]) rfl (by kernel_rfl) rfl rfl
  intro th hge hne
  refine Seg.step _ rfl (Or.inl ⟨by rfl, fun U hU => vp_quiet (by (go_simp <;> exact rfl))⟩) ⟨_, by (simp only [Ent.val]; go_simp <;> exact rfl), ?_⟩
  refine Seg.step _ rfl (Or.inl ⟨by rfl, fun U hU => vp_quiet (by (have h0 := held_cell (held_after hU.1 r_p0_0) 0 _ rfl; go_simp <;> exact rfl))⟩) ⟨_, by (simp only [Ent.val]; go_simp <;> exact rfl), ?_⟩
  refine Seg.step _ rfl (Or.inl ⟨by rfl, fun U hU => vp_quiet (by (go_simp <;> exact rfl))⟩) ⟨_, by (simp only [Ent.val]; go_simp <;> exact rfl), ?_⟩
  refine Seg.step _ rfl (Or.inl ⟨by rfl, fun U hU => vp_quiet (by (have h0 := held_cell (held_after hU.1 r_p0_0) 1 _ rfl; go_simp <;> exact rfl))⟩) ⟨_, by (simp only [Ent.val]; go_simp <;> exact rfl), ?_⟩
  refine Seg.step _ rfl (Or.inl ⟨by rfl, fun U hU => ?_⟩) ?_
  · go_simp
    refine vp_call (kA.out _)
  refine ⟨_, by (simp only [Ent.val]; go_simp <;> exact rfl), ?_⟩
  refine Seg.step _ rfl ⟨by rfl, fun U hU => ?_⟩ ?_
  · go_simp; exact vp_alloc rfl rfl rfl
  refine ⟨_, by (simp only [Ent.val]; go_simp <;> exact rfl), ?_⟩
  refine Seg.step _ rfl ⟨by rfl, fun U z k hz hU hc => ?_⟩ ?_
  · have hz2 := Option.some.inj hz
    cases hz2; clear hz
    exact vp_store_agg _ _ _ rfl hc rfl rfl (by kernel_rfl) rfl (by rfl)
  refine ⟨_, by (simp only [Ent.val]; go_simp <;> exact rfl), ?_⟩
  refine Seg.stop (fun U2 hU hk => ?_)
  have nb5 := hge 5 _ _ rfl
  have rb5 := (hk 5 _ 6 rfl trivial).1.1 trivial _ (Nat.zero_le _) rfl
  clear hk hge hne
  generalize th (0 + 5) = p1_5 at *
  simp only [Ent.obj] at rb5
  replace r_p0_0 := held_after hU r_p0_0
  have r_p1_5 := rb5
  clear rb5
  have n_p1_5 := nb5
  clear nb5
  have sz2 := hU.size
  replace hB := bthen hB hU
  clear hU
  go_upto_region 2 with (fail)
  have q0 := held_cell r_p1_5 0 _ rfl
  have q1 := held_cell r_p1_5 1 _ rfl
  have q2 := held_cell r_p1_5 2 _ rfl
  have q3 := held_cell r_p1_5 3 _ rfl
  by_cases d1 : L ≤ x
  · by_cases d2 : x ≤ H
    · go_wp2_with fail
      all_goals go_ret
      all_goals exact ⟨ret_bool (by first | (simp [d1, d2]; done) | (simp; omega)), hB⟩
    · go_wp2_with fail
      all_goals go_ret
      all_goals exact ⟨ret_bool (by first | (simp [d1, d2]; done) | (simp; omega)), hB⟩
  · go_wp2_with fail
    all_goals go_ret
    all_goals exact ⟨ret_bool (by first | (simp [d1]; done) | (simp; omega)), hB⟩

end Go.Proofs.Ytfihdgichmocmaa

/- The papers' Right, Width. -/
namespace Go.Proofs.Ytfihdgichmocmaa
open Go.ChangeShapes Go.WideShapes Go.ChangeAt Go.RowKit
set_option linter.unusedVariables false
set_option linter.unusedSimpArgs false

theorem right_two {n : Int} {sg : Bool} {lo hi : Int} (h1 : 1 ≤ n) (h8 : n ≤ 8) (hh : lo ≤ hi) : rightS n sg lo hi = (inS n sg lo && inS n sg hi) := by
  have hs : szB n = true := szB_iff.2 ⟨h1, h8⟩
  unfold rightS inS
  rw [hs]
  by_cases a : loS n sg ≤ lo <;> by_cases b : hi ≤ hiS n sg <;> by_cases c : lo ≤ hiS n sg <;> by_cases d : loS n sg ≤ hi <;> simp [a, b, c, d, hh] <;> omega
theorem right_no1 {n : Int} {sg : Bool} {lo hi : Int} (h : ¬ (1 ≤ n ∧ n ≤ 8)) : rightS n sg lo hi = false := by
  have : szB n = false := by
    cases hc : szB n
    · rfl
    · exact absurd (szB_iff.1 hc) h
  unfold rightS; rw [this]; rfl
theorem right_no2 {n : Int} {sg : Bool} {lo hi : Int} (h : hi < lo) : rightS n sg lo hi = false := by
  unfold rightS
  rw [decide_eq_false (show ¬ lo ≤ hi by omega)]; simp
set_option maxRecDepth 100000 in
set_option maxHeartbeats 4000000 in
theorem rrightl_any (a : Option Addr) (len cap : Nat) (f0 : Nat → Int) (f1 : Nat → Bool) (f2 f3 : Nat → Int) (w : World) (hF : Flds w a len cap f0 f1 f2 f3) : Calls Try.prog 42 #[.slice a len cap] w fun e w' => e = .returned (.bool (allR f0 f1 f2 f3 len)) ∧ Below w.heap.size w w' := by
  obtain ⟨R, hR⟩ : ∃ R, allR f0 f1 f2 f3 len = R := ⟨_, rfl⟩
  rw [hR]
  replace hR := hid hR
  have hlen : len ≤ maxLen := Nat.le_trans hF.1 hF.2.1
  have hm : maxLen ≤ 9223372036854775807 := by decide
  replace hF := hid hF
  go_enter Try.func42, Try.ntmps42
  go_wp2_with fail
  go_loopw [3] (fun i wr => ∃ k : Nat, k ≤ len ∧ i = .int .i64 k ∧ Go.RowKit.Hid (allR f0 f1 f2 f3 k = true) ∧ Below w.heap.size w wr) (fun i _ => len - (intOf i).toNat)
  case atStart => exact ⟨0, by omega, rfl, hid rfl, Below.refl _ _⟩
  case round =>
    obtain ⟨k, hk, rfl, hd, hB⟩ := hrel
    by_cases hlt : (k : Int) < len
    case neg =>
      obtain rfl : k = len := by omega
      obtain rfl : R = true := by rw [← hR.out, hd.out]
      go_wp2_with fail
      go_ret
      exact ⟨rfl, hB⟩
    have hlt2 : k < len := by omega
    obtain ⟨b, off, rfl, l0, l1, l2, l3⟩ := (hF.out.below hB).2.2.2 k hlt2
    have kz : (0 : Int) ≤ k := by omega
    have hB1 := hid (balloc hB (Nat.le_refl _) (.cells #[.int .i64 (f0 k), .bool (f1 k), .int .i64 (f2 k), .int .i64 (f3 k)] 35))
    by_cases c1 : f0 k < 1
    · obtain rfl : R = false := by rw [← hR.out]; exact allR_no (right_no1 (by omega)) len hlt2
      generalize f0 k = x0 at *
      generalize f1 k = x1 at *
      generalize f2 k = x2 at *
      generalize f3 k = x3 at *
      replace hB := hid hB
      go_wp2_with fail
      go_ret
      exact ⟨rfl, hB1.out⟩
    by_cases c2 : 8 < f0 k
    · obtain rfl : R = false := by rw [← hR.out]; exact allR_no (right_no1 (by omega)) len hlt2
      generalize f0 k = x0 at *
      generalize f1 k = x1 at *
      generalize f2 k = x2 at *
      generalize f3 k = x3 at *
      replace hB := hid hB
      go_wp2_with fail
      go_ret
      exact ⟨rfl, hB1.out⟩
    by_cases c3 : f3 k < f2 k
    · obtain rfl : R = false := by rw [← hR.out]; exact allR_no (right_no2 c3) len hlt2
      generalize f0 k = x0 at *
      generalize f1 k = x1 at *
      generalize f2 k = x2 at *
      generalize f3 k = x3 at *
      replace hB := hid hB
      go_wp2_with fail
      go_ret
      exact ⟨rfl, hB1.out⟩
    have h1 : 1 ≤ f0 k := by omega
    have h8 : f0 k ≤ 8 := by omega
    have hrt := right_two (sg := f1 k) h1 h8 (show f2 k ≤ f3 k by omega)
    have kr1 := hid (fun v : World => rroom_any (f0 k) (f1 k) (f2 k) (f3 k) (f2 k) v h1 h8)
    have kr2 := hid (fun v : World => rroom_any (f0 k) (f1 k) (f2 k) (f3 k) (f3 k) v h1 h8)
    cases hr1 : inS (f0 k) (f1 k) (f2 k)
    · rw [hr1] at kr1 hrt
      obtain rfl : R = false := by rw [← hR.out]; exact allR_no (hrt.trans rfl) len hlt2
      clear hr1 hrt
      generalize f0 k = x0 at *
      generalize f1 k = x1 at *
      generalize f2 k = x2 at *
      generalize f3 k = x3 at *
      replace hB := hid hB
      go_wp2_with fail
      refine (kr1.out _).mono ?_
      rintro e V2 ⟨rfl, hst⟩
      have hB2 := hid (bthen hB1.out hst)
      have z := held_after hst (alloc_new wr (.cells #[.int .i64 x0, .bool x1, .int .i64 x2, .int .i64 x3] 35)).2.2
      have z0 := held_cell z 0 _ rfl
      have z1 := held_cell z 1 _ rfl
      have z2 := held_cell z 2 _ rfl
      have z3 := held_cell z 3 _ rfl
      clear z
      clear hst
      go_wp2_with fail
      go_ret
      exact ⟨rfl, hB2.out⟩
    · rw [hr1] at kr1 hrt
      clear hr1
      cases hr2 : inS (f0 k) (f1 k) (f3 k)
      · rw [hr2] at kr2 hrt
        obtain rfl : R = false := by rw [← hR.out]; exact allR_no (hrt.trans rfl) len hlt2
        clear hr2 hrt
        generalize f0 k = x0 at *
        generalize f1 k = x1 at *
        generalize f2 k = x2 at *
        generalize f3 k = x3 at *
        replace hB := hid hB
        go_wp2_with fail
        refine (kr1.out _).mono ?_
        rintro e V2 ⟨rfl, hst⟩
        have hB2 := hid (bthen hB1.out hst)
        have z := held_after hst (alloc_new wr (.cells #[.int .i64 x0, .bool x1, .int .i64 x2, .int .i64 x3] 35)).2.2
        have z0 := held_cell z 0 _ rfl
        have z1 := held_cell z 1 _ rfl
        have z2 := held_cell z 2 _ rfl
        have z3 := held_cell z 3 _ rfl
        clear z
        clear hst
        go_wp2_with fail
        refine (kr2.out _).mono ?_
        rintro e V3 ⟨rfl, hst⟩
        have hB3 := hid (bthen hB2.out hst)
        clear hst
        go_wp2_with fail
        go_ret
        exact ⟨rfl, hB3.out⟩
      · rw [hr2] at kr2 hrt
        have hd2 : Go.RowKit.Hid (allR f0 f1 f2 f3 (k + 1) = true) := hid (by show (allR f0 f1 f2 f3 k && _) = true; rw [hd.out, hrt]; rfl)
        clear hr2 hrt
        generalize f0 k = x0 at *
        generalize f1 k = x1 at *
        generalize f2 k = x2 at *
        generalize f3 k = x3 at *
        replace hB := hid hB
        go_wp2_with fail
        refine (kr1.out _).mono ?_
        rintro e V2 ⟨rfl, hst⟩
        have hB2 := hid (bthen hB1.out hst)
        have z := held_after hst (alloc_new wr (.cells #[.int .i64 x0, .bool x1, .int .i64 x2, .int .i64 x3] 35)).2.2
        have z0 := held_cell z 0 _ rfl
        have z1 := held_cell z 1 _ rfl
        have z2 := held_cell z 2 _ rfl
        have z3 := held_cell z 3 _ rfl
        clear z
        clear hst
        go_wp2_with fail
        refine (kr2.out _).mono ?_
        rintro e V3 ⟨rfl, hst⟩
        have hB3 := hid (bthen hB2.out hst)
        clear hst
        go_wp2_with fail
        go_roundw
        case rel => exact ⟨k + 1, by omega, by simp, hd2, hB3.out⟩
        case measure => simp [intOf]; omega
set_option maxRecDepth 100000 in
set_option maxHeartbeats 4000000 in
theorem rwidth_any (a : Option Addr) (len cap : Nat) (f0 : Nat → Int) (f1 : Nat → Bool) (f2 f3 : Nat → Int) (w : World) (hF : Flds w a len cap f0 f1 f2 f3) (h200 : len ≤ 1000) : Calls Try.prog 49 #[.slice a len cap] w fun e w' => e = .returned (.int .i64 (widthS f0 f1 f2 f3 len)) ∧ Below w.heap.size w w' := by
  have kr := fun v : World => fun h : Flds v a len cap f0 f1 f2 f3 => rrightl_any a len cap f0 f1 f2 f3 v h
  cases hal : allR f0 f1 f2 f3 len
  · have hV : widthS f0 f1 f2 f3 len = 0 := by unfold widthS; rw [hal]; rfl
    rw [hV]
    rw [hal] at kr
    clear hV hal
    replace kr := hid kr
    replace hF := hid hF
    go_enter Try.func49, Try.ntmps49
    go_wp2_with fail
    refine (kr.out _ hF.out).mono ?_
    rintro e V ⟨rfl, hst⟩
    go_wp2_with fail
    go_ret
    exact ⟨rfl, hst⟩
  have hV : widthS f0 f1 f2 f3 len = sumW f0 len := by unfold widthS; rw [if_pos hal]
  rw [hV]
  rw [hal] at kr
  clear hV
  replace hal := hid hal
  replace kr := hid kr
  replace hF := hid hF
  go_enter Try.func49, Try.ntmps49
  go_wp2_with fail
  refine (kr.out _ hF.out).mono ?_
  rintro e V ⟨rfl, hst⟩
  replace hst := hid hst
  go_wp2_with fail
  go_loopw [3, 4] (fun s i wr => ∃ k : Nat, k ≤ len ∧ i = .int .i64 k ∧ s = .int .i64 (sumW f0 k) ∧ Below w.heap.size w wr) (fun _ i _ => len - (intOf i).toNat)
  case atStart => exact ⟨0, by omega, rfl, rfl, hst.out⟩
  case round =>
    obtain ⟨k, hk, rfl, rfl, hB⟩ := hrel
    by_cases hlt : (k : Int) < len
    case neg =>
      obtain rfl : k = len := by omega
      obtain ⟨SW, hSW⟩ : ∃ X, sumW f0 k = X := ⟨_, rfl⟩
      rw [hSW]
      replace hSW := hid hSW
      go_wp2_with fail
      go_ret
      exact ⟨by rw [hSW.out]; rfl, hB⟩
    have hlt2 : k < len := by omega
    obtain ⟨b, off, rfl, l0, l1, l2, l3⟩ := (hF.out.below hB).2.2.2 k hlt2
    have kz : (0 : Int) ≤ k := by omega
    have sb := sumW_bd hal.out k hk
    have sz := right_sz (allR_at hal.out hlt2)
    have s1 := sz.1
    have s2 := sz.2.1
    clear sz
    have hn : Go.RowKit.Hid (sumW f0 (k + 1) = sumW f0 k + f0 k) := hid rfl
    generalize hg : sumW f0 k = SW at *
    replace hg := hid hg
    generalize f0 k = x0 at *
    generalize f1 k = x1 at *
    generalize f2 k = x2 at *
    generalize f3 k = x3 at *
    have fs : IntKind.i64.wrap (SW + x0) = SW + x0 := by rw [IntKind.wrap_i64]; omega
    replace hB := hid hB
    go_wp2_with fail
    go_roundw
    case rel => exact ⟨k + 1, by omega, by simp, by rw [hn.out], hB.out⟩
    case measure => simp [intOf]; omega

end Go.Proofs.Ytfihdgichmocmaa
