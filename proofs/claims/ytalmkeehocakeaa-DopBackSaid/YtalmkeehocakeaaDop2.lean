/- Package dop: Sound. -/
import Derived.Test.YtalmkeehocakeaaDop
import Derived.Laws.EntriesVeiled
import Derived.Deep.DeepCutAuto
namespace Go.Proofs.Ytalmkeehocakeaa
open Go.ChangeShapes Go.WideShapes Go.ChangeAt Go.RowKit
set_option linter.unusedVariables false
set_option linter.unusedSimpArgs false

def nrB (n t : Int) : Bool := decide (t - 2 ≤ n) && decide (n ≤ t + 2)
def soundS (d1 d2 d3 d4 d5 d6 d7 : Int) : Bool := nrB d2 (togS d4 d5) && nrB d1 (togS d2 d3) && nrB d5 (togS d6 d7)
theorem get1_any (d0 d1 d2 d3 d4 d5 d6 d7 : Int) (w : World) : Calls Try.prog 22 #[.agg #[.int .i64 d0, .int .i64 d1, .int .i64 d2, .int .i64 d3, .int .i64 d4, .int .i64 d5, .int .i64 d6, .int .i64 d7]] w fun e w' => e = .returned (.int .i64 d1) ∧ After w w' := by
  go_enter Try.func22, Try.ntmps22
  go_wp2_with fail
  go_ret
  exact ⟨rfl, (Below.refl _ _).alloc (Nat.le_refl _) _⟩
theorem get2_any (d0 d1 d2 d3 d4 d5 d6 d7 : Int) (w : World) : Calls Try.prog 23 #[.agg #[.int .i64 d0, .int .i64 d1, .int .i64 d2, .int .i64 d3, .int .i64 d4, .int .i64 d5, .int .i64 d6, .int .i64 d7]] w fun e w' => e = .returned (.int .i64 d2) ∧ After w w' := by
  go_enter Try.func23, Try.ntmps23
  go_wp2_with fail
  go_ret
  exact ⟨rfl, (Below.refl _ _).alloc (Nat.le_refl _) _⟩
theorem get3_any (d0 d1 d2 d3 d4 d5 d6 d7 : Int) (w : World) : Calls Try.prog 24 #[.agg #[.int .i64 d0, .int .i64 d1, .int .i64 d2, .int .i64 d3, .int .i64 d4, .int .i64 d5, .int .i64 d6, .int .i64 d7]] w fun e w' => e = .returned (.int .i64 d3) ∧ After w w' := by
  go_enter Try.func24, Try.ntmps24
  go_wp2_with fail
  go_ret
  exact ⟨rfl, (Below.refl _ _).alloc (Nat.le_refl _) _⟩
theorem get4_any (d0 d1 d2 d3 d4 d5 d6 d7 : Int) (w : World) : Calls Try.prog 25 #[.agg #[.int .i64 d0, .int .i64 d1, .int .i64 d2, .int .i64 d3, .int .i64 d4, .int .i64 d5, .int .i64 d6, .int .i64 d7]] w fun e w' => e = .returned (.int .i64 d4) ∧ After w w' := by
  go_enter Try.func25, Try.ntmps25
  go_wp2_with fail
  go_ret
  exact ⟨rfl, (Below.refl _ _).alloc (Nat.le_refl _) _⟩
theorem get5_any (d0 d1 d2 d3 d4 d5 d6 d7 : Int) (w : World) : Calls Try.prog 26 #[.agg #[.int .i64 d0, .int .i64 d1, .int .i64 d2, .int .i64 d3, .int .i64 d4, .int .i64 d5, .int .i64 d6, .int .i64 d7]] w fun e w' => e = .returned (.int .i64 d5) ∧ After w w' := by
  go_enter Try.func26, Try.ntmps26
  go_wp2_with fail
  go_ret
  exact ⟨rfl, (Below.refl _ _).alloc (Nat.le_refl _) _⟩
theorem get6_any (d0 d1 d2 d3 d4 d5 d6 d7 : Int) (w : World) : Calls Try.prog 27 #[.agg #[.int .i64 d0, .int .i64 d1, .int .i64 d2, .int .i64 d3, .int .i64 d4, .int .i64 d5, .int .i64 d6, .int .i64 d7]] w fun e w' => e = .returned (.int .i64 d6) ∧ After w w' := by
  go_enter Try.func27, Try.ntmps27
  go_wp2_with fail
  go_ret
  exact ⟨rfl, (Below.refl _ _).alloc (Nat.le_refl _) _⟩
theorem get7_any (d0 d1 d2 d3 d4 d5 d6 d7 : Int) (w : World) : Calls Try.prog 28 #[.agg #[.int .i64 d0, .int .i64 d1, .int .i64 d2, .int .i64 d3, .int .i64 d4, .int .i64 d5, .int .i64 d6, .int .i64 d7]] w fun e w' => e = .returned (.int .i64 d7) ∧ After w w' := by
  go_enter Try.func28, Try.ntmps28
  go_wp2_with fail
  go_ret
  exact ⟨rfl, (Below.refl _ _).alloc (Nat.le_refl _) _⟩
set_option maxRecDepth 100000 in
set_option maxHeartbeats 2000000 in
theorem holds0_any (d0 d1 d2 d3 d4 d5 d6 d7 : Int) (w : World) (hy : -9223372036854775808 ≤ d4) (hz : -9223372036854775808 ≤ d5) : Calls Try.prog 29 #[.agg #[.func (.func 23) #[] #[], .func (.func 25) #[] #[], .func (.func 26) #[] #[]], .agg #[.int .i64 d0, .int .i64 d1, .int .i64 d2, .int .i64 d3, .int .i64 d4, .int .i64 d5, .int .i64 d6, .int .i64 d7]] w fun e w' => e = .returned (.bool (nrB d2 (togS d4 d5))) ∧ After w w' := by
  have hT := togS_bd d4 d5
  have kg := hid (fun W => tog_any d4 d5 W hy hz)
  generalize togS d4 d5 = tt at *
  clear hy hz
  have kw := hid (fun W => get2_any d0 d1 d2 d3 d4 d5 d6 d7 W)
  have ko := hid (fun W => get4_any d0 d1 d2 d3 d4 d5 d6 d7 W)
  have kt := hid (fun W => get5_any d0 d1 d2 d3 d4 d5 d6 d7 W)
  rw [show nrB d2 tt = (decide (tt - 2 ≤ d2) && decide (d2 ≤ tt + 2)) from rfl]
  go_enter Try.func29, Try.ntmps29
  go_upto_region 0 with (fail)
  apply wp_region_seg0 (w := w) (S := [.al 1000, .al 1000, .q []]) (E := [.al ((fun p => .pointer (some ⟨p, 0, none⟩)), _) 1000, .al ((fun p => .pointer (some ⟨p, 0, none⟩)), _) 1000, .q0 _]) rfl (by kernel_rfl) rfl rfl
  intro th hge hne
  refine Seg.step _ rfl ⟨by rfl, fun U hU => ?_⟩ ?_
  · go_simp; exact vp_alloc rfl rfl rfl
  refine ⟨_, by (simp only [Ent.val]; go_simp <;> exact rfl), ?_⟩
  refine Seg.step _ rfl ⟨by rfl, fun U hU => ?_⟩ ?_
  · go_simp; exact vp_alloc rfl rfl rfl
  refine ⟨_, by (simp only [Ent.val]; go_simp <;> exact rfl), ?_⟩
  refine Seg.step _ rfl (Or.inl ⟨by rfl, fun U hU => vp_quiet (by (go_simp <;> exact rfl))⟩) ⟨_, by (simp only [Ent.val]; go_simp <;> exact rfl), ?_⟩
  refine Seg.stop (fun U1 hU hk => ?_)
  have nb0 := hge 0 _ _ rfl
  have rb0 := (hk 0 _ _ rfl trivial).1.2 (by simp)
  have nb1 := hge 1 _ _ rfl
  have rb1 := (hk 1 _ _ rfl trivial).1.2 (by simp)
  have ne0_1 := hne 0 1 _ _ _ _ rfl rfl (by omega)
  clear hk hge hne
  generalize th (0 + 0) = p0_0 at *
  dsimp only at rb0
  generalize th (0 + 1) = p0_1 at *
  dsimp only at rb1
  have r_p0_0 := rb0
  clear rb0
  have n_p0_0 := nb0
  clear nb0
  have d_p0_0_p0_1 := ne0_1
  clear ne0_1
  have r_p0_1 := rb1
  clear rb1
  have n_p0_1 := nb1
  clear nb1
  have sz1 := hU.size
  have hB : Below w.heap.size w U1 := hU
  clear hU
  go_upto_region 1 with (fail)
  apply wp_region_seg (w := U1) (S := [.q [], .q [], .q [], .q [], .q [], .q [], .q [], .q [], .q [], .q [], .q [], .q [], .q [], .q [], .q []]) (E := [.q0 _, .q0 _, .q0 _, .c0 _, .q0 _, .q0 _, .q0 _, .c0 _, .c0 _, .q0 _, .q0 _, .q0 _, .c0 _, .q0 _, .q0 _]) (by kernel_rfl) rfl (by kernel_rfl) rfl rfl
  intro th hge hne
  refine Seg.step _ rfl (Or.inl ⟨by rfl, fun U hU => vp_quiet (by (go_simp <;> exact rfl))⟩) ⟨_, by (simp only [Ent.val]; go_simp <;> exact rfl), ?_⟩
  refine Seg.step _ rfl (Or.inl ⟨by rfl, fun U hU => vp_quiet (by (have h0 := held_cell (held_after hU.1 r_p0_0) 1 _ rfl; go_simp <;> exact rfl))⟩) ⟨_, by (simp only [Ent.val]; go_simp <;> exact rfl), ?_⟩
  refine Seg.step _ rfl (Or.inl ⟨by rfl, fun U hU => vp_quiet (by (have h0 := held_cell (held_after hU.1 r_p0_1) 0 _ rfl; have h1 := held_cell (held_after hU.1 r_p0_1) 1 _ rfl; have h2 := held_cell (held_after hU.1 r_p0_1) 2 _ rfl; have h3 := held_cell (held_after hU.1 r_p0_1) 3 _ rfl; have h4 := held_cell (held_after hU.1 r_p0_1) 4 _ rfl; have h5 := held_cell (held_after hU.1 r_p0_1) 5 _ rfl; have h6 := held_cell (held_after hU.1 r_p0_1) 6 _ rfl; have h7 := held_cell (held_after hU.1 r_p0_1) 7 _ rfl; go_simp <;> exact rfl))⟩) ⟨_, by (simp only [Ent.val]; go_simp <;> exact rfl), ?_⟩
  refine Seg.step _ rfl (Or.inl ⟨by rfl, fun U hU => ?_⟩) ?_
  · go_simp
    refine vp_call (ko.out _)
  refine ⟨_, by (simp only [Ent.val]; go_simp <;> exact rfl), ?_⟩
  refine Seg.step _ rfl (Or.inl ⟨by rfl, fun U hU => vp_quiet (by (go_simp <;> exact rfl))⟩) ⟨_, by (simp only [Ent.val]; go_simp <;> exact rfl), ?_⟩
  refine Seg.step _ rfl (Or.inl ⟨by rfl, fun U hU => vp_quiet (by (have h0 := held_cell (held_after hU.1 r_p0_0) 2 _ rfl; go_simp <;> exact rfl))⟩) ⟨_, by (simp only [Ent.val]; go_simp <;> exact rfl), ?_⟩
  refine Seg.step _ rfl (Or.inl ⟨by rfl, fun U hU => vp_quiet (by (have h0 := held_cell (held_after hU.1 r_p0_1) 0 _ rfl; have h1 := held_cell (held_after hU.1 r_p0_1) 1 _ rfl; have h2 := held_cell (held_after hU.1 r_p0_1) 2 _ rfl; have h3 := held_cell (held_after hU.1 r_p0_1) 3 _ rfl; have h4 := held_cell (held_after hU.1 r_p0_1) 4 _ rfl; have h5 := held_cell (held_after hU.1 r_p0_1) 5 _ rfl; have h6 := held_cell (held_after hU.1 r_p0_1) 6 _ rfl; have h7 := held_cell (held_after hU.1 r_p0_1) 7 _ rfl; go_simp <;> exact rfl))⟩) ⟨_, by (simp only [Ent.val]; go_simp <;> exact rfl), ?_⟩
  refine Seg.step _ rfl (Or.inl ⟨by rfl, fun U hU => ?_⟩) ?_
  · go_simp
    refine vp_call (kt.out _)
  refine ⟨_, by (simp only [Ent.val]; go_simp <;> exact rfl), ?_⟩
  refine Seg.step _ rfl (Or.inl ⟨by rfl, fun U hU => ?_⟩) ?_
  · go_simp
    refine vp_calls (kg.out _)
  refine ⟨_, by (simp only [Ent.val]; go_simp <;> exact rfl), ?_⟩
  refine Seg.step _ rfl (Or.inl ⟨by rfl, fun U hU => vp_quiet (by (go_simp <;> exact rfl))⟩) ⟨_, by (simp only [Ent.val]; go_simp <;> exact rfl), ?_⟩
  refine Seg.step _ rfl (Or.inl ⟨by rfl, fun U hU => vp_quiet (by (have h0 := held_cell (held_after hU.1 r_p0_0) 0 _ rfl; go_simp <;> exact rfl))⟩) ⟨_, by (simp only [Ent.val]; go_simp <;> exact rfl), ?_⟩
  refine Seg.step _ rfl (Or.inl ⟨by rfl, fun U hU => vp_quiet (by (have h0 := held_cell (held_after hU.1 r_p0_1) 0 _ rfl; have h1 := held_cell (held_after hU.1 r_p0_1) 1 _ rfl; have h2 := held_cell (held_after hU.1 r_p0_1) 2 _ rfl; have h3 := held_cell (held_after hU.1 r_p0_1) 3 _ rfl; have h4 := held_cell (held_after hU.1 r_p0_1) 4 _ rfl; have h5 := held_cell (held_after hU.1 r_p0_1) 5 _ rfl; have h6 := held_cell (held_after hU.1 r_p0_1) 6 _ rfl; have h7 := held_cell (held_after hU.1 r_p0_1) 7 _ rfl; go_simp <;> exact rfl))⟩) ⟨_, by (simp only [Ent.val]; go_simp <;> exact rfl), ?_⟩
  refine Seg.step _ rfl (Or.inl ⟨by rfl, fun U hU => ?_⟩) ?_
  · go_simp
    refine vp_call (kw.out _)
  refine ⟨_, by (simp only [Ent.val]; go_simp <;> exact rfl), ?_⟩
  refine Seg.step _ rfl (Or.inl ⟨by rfl, fun U hU => vp_quiet (by (go_simp <;> exact rfl))⟩) ⟨_, by (simp only [Ent.val]; go_simp <;> exact rfl), ?_⟩
  refine Seg.step _ rfl (Or.inl ⟨by rfl, fun U hU => vp_quiet (by (go_simp <;> exact rfl))⟩) ⟨_, by (simp only [Ent.val]; go_simp <;> exact rfl), ?_⟩
  refine Seg.stop (fun U2 hU hk => ?_)
  clear hk hge hne
  replace r_p0_0 := held_after hU r_p0_0
  replace r_p0_1 := held_after hU r_p0_1
  have sz2 := hU.size
  replace hB := bthen hB hU
  clear hU
  have w1 : IntKind.i64.wrap (tt - 2) = tt - 2 := by rw [IntKind.wrap_i64]; omega
  have w2 : IntKind.i64.wrap (tt + 2) = tt + 2 := by rw [IntKind.wrap_i64]; omega
  by_cases c1 : tt - 2 ≤ d2
  · by_cases c2 : d2 ≤ tt + 2
    · go_wp2_with fail
      all_goals go_ret
      all_goals exact ⟨ret_bool (by first | (simp [c1, c2]; done) | (simp; omega)), hB⟩
    · go_wp2_with fail
      all_goals go_ret
      all_goals exact ⟨ret_bool (by first | (simp [c1, c2]; done) | (simp; omega)), hB⟩
  · go_wp2_with fail
    all_goals go_ret
    all_goals exact ⟨ret_bool (by first | (simp [c1]; done) | (simp; omega)), hB⟩
set_option maxRecDepth 100000 in
set_option maxHeartbeats 2000000 in
theorem holds1_any (d0 d1 d2 d3 d4 d5 d6 d7 : Int) (w : World) (hy : -9223372036854775808 ≤ d2) (hz : -9223372036854775808 ≤ d3) : Calls Try.prog 29 #[.agg #[.func (.func 22) #[] #[], .func (.func 23) #[] #[], .func (.func 24) #[] #[]], .agg #[.int .i64 d0, .int .i64 d1, .int .i64 d2, .int .i64 d3, .int .i64 d4, .int .i64 d5, .int .i64 d6, .int .i64 d7]] w fun e w' => e = .returned (.bool (nrB d1 (togS d2 d3))) ∧ After w w' := by
  have hT := togS_bd d2 d3
  have kg := hid (fun W => tog_any d2 d3 W hy hz)
  generalize togS d2 d3 = tt at *
  clear hy hz
  have kw := hid (fun W => get1_any d0 d1 d2 d3 d4 d5 d6 d7 W)
  have ko := hid (fun W => get2_any d0 d1 d2 d3 d4 d5 d6 d7 W)
  have kt := hid (fun W => get3_any d0 d1 d2 d3 d4 d5 d6 d7 W)
  rw [show nrB d1 tt = (decide (tt - 2 ≤ d1) && decide (d1 ≤ tt + 2)) from rfl]
  go_enter Try.func29, Try.ntmps29
  go_upto_region 0 with (fail)
  apply wp_region_seg0 (w := w) (S := [.al 1000, .al 1000, .q []]) (E := [.al ((fun p => .pointer (some ⟨p, 0, none⟩)), _) 1000, .al ((fun p => .pointer (some ⟨p, 0, none⟩)), _) 1000, .q0 _]) rfl (by kernel_rfl) rfl rfl
  intro th hge hne
  refine Seg.step _ rfl ⟨by rfl, fun U hU => ?_⟩ ?_
  · go_simp; exact vp_alloc rfl rfl rfl
  refine ⟨_, by (simp only [Ent.val]; go_simp <;> exact rfl), ?_⟩
  refine Seg.step _ rfl ⟨by rfl, fun U hU => ?_⟩ ?_
  · go_simp; exact vp_alloc rfl rfl rfl
  refine ⟨_, by (simp only [Ent.val]; go_simp <;> exact rfl), ?_⟩
  refine Seg.step _ rfl (Or.inl ⟨by rfl, fun U hU => vp_quiet (by (go_simp <;> exact rfl))⟩) ⟨_, by (simp only [Ent.val]; go_simp <;> exact rfl), ?_⟩
  refine Seg.stop (fun U1 hU hk => ?_)
  have nb0 := hge 0 _ _ rfl
  have rb0 := (hk 0 _ _ rfl trivial).1.2 (by simp)
  have nb1 := hge 1 _ _ rfl
  have rb1 := (hk 1 _ _ rfl trivial).1.2 (by simp)
  have ne0_1 := hne 0 1 _ _ _ _ rfl rfl (by omega)
  clear hk hge hne
  generalize th (0 + 0) = p0_0 at *
  dsimp only at rb0
  generalize th (0 + 1) = p0_1 at *
  dsimp only at rb1
  have r_p0_0 := rb0
  clear rb0
  have n_p0_0 := nb0
  clear nb0
  have d_p0_0_p0_1 := ne0_1
  clear ne0_1
  have r_p0_1 := rb1
  clear rb1
  have n_p0_1 := nb1
  clear nb1
  have sz1 := hU.size
  have hB : Below w.heap.size w U1 := hU
  clear hU
  go_upto_region 1 with (fail)
  apply wp_region_seg (w := U1) (S := [.q [], .q [], .q [], .q [], .q [], .q [], .q [], .q [], .q [], .q [], .q [], .q [], .q [], .q [], .q []]) (E := [.q0 _, .q0 _, .q0 _, .c0 _, .q0 _, .q0 _, .q0 _, .c0 _, .c0 _, .q0 _, .q0 _, .q0 _, .c0 _, .q0 _, .q0 _]) (by kernel_rfl) rfl (by kernel_rfl) rfl rfl
  intro th hge hne
  refine Seg.step _ rfl (Or.inl ⟨by rfl, fun U hU => vp_quiet (by (go_simp <;> exact rfl))⟩) ⟨_, by (simp only [Ent.val]; go_simp <;> exact rfl), ?_⟩
  refine Seg.step _ rfl (Or.inl ⟨by rfl, fun U hU => vp_quiet (by (have h0 := held_cell (held_after hU.1 r_p0_0) 1 _ rfl; go_simp <;> exact rfl))⟩) ⟨_, by (simp only [Ent.val]; go_simp <;> exact rfl), ?_⟩
  refine Seg.step _ rfl (Or.inl ⟨by rfl, fun U hU => vp_quiet (by (have h0 := held_cell (held_after hU.1 r_p0_1) 0 _ rfl; have h1 := held_cell (held_after hU.1 r_p0_1) 1 _ rfl; have h2 := held_cell (held_after hU.1 r_p0_1) 2 _ rfl; have h3 := held_cell (held_after hU.1 r_p0_1) 3 _ rfl; have h4 := held_cell (held_after hU.1 r_p0_1) 4 _ rfl; have h5 := held_cell (held_after hU.1 r_p0_1) 5 _ rfl; have h6 := held_cell (held_after hU.1 r_p0_1) 6 _ rfl; have h7 := held_cell (held_after hU.1 r_p0_1) 7 _ rfl; go_simp <;> exact rfl))⟩) ⟨_, by (simp only [Ent.val]; go_simp <;> exact rfl), ?_⟩
  refine Seg.step _ rfl (Or.inl ⟨by rfl, fun U hU => ?_⟩) ?_
  · go_simp
    refine vp_call (ko.out _)
  refine ⟨_, by (simp only [Ent.val]; go_simp <;> exact rfl), ?_⟩
  refine Seg.step _ rfl (Or.inl ⟨by rfl, fun U hU => vp_quiet (by (go_simp <;> exact rfl))⟩) ⟨_, by (simp only [Ent.val]; go_simp <;> exact rfl), ?_⟩
  refine Seg.step _ rfl (Or.inl ⟨by rfl, fun U hU => vp_quiet (by (have h0 := held_cell (held_after hU.1 r_p0_0) 2 _ rfl; go_simp <;> exact rfl))⟩) ⟨_, by (simp only [Ent.val]; go_simp <;> exact rfl), ?_⟩
  refine Seg.step _ rfl (Or.inl ⟨by rfl, fun U hU => vp_quiet (by (have h0 := held_cell (held_after hU.1 r_p0_1) 0 _ rfl; have h1 := held_cell (held_after hU.1 r_p0_1) 1 _ rfl; have h2 := held_cell (held_after hU.1 r_p0_1) 2 _ rfl; have h3 := held_cell (held_after hU.1 r_p0_1) 3 _ rfl; have h4 := held_cell (held_after hU.1 r_p0_1) 4 _ rfl; have h5 := held_cell (held_after hU.1 r_p0_1) 5 _ rfl; have h6 := held_cell (held_after hU.1 r_p0_1) 6 _ rfl; have h7 := held_cell (held_after hU.1 r_p0_1) 7 _ rfl; go_simp <;> exact rfl))⟩) ⟨_, by (simp only [Ent.val]; go_simp <;> exact rfl), ?_⟩
  refine Seg.step _ rfl (Or.inl ⟨by rfl, fun U hU => ?_⟩) ?_
  · go_simp
    refine vp_call (kt.out _)
  refine ⟨_, by (simp only [Ent.val]; go_simp <;> exact rfl), ?_⟩
  refine Seg.step _ rfl (Or.inl ⟨by rfl, fun U hU => ?_⟩) ?_
  · go_simp
    refine vp_calls (kg.out _)
  refine ⟨_, by (simp only [Ent.val]; go_simp <;> exact rfl), ?_⟩
  refine Seg.step _ rfl (Or.inl ⟨by rfl, fun U hU => vp_quiet (by (go_simp <;> exact rfl))⟩) ⟨_, by (simp only [Ent.val]; go_simp <;> exact rfl), ?_⟩
  refine Seg.step _ rfl (Or.inl ⟨by rfl, fun U hU => vp_quiet (by (have h0 := held_cell (held_after hU.1 r_p0_0) 0 _ rfl; go_simp <;> exact rfl))⟩) ⟨_, by (simp only [Ent.val]; go_simp <;> exact rfl), ?_⟩
  refine Seg.step _ rfl (Or.inl ⟨by rfl, fun U hU => vp_quiet (by (have h0 := held_cell (held_after hU.1 r_p0_1) 0 _ rfl; have h1 := held_cell (held_after hU.1 r_p0_1) 1 _ rfl; have h2 := held_cell (held_after hU.1 r_p0_1) 2 _ rfl; have h3 := held_cell (held_after hU.1 r_p0_1) 3 _ rfl; have h4 := held_cell (held_after hU.1 r_p0_1) 4 _ rfl; have h5 := held_cell (held_after hU.1 r_p0_1) 5 _ rfl; have h6 := held_cell (held_after hU.1 r_p0_1) 6 _ rfl; have h7 := held_cell (held_after hU.1 r_p0_1) 7 _ rfl; go_simp <;> exact rfl))⟩) ⟨_, by (simp only [Ent.val]; go_simp <;> exact rfl), ?_⟩
  refine Seg.step _ rfl (Or.inl ⟨by rfl, fun U hU => ?_⟩) ?_
  · go_simp
    refine vp_call (kw.out _)
  refine ⟨_, by (simp only [Ent.val]; go_simp <;> exact rfl), ?_⟩
  refine Seg.step _ rfl (Or.inl ⟨by rfl, fun U hU => vp_quiet (by (go_simp <;> exact rfl))⟩) ⟨_, by (simp only [Ent.val]; go_simp <;> exact rfl), ?_⟩
  refine Seg.step _ rfl (Or.inl ⟨by rfl, fun U hU => vp_quiet (by (go_simp <;> exact rfl))⟩) ⟨_, by (simp only [Ent.val]; go_simp <;> exact rfl), ?_⟩
  refine Seg.stop (fun U2 hU hk => ?_)
  clear hk hge hne
  replace r_p0_0 := held_after hU r_p0_0
  replace r_p0_1 := held_after hU r_p0_1
  have sz2 := hU.size
  replace hB := bthen hB hU
  clear hU
  have w1 : IntKind.i64.wrap (tt - 2) = tt - 2 := by rw [IntKind.wrap_i64]; omega
  have w2 : IntKind.i64.wrap (tt + 2) = tt + 2 := by rw [IntKind.wrap_i64]; omega
  by_cases c1 : tt - 2 ≤ d1
  · by_cases c2 : d1 ≤ tt + 2
    · go_wp2_with fail
      all_goals go_ret
      all_goals exact ⟨ret_bool (by first | (simp [c1, c2]; done) | (simp; omega)), hB⟩
    · go_wp2_with fail
      all_goals go_ret
      all_goals exact ⟨ret_bool (by first | (simp [c1, c2]; done) | (simp; omega)), hB⟩
  · go_wp2_with fail
    all_goals go_ret
    all_goals exact ⟨ret_bool (by first | (simp [c1]; done) | (simp; omega)), hB⟩
set_option maxRecDepth 100000 in
set_option maxHeartbeats 2000000 in
theorem holds2_any (d0 d1 d2 d3 d4 d5 d6 d7 : Int) (w : World) (hy : -9223372036854775808 ≤ d6) (hz : -9223372036854775808 ≤ d7) : Calls Try.prog 29 #[.agg #[.func (.func 26) #[] #[], .func (.func 27) #[] #[], .func (.func 28) #[] #[]], .agg #[.int .i64 d0, .int .i64 d1, .int .i64 d2, .int .i64 d3, .int .i64 d4, .int .i64 d5, .int .i64 d6, .int .i64 d7]] w fun e w' => e = .returned (.bool (nrB d5 (togS d6 d7))) ∧ After w w' := by
  have hT := togS_bd d6 d7
  have kg := hid (fun W => tog_any d6 d7 W hy hz)
  generalize togS d6 d7 = tt at *
  clear hy hz
  have kw := hid (fun W => get5_any d0 d1 d2 d3 d4 d5 d6 d7 W)
  have ko := hid (fun W => get6_any d0 d1 d2 d3 d4 d5 d6 d7 W)
  have kt := hid (fun W => get7_any d0 d1 d2 d3 d4 d5 d6 d7 W)
  rw [show nrB d5 tt = (decide (tt - 2 ≤ d5) && decide (d5 ≤ tt + 2)) from rfl]
  go_enter Try.func29, Try.ntmps29
  go_upto_region 0 with (fail)
  apply wp_region_seg0 (w := w) (S := [.al 1000, .al 1000, .q []]) (E := [.al ((fun p => .pointer (some ⟨p, 0, none⟩)), _) 1000, .al ((fun p => .pointer (some ⟨p, 0, none⟩)), _) 1000, .q0 _]) rfl (by kernel_rfl) rfl rfl
  intro th hge hne
  refine Seg.step _ rfl ⟨by rfl, fun U hU => ?_⟩ ?_
  · go_simp; exact vp_alloc rfl rfl rfl
  refine ⟨_, by (simp only [Ent.val]; go_simp <;> exact rfl), ?_⟩
  refine Seg.step _ rfl ⟨by rfl, fun U hU => ?_⟩ ?_
  · go_simp; exact vp_alloc rfl rfl rfl
  refine ⟨_, by (simp only [Ent.val]; go_simp <;> exact rfl), ?_⟩
  refine Seg.step _ rfl (Or.inl ⟨by rfl, fun U hU => vp_quiet (by (go_simp <;> exact rfl))⟩) ⟨_, by (simp only [Ent.val]; go_simp <;> exact rfl), ?_⟩
  refine Seg.stop (fun U1 hU hk => ?_)
  have nb0 := hge 0 _ _ rfl
  have rb0 := (hk 0 _ _ rfl trivial).1.2 (by simp)
  have nb1 := hge 1 _ _ rfl
  have rb1 := (hk 1 _ _ rfl trivial).1.2 (by simp)
  have ne0_1 := hne 0 1 _ _ _ _ rfl rfl (by omega)
  clear hk hge hne
  generalize th (0 + 0) = p0_0 at *
  dsimp only at rb0
  generalize th (0 + 1) = p0_1 at *
  dsimp only at rb1
  have r_p0_0 := rb0
  clear rb0
  have n_p0_0 := nb0
  clear nb0
  have d_p0_0_p0_1 := ne0_1
  clear ne0_1
  have r_p0_1 := rb1
  clear rb1
  have n_p0_1 := nb1
  clear nb1
  have sz1 := hU.size
  have hB : Below w.heap.size w U1 := hU
  clear hU
  go_upto_region 1 with (fail)
  apply wp_region_seg (w := U1) (S := [.q [], .q [], .q [], .q [], .q [], .q [], .q [], .q [], .q [], .q [], .q [], .q [], .q [], .q [], .q []]) (E := [.q0 _, .q0 _, .q0 _, .c0 _, .q0 _, .q0 _, .q0 _, .c0 _, .c0 _, .q0 _, .q0 _, .q0 _, .c0 _, .q0 _, .q0 _]) (by kernel_rfl) rfl (by kernel_rfl) rfl rfl
  intro th hge hne
  refine Seg.step _ rfl (Or.inl ⟨by rfl, fun U hU => vp_quiet (by (go_simp <;> exact rfl))⟩) ⟨_, by (simp only [Ent.val]; go_simp <;> exact rfl), ?_⟩
  refine Seg.step _ rfl (Or.inl ⟨by rfl, fun U hU => vp_quiet (by (have h0 := held_cell (held_after hU.1 r_p0_0) 1 _ rfl; go_simp <;> exact rfl))⟩) ⟨_, by (simp only [Ent.val]; go_simp <;> exact rfl), ?_⟩
  refine Seg.step _ rfl (Or.inl ⟨by rfl, fun U hU => vp_quiet (by (have h0 := held_cell (held_after hU.1 r_p0_1) 0 _ rfl; have h1 := held_cell (held_after hU.1 r_p0_1) 1 _ rfl; have h2 := held_cell (held_after hU.1 r_p0_1) 2 _ rfl; have h3 := held_cell (held_after hU.1 r_p0_1) 3 _ rfl; have h4 := held_cell (held_after hU.1 r_p0_1) 4 _ rfl; have h5 := held_cell (held_after hU.1 r_p0_1) 5 _ rfl; have h6 := held_cell (held_after hU.1 r_p0_1) 6 _ rfl; have h7 := held_cell (held_after hU.1 r_p0_1) 7 _ rfl; go_simp <;> exact rfl))⟩) ⟨_, by (simp only [Ent.val]; go_simp <;> exact rfl), ?_⟩
  refine Seg.step _ rfl (Or.inl ⟨by rfl, fun U hU => ?_⟩) ?_
  · go_simp
    refine vp_call (ko.out _)
  refine ⟨_, by (simp only [Ent.val]; go_simp <;> exact rfl), ?_⟩
  refine Seg.step _ rfl (Or.inl ⟨by rfl, fun U hU => vp_quiet (by (go_simp <;> exact rfl))⟩) ⟨_, by (simp only [Ent.val]; go_simp <;> exact rfl), ?_⟩
  refine Seg.step _ rfl (Or.inl ⟨by rfl, fun U hU => vp_quiet (by (have h0 := held_cell (held_after hU.1 r_p0_0) 2 _ rfl; go_simp <;> exact rfl))⟩) ⟨_, by (simp only [Ent.val]; go_simp <;> exact rfl), ?_⟩
  refine Seg.step _ rfl (Or.inl ⟨by rfl, fun U hU => vp_quiet (by (have h0 := held_cell (held_after hU.1 r_p0_1) 0 _ rfl; have h1 := held_cell (held_after hU.1 r_p0_1) 1 _ rfl; have h2 := held_cell (held_after hU.1 r_p0_1) 2 _ rfl; have h3 := held_cell (held_after hU.1 r_p0_1) 3 _ rfl; have h4 := held_cell (held_after hU.1 r_p0_1) 4 _ rfl; have h5 := held_cell (held_after hU.1 r_p0_1) 5 _ rfl; have h6 := held_cell (held_after hU.1 r_p0_1) 6 _ rfl; have h7 := held_cell (held_after hU.1 r_p0_1) 7 _ rfl; go_simp <;> exact rfl))⟩) ⟨_, by (simp only [Ent.val]; go_simp <;> exact rfl), ?_⟩
  refine Seg.step _ rfl (Or.inl ⟨by rfl, fun U hU => ?_⟩) ?_
  · go_simp
    refine vp_call (kt.out _)
  refine ⟨_, by (simp only [Ent.val]; go_simp <;> exact rfl), ?_⟩
  refine Seg.step _ rfl (Or.inl ⟨by rfl, fun U hU => ?_⟩) ?_
  · go_simp
    refine vp_calls (kg.out _)
  refine ⟨_, by (simp only [Ent.val]; go_simp <;> exact rfl), ?_⟩
  refine Seg.step _ rfl (Or.inl ⟨by rfl, fun U hU => vp_quiet (by (go_simp <;> exact rfl))⟩) ⟨_, by (simp only [Ent.val]; go_simp <;> exact rfl), ?_⟩
  refine Seg.step _ rfl (Or.inl ⟨by rfl, fun U hU => vp_quiet (by (have h0 := held_cell (held_after hU.1 r_p0_0) 0 _ rfl; go_simp <;> exact rfl))⟩) ⟨_, by (simp only [Ent.val]; go_simp <;> exact rfl), ?_⟩
  refine Seg.step _ rfl (Or.inl ⟨by rfl, fun U hU => vp_quiet (by (have h0 := held_cell (held_after hU.1 r_p0_1) 0 _ rfl; have h1 := held_cell (held_after hU.1 r_p0_1) 1 _ rfl; have h2 := held_cell (held_after hU.1 r_p0_1) 2 _ rfl; have h3 := held_cell (held_after hU.1 r_p0_1) 3 _ rfl; have h4 := held_cell (held_after hU.1 r_p0_1) 4 _ rfl; have h5 := held_cell (held_after hU.1 r_p0_1) 5 _ rfl; have h6 := held_cell (held_after hU.1 r_p0_1) 6 _ rfl; have h7 := held_cell (held_after hU.1 r_p0_1) 7 _ rfl; go_simp <;> exact rfl))⟩) ⟨_, by (simp only [Ent.val]; go_simp <;> exact rfl), ?_⟩
  refine Seg.step _ rfl (Or.inl ⟨by rfl, fun U hU => ?_⟩) ?_
  · go_simp
    refine vp_call (kw.out _)
  refine ⟨_, by (simp only [Ent.val]; go_simp <;> exact rfl), ?_⟩
  refine Seg.step _ rfl (Or.inl ⟨by rfl, fun U hU => vp_quiet (by (go_simp <;> exact rfl))⟩) ⟨_, by (simp only [Ent.val]; go_simp <;> exact rfl), ?_⟩
  refine Seg.step _ rfl (Or.inl ⟨by rfl, fun U hU => vp_quiet (by (go_simp <;> exact rfl))⟩) ⟨_, by (simp only [Ent.val]; go_simp <;> exact rfl), ?_⟩
  refine Seg.stop (fun U2 hU hk => ?_)
  clear hk hge hne
  replace r_p0_0 := held_after hU r_p0_0
  replace r_p0_1 := held_after hU r_p0_1
  have sz2 := hU.size
  replace hB := bthen hB hU
  clear hU
  have w1 : IntKind.i64.wrap (tt - 2) = tt - 2 := by rw [IntKind.wrap_i64]; omega
  have w2 : IntKind.i64.wrap (tt + 2) = tt + 2 := by rw [IntKind.wrap_i64]; omega
  by_cases c1 : tt - 2 ≤ d5
  · by_cases c2 : d5 ≤ tt + 2
    · go_wp2_with fail
      all_goals go_ret
      all_goals exact ⟨ret_bool (by first | (simp [c1, c2]; done) | (simp; omega)), hB⟩
    · go_wp2_with fail
      all_goals go_ret
      all_goals exact ⟨ret_bool (by first | (simp [c1, c2]; done) | (simp; omega)), hB⟩
  · go_wp2_with fail
    all_goals go_ret
    all_goals exact ⟨ret_bool (by first | (simp [c1]; done) | (simp; omega)), hB⟩
theorem rnearB_any (a b : Int) (w : World) (h0 : 0 ≤ b) (h1 : b ≤ 131072) : Calls Try.prog 30 #[.int .i64 a, .int .i64 b] w fun e w' => e = .returned (.bool (nrB a b)) ∧ w' = w := by
  have w1 : IntKind.i64.wrap (b - 2) = b - 2 := by rw [IntKind.wrap_i64]; omega
  have w2 : IntKind.i64.wrap (b + 2) = b + 2 := by rw [IntKind.wrap_i64]; omega
  unfold nrB
  by_cases c2 : a ≤ b + 2
  · by_cases c1 : b - 2 ≤ a
    · go_enter Try.func30, Try.ntmps30
      go_wp2_with fail
      all_goals go_ret
      all_goals exact ⟨ret_bool (by first | (simp [c1, c2]; done) | (simp; omega)), rfl⟩
    · go_enter Try.func30, Try.ntmps30
      go_wp2_with fail
      all_goals go_ret
      all_goals exact ⟨ret_bool (by first | (simp [c1, c2]; done) | (simp; omega)), rfl⟩
  · go_enter Try.func30, Try.ntmps30
    go_wp2_with fail
    all_goals go_ret
    all_goals exact ⟨ret_bool (by first | (simp [c2]; done) | (simp; omega)), rfl⟩
set_option maxRecDepth 100000 in
set_option maxHeartbeats 4000000 in
theorem rsound_any (d0 d1 d2 d3 d4 d5 d6 d7 : Int) (hb1 : -9223372036854775808 ≤ d1) (hb2 : -9223372036854775808 ≤ d2) (hb3 : -9223372036854775808 ≤ d3) (hb4 : -9223372036854775808 ≤ d4) (hb5 : -9223372036854775808 ≤ d5) (hb6 : -9223372036854775808 ≤ d6) (hb7 : -9223372036854775808 ≤ d7) (w : World) : Calls Try.prog 12 #[.agg #[.int .i64 d0, .int .i64 d1, .int .i64 d2, .int .i64 d3, .int .i64 d4, .int .i64 d5, .int .i64 d6, .int .i64 d7]] w fun e w' => e = .returned (.bool (soundS d1 d2 d3 d4 d5 d6 d7)) ∧ After w w' := by
  have kt0 := hid (fun W => rtog_any d4 d5 W hb4 hb5)
  have hT0 := togS_bd d4 d5
  have kt1 := hid (fun W => rtog_any d2 d3 W hb2 hb3)
  have hT1 := togS_bd d2 d3
  have kt2 := hid (fun W => rtog_any d6 d7 W hb6 hb7)
  have hT2 := togS_bd d6 d7
  unfold soundS
  generalize togS d4 d5 = t0 at *
  generalize togS d2 d3 = t1 at *
  generalize togS d6 d7 = t2 at *
  have kn0 := hid (fun W => rnearB_any d2 t0 W hT0.1 hT0.2)
  have kn1 := hid (fun W => rnearB_any d1 t1 W hT1.1 hT1.2)
  have kn2 := hid (fun W => rnearB_any d5 t2 W hT2.1 hT2.2)
  clear hT0 hT1 hT2 hb1 hb2 hb3 hb4 hb5 hb6 hb7
  cases c0 : nrB d2 t0
  · have e0 : nrB d2 t0 = false := by assumption
    rw [e0] at kn0
    clear e0 c0
    go_enter Try.func12, Try.ntmps12
    go_upto_region 0 with (fail)
    apply wp_region_seg0 (w := w) (S := [.al 1000, .q []]) (E := [.al ((fun p => .pointer (some ⟨p, 0, none⟩)), _) 1000, .q0 _]) rfl (by kernel_rfl) rfl rfl
    intro th hge hne
    refine Seg.step _ rfl ⟨by rfl, fun U hU => ?_⟩ ?_
    · go_simp; exact vp_alloc rfl rfl rfl
    refine ⟨_, by (simp only [Ent.val]; go_simp <;> exact rfl), ?_⟩
    refine Seg.step _ rfl (Or.inl ⟨by rfl, fun U hU => vp_quiet (by (go_simp <;> exact rfl))⟩) ⟨_, by (simp only [Ent.val]; go_simp <;> exact rfl), ?_⟩
    refine Seg.stop (fun U1 hU hk => ?_)
    have nb0 := hge 0 _ _ rfl
    have rb0 := (hk 0 _ _ rfl trivial).1.2 (by simp)
    clear hk hge hne
    generalize th (0 + 0) = p0_0 at *
    dsimp only at rb0
    have r_p0_0 := rb0
    clear rb0
    have n_p0_0 := nb0
    clear nb0
    have sz1 := hU.size
    have hB : Below w.heap.size w U1 := hU
    clear hU
    go_upto_region 1 with (fail)
    apply wp_region_seg (w := U1) (S := [.q [], .q [], .q [], .q [], .q [], .q [], .q [], .q [], .q [], .q [], .q [], .q [], .q [], .q [], .q [], .q [], .q [], .q [], .q [], .q [], .q [], .q [], .q [], .q [], .q [], .q [], .q [], .q [], .q []]) (E := [.q0 _, .q0 _, .q0 _, .q0 _, .q0 _, .q0 _, .c0 _, .c0 _, .q0 _, .q0 _, .q0 _, .q0 _, .q0 _, .q0 _, .q0 _, .c0 _, .c0 _, .q0 _, .q0 _, .q0 _, .q0 _, .q0 _, .q0 _, .q0 _, .q0 _, .c0 _, .c0 _, .q0 _, .q0 _]) (by kernel_rfl) rfl (by kernel_rfl) rfl rfl
    intro th hge hne
    refine Seg.step _ rfl (Or.inl ⟨by rfl, fun U hU => vp_quiet (by (go_simp <;> exact rfl))⟩) ⟨_, by (simp only [Ent.val]; go_simp <;> exact rfl), ?_⟩
    refine Seg.step _ rfl (Or.inl ⟨by rfl, fun U hU => vp_quiet (by (have h0 := held_cell (held_after hU.1 r_p0_0) 2 _ rfl; go_simp <;> exact rfl))⟩) ⟨_, by (simp only [Ent.val]; go_simp <;> exact rfl), ?_⟩
    refine Seg.step _ rfl (Or.inl ⟨by rfl, fun U hU => vp_quiet (by (go_simp <;> exact rfl))⟩) ⟨_, by (simp only [Ent.val]; go_simp <;> exact rfl), ?_⟩
    refine Seg.step _ rfl (Or.inl ⟨by rfl, fun U hU => vp_quiet (by (have h0 := held_cell (held_after hU.1 r_p0_0) 4 _ rfl; go_simp <;> exact rfl))⟩) ⟨_, by (simp only [Ent.val]; go_simp <;> exact rfl), ?_⟩
    refine Seg.step _ rfl (Or.inl ⟨by rfl, fun U hU => vp_quiet (by (go_simp <;> exact rfl))⟩) ⟨_, by (simp only [Ent.val]; go_simp <;> exact rfl), ?_⟩
    refine Seg.step _ rfl (Or.inl ⟨by rfl, fun U hU => vp_quiet (by (have h0 := held_cell (held_after hU.1 r_p0_0) 5 _ rfl; go_simp <;> exact rfl))⟩) ⟨_, by (simp only [Ent.val]; go_simp <;> exact rfl), ?_⟩
    refine Seg.step _ rfl (Or.inl ⟨by rfl, fun U hU => ?_⟩) ?_
    · go_simp
      refine vp_calls (kt0.out _)
    refine ⟨_, by (simp only [Ent.val]; go_simp <;> exact rfl), ?_⟩
    refine Seg.step _ rfl (Or.inl ⟨by rfl, fun U hU => ?_⟩) ?_
    · go_simp
      refine vp_calls (kn0.out _)
    refine ⟨_, by (simp only [Ent.val]; go_simp <;> exact rfl), ?_⟩
    refine Seg.step _ rfl (Or.inl ⟨by rfl, fun U hU => vp_quiet (by (go_simp <;> exact rfl))⟩) ⟨_, by (simp only [Ent.val]; go_simp <;> exact rfl), ?_⟩
    refine Seg.step _ rfl (Or.inr ⟨by rfl, rfl⟩) ⟨_, by (simp only [Ent.val]; go_simp <;> exact rfl), ?_⟩
    refine Seg.step _ rfl (Or.inr ⟨by rfl, rfl⟩) ⟨_, by (simp only [Ent.val]; go_simp <;> exact rfl), ?_⟩
    refine Seg.step _ rfl (Or.inr ⟨by rfl, rfl⟩) ⟨_, by (simp only [Ent.val]; go_simp <;> exact rfl), ?_⟩
    refine Seg.step _ rfl (Or.inr ⟨by rfl, rfl⟩) ⟨_, by (simp only [Ent.val]; go_simp <;> exact rfl), ?_⟩
    refine Seg.step _ rfl (Or.inr ⟨by rfl, rfl⟩) ⟨_, by (simp only [Ent.val]; go_simp <;> exact rfl), ?_⟩
    refine Seg.step _ rfl (Or.inr ⟨by rfl, rfl⟩) ⟨_, by (simp only [Ent.val]; go_simp <;> exact rfl), ?_⟩
    refine Seg.step _ rfl (Or.inr ⟨by rfl, rfl⟩) ⟨_, by (simp only [Ent.val]; go_simp <;> exact rfl), ?_⟩
    refine Seg.step _ rfl (Or.inr ⟨by rfl, rfl⟩) ⟨_, by (simp only [Ent.val]; go_simp <;> exact rfl), ?_⟩
    refine Seg.step _ rfl (Or.inl ⟨by rfl, fun U hU => vp_quiet (by (go_simp <;> exact rfl))⟩) ⟨_, by (simp only [Ent.val]; go_simp <;> exact rfl), ?_⟩
    refine Seg.step _ rfl (Or.inl ⟨by rfl, fun U hU => vp_quiet (by (go_simp <;> exact rfl))⟩) ⟨_, by (simp only [Ent.val]; go_simp <;> exact rfl), ?_⟩
    refine Seg.step _ rfl (Or.inr ⟨by rfl, rfl⟩) ⟨_, by (simp only [Ent.val]; go_simp <;> exact rfl), ?_⟩
    refine Seg.step _ rfl (Or.inr ⟨by rfl, rfl⟩) ⟨_, by (simp only [Ent.val]; go_simp <;> exact rfl), ?_⟩
    refine Seg.step _ rfl (Or.inr ⟨by rfl, rfl⟩) ⟨_, by (simp only [Ent.val]; go_simp <;> exact rfl), ?_⟩
    refine Seg.step _ rfl (Or.inr ⟨by rfl, rfl⟩) ⟨_, by (simp only [Ent.val]; go_simp <;> exact rfl), ?_⟩
    refine Seg.step _ rfl (Or.inr ⟨by rfl, rfl⟩) ⟨_, by (simp only [Ent.val]; go_simp <;> exact rfl), ?_⟩
    refine Seg.step _ rfl (Or.inr ⟨by rfl, rfl⟩) ⟨_, by (simp only [Ent.val]; go_simp <;> exact rfl), ?_⟩
    refine Seg.step _ rfl (Or.inr ⟨by rfl, rfl⟩) ⟨_, by (simp only [Ent.val]; go_simp <;> exact rfl), ?_⟩
    refine Seg.step _ rfl (Or.inr ⟨by rfl, rfl⟩) ⟨_, by (simp only [Ent.val]; go_simp <;> exact rfl), ?_⟩
    refine Seg.step _ rfl (Or.inl ⟨by rfl, fun U hU => vp_quiet (by (go_simp <;> exact rfl))⟩) ⟨_, by (simp only [Ent.val]; go_simp <;> exact rfl), ?_⟩
    refine Seg.step _ rfl (Or.inl ⟨by rfl, fun U hU => vp_quiet (by (go_simp <;> exact rfl))⟩) ⟨_, by (simp only [Ent.val]; go_simp <;> exact rfl), ?_⟩
    refine Seg.stop (fun U2 hU hk => ?_)
    clear hk hge hne
    replace r_p0_0 := held_after hU r_p0_0
    have sz2 := hU.size
    replace hB := bthen hB hU
    clear hU
    go_wp2_with fail
    go_ret
    exact ⟨ret_bool (by simp), hB⟩
  cases c1 : nrB d1 t1
  · have e0 : nrB d2 t0 = true := by assumption
    have e1 : nrB d1 t1 = false := by assumption
    rw [e0] at kn0
    rw [e1] at kn1
    clear e0 c0 e1 c1
    go_enter Try.func12, Try.ntmps12
    go_upto_region 0 with (fail)
    apply wp_region_seg0 (w := w) (S := [.al 1000, .q []]) (E := [.al ((fun p => .pointer (some ⟨p, 0, none⟩)), _) 1000, .q0 _]) rfl (by kernel_rfl) rfl rfl
    intro th hge hne
    refine Seg.step _ rfl ⟨by rfl, fun U hU => ?_⟩ ?_
    · go_simp; exact vp_alloc rfl rfl rfl
    refine ⟨_, by (simp only [Ent.val]; go_simp <;> exact rfl), ?_⟩
    refine Seg.step _ rfl (Or.inl ⟨by rfl, fun U hU => vp_quiet (by (go_simp <;> exact rfl))⟩) ⟨_, by (simp only [Ent.val]; go_simp <;> exact rfl), ?_⟩
    refine Seg.stop (fun U1 hU hk => ?_)
    have nb0 := hge 0 _ _ rfl
    have rb0 := (hk 0 _ _ rfl trivial).1.2 (by simp)
    clear hk hge hne
    generalize th (0 + 0) = p0_0 at *
    dsimp only at rb0
    have r_p0_0 := rb0
    clear rb0
    have n_p0_0 := nb0
    clear nb0
    have sz1 := hU.size
    have hB : Below w.heap.size w U1 := hU
    clear hU
    go_upto_region 1 with (fail)
    apply wp_region_seg (w := U1) (S := [.q [], .q [], .q [], .q [], .q [], .q [], .q [], .q [], .q [], .q [], .q [], .q [], .q [], .q [], .q [], .q [], .q [], .q [], .q [], .q [], .q [], .q [], .q [], .q [], .q [], .q [], .q [], .q [], .q []]) (E := [.q0 _, .q0 _, .q0 _, .q0 _, .q0 _, .q0 _, .c0 _, .c0 _, .q0 _, .q0 _, .q0 _, .q0 _, .q0 _, .q0 _, .q0 _, .c0 _, .c0 _, .q0 _, .q0 _, .q0 _, .q0 _, .q0 _, .q0 _, .q0 _, .q0 _, .c0 _, .c0 _, .q0 _, .q0 _]) (by kernel_rfl) rfl (by kernel_rfl) rfl rfl
    intro th hge hne
    refine Seg.step _ rfl (Or.inl ⟨by rfl, fun U hU => vp_quiet (by (go_simp <;> exact rfl))⟩) ⟨_, by (simp only [Ent.val]; go_simp <;> exact rfl), ?_⟩
    refine Seg.step _ rfl (Or.inl ⟨by rfl, fun U hU => vp_quiet (by (have h0 := held_cell (held_after hU.1 r_p0_0) 2 _ rfl; go_simp <;> exact rfl))⟩) ⟨_, by (simp only [Ent.val]; go_simp <;> exact rfl), ?_⟩
    refine Seg.step _ rfl (Or.inl ⟨by rfl, fun U hU => vp_quiet (by (go_simp <;> exact rfl))⟩) ⟨_, by (simp only [Ent.val]; go_simp <;> exact rfl), ?_⟩
    refine Seg.step _ rfl (Or.inl ⟨by rfl, fun U hU => vp_quiet (by (have h0 := held_cell (held_after hU.1 r_p0_0) 4 _ rfl; go_simp <;> exact rfl))⟩) ⟨_, by (simp only [Ent.val]; go_simp <;> exact rfl), ?_⟩
    refine Seg.step _ rfl (Or.inl ⟨by rfl, fun U hU => vp_quiet (by (go_simp <;> exact rfl))⟩) ⟨_, by (simp only [Ent.val]; go_simp <;> exact rfl), ?_⟩
    refine Seg.step _ rfl (Or.inl ⟨by rfl, fun U hU => vp_quiet (by (have h0 := held_cell (held_after hU.1 r_p0_0) 5 _ rfl; go_simp <;> exact rfl))⟩) ⟨_, by (simp only [Ent.val]; go_simp <;> exact rfl), ?_⟩
    refine Seg.step _ rfl (Or.inl ⟨by rfl, fun U hU => ?_⟩) ?_
    · go_simp
      refine vp_calls (kt0.out _)
    refine ⟨_, by (simp only [Ent.val]; go_simp <;> exact rfl), ?_⟩
    refine Seg.step _ rfl (Or.inl ⟨by rfl, fun U hU => ?_⟩) ?_
    · go_simp
      refine vp_calls (kn0.out _)
    refine ⟨_, by (simp only [Ent.val]; go_simp <;> exact rfl), ?_⟩
    refine Seg.step _ rfl (Or.inl ⟨by rfl, fun U hU => vp_quiet (by (go_simp <;> exact rfl))⟩) ⟨_, by (simp only [Ent.val]; go_simp <;> exact rfl), ?_⟩
    refine Seg.step _ rfl (Or.inl ⟨by rfl, fun U hU => vp_quiet (by (go_simp <;> exact rfl))⟩) ⟨_, by (simp only [Ent.val]; go_simp <;> exact rfl), ?_⟩
    refine Seg.step _ rfl (Or.inl ⟨by rfl, fun U hU => vp_quiet (by (have h0 := held_cell (held_after hU.1 r_p0_0) 1 _ rfl; go_simp <;> exact rfl))⟩) ⟨_, by (simp only [Ent.val]; go_simp <;> exact rfl), ?_⟩
    refine Seg.step _ rfl (Or.inl ⟨by rfl, fun U hU => vp_quiet (by (go_simp <;> exact rfl))⟩) ⟨_, by (simp only [Ent.val]; go_simp <;> exact rfl), ?_⟩
    refine Seg.step _ rfl (Or.inl ⟨by rfl, fun U hU => vp_quiet (by (have h0 := held_cell (held_after hU.1 r_p0_0) 2 _ rfl; go_simp <;> exact rfl))⟩) ⟨_, by (simp only [Ent.val]; go_simp <;> exact rfl), ?_⟩
    refine Seg.step _ rfl (Or.inl ⟨by rfl, fun U hU => vp_quiet (by (go_simp <;> exact rfl))⟩) ⟨_, by (simp only [Ent.val]; go_simp <;> exact rfl), ?_⟩
    refine Seg.step _ rfl (Or.inl ⟨by rfl, fun U hU => vp_quiet (by (have h0 := held_cell (held_after hU.1 r_p0_0) 3 _ rfl; go_simp <;> exact rfl))⟩) ⟨_, by (simp only [Ent.val]; go_simp <;> exact rfl), ?_⟩
    refine Seg.step _ rfl (Or.inl ⟨by rfl, fun U hU => ?_⟩) ?_
    · go_simp
      refine vp_calls (kt1.out _)
    refine ⟨_, by (simp only [Ent.val]; go_simp <;> exact rfl), ?_⟩
    refine Seg.step _ rfl (Or.inl ⟨by rfl, fun U hU => ?_⟩) ?_
    · go_simp
      refine vp_calls (kn1.out _)
    refine ⟨_, by (simp only [Ent.val]; go_simp <;> exact rfl), ?_⟩
    refine Seg.step _ rfl (Or.inl ⟨by rfl, fun U hU => vp_quiet (by (go_simp <;> exact rfl))⟩) ⟨_, by (simp only [Ent.val]; go_simp <;> exact rfl), ?_⟩
    refine Seg.step _ rfl (Or.inl ⟨by rfl, fun U hU => vp_quiet (by (go_simp <;> exact rfl))⟩) ⟨_, by (simp only [Ent.val]; go_simp <;> exact rfl), ?_⟩
    refine Seg.step _ rfl (Or.inr ⟨by rfl, rfl⟩) ⟨_, by (simp only [Ent.val]; go_simp <;> exact rfl), ?_⟩
    refine Seg.step _ rfl (Or.inr ⟨by rfl, rfl⟩) ⟨_, by (simp only [Ent.val]; go_simp <;> exact rfl), ?_⟩
    refine Seg.step _ rfl (Or.inr ⟨by rfl, rfl⟩) ⟨_, by (simp only [Ent.val]; go_simp <;> exact rfl), ?_⟩
    refine Seg.step _ rfl (Or.inr ⟨by rfl, rfl⟩) ⟨_, by (simp only [Ent.val]; go_simp <;> exact rfl), ?_⟩
    refine Seg.step _ rfl (Or.inr ⟨by rfl, rfl⟩) ⟨_, by (simp only [Ent.val]; go_simp <;> exact rfl), ?_⟩
    refine Seg.step _ rfl (Or.inr ⟨by rfl, rfl⟩) ⟨_, by (simp only [Ent.val]; go_simp <;> exact rfl), ?_⟩
    refine Seg.step _ rfl (Or.inr ⟨by rfl, rfl⟩) ⟨_, by (simp only [Ent.val]; go_simp <;> exact rfl), ?_⟩
    refine Seg.step _ rfl (Or.inr ⟨by rfl, rfl⟩) ⟨_, by (simp only [Ent.val]; go_simp <;> exact rfl), ?_⟩
    refine Seg.step _ rfl (Or.inl ⟨by rfl, fun U hU => vp_quiet (by (go_simp <;> exact rfl))⟩) ⟨_, by (simp only [Ent.val]; go_simp <;> exact rfl), ?_⟩
    refine Seg.step _ rfl (Or.inl ⟨by rfl, fun U hU => vp_quiet (by (go_simp <;> exact rfl))⟩) ⟨_, by (simp only [Ent.val]; go_simp <;> exact rfl), ?_⟩
    refine Seg.stop (fun U2 hU hk => ?_)
    clear hk hge hne
    replace r_p0_0 := held_after hU r_p0_0
    have sz2 := hU.size
    replace hB := bthen hB hU
    clear hU
    go_wp2_with fail
    go_ret
    exact ⟨ret_bool (by simp), hB⟩
  cases c2 : nrB d5 t2
  · have e0 : nrB d2 t0 = true := by assumption
    have e1 : nrB d1 t1 = true := by assumption
    have e2 : nrB d5 t2 = false := by assumption
    rw [e0] at kn0
    rw [e1] at kn1
    rw [e2] at kn2
    clear e0 c0 e1 c1 e2 c2
    go_enter Try.func12, Try.ntmps12
    go_upto_region 0 with (fail)
    apply wp_region_seg0 (w := w) (S := [.al 1000, .q []]) (E := [.al ((fun p => .pointer (some ⟨p, 0, none⟩)), _) 1000, .q0 _]) rfl (by kernel_rfl) rfl rfl
    intro th hge hne
    refine Seg.step _ rfl ⟨by rfl, fun U hU => ?_⟩ ?_
    · go_simp; exact vp_alloc rfl rfl rfl
    refine ⟨_, by (simp only [Ent.val]; go_simp <;> exact rfl), ?_⟩
    refine Seg.step _ rfl (Or.inl ⟨by rfl, fun U hU => vp_quiet (by (go_simp <;> exact rfl))⟩) ⟨_, by (simp only [Ent.val]; go_simp <;> exact rfl), ?_⟩
    refine Seg.stop (fun U1 hU hk => ?_)
    have nb0 := hge 0 _ _ rfl
    have rb0 := (hk 0 _ _ rfl trivial).1.2 (by simp)
    clear hk hge hne
    generalize th (0 + 0) = p0_0 at *
    dsimp only at rb0
    have r_p0_0 := rb0
    clear rb0
    have n_p0_0 := nb0
    clear nb0
    have sz1 := hU.size
    have hB : Below w.heap.size w U1 := hU
    clear hU
    go_upto_region 1 with (fail)
    apply wp_region_seg (w := U1) (S := [.q [], .q [], .q [], .q [], .q [], .q [], .q [], .q [], .q [], .q [], .q [], .q [], .q [], .q [], .q [], .q [], .q [], .q [], .q [], .q [], .q [], .q [], .q [], .q [], .q [], .q [], .q [], .q [], .q []]) (E := [.q0 _, .q0 _, .q0 _, .q0 _, .q0 _, .q0 _, .c0 _, .c0 _, .q0 _, .q0 _, .q0 _, .q0 _, .q0 _, .q0 _, .q0 _, .c0 _, .c0 _, .q0 _, .q0 _, .q0 _, .q0 _, .q0 _, .q0 _, .q0 _, .q0 _, .c0 _, .c0 _, .q0 _, .q0 _]) (by kernel_rfl) rfl (by kernel_rfl) rfl rfl
    intro th hge hne
    refine Seg.step _ rfl (Or.inl ⟨by rfl, fun U hU => vp_quiet (by (go_simp <;> exact rfl))⟩) ⟨_, by (simp only [Ent.val]; go_simp <;> exact rfl), ?_⟩
    refine Seg.step _ rfl (Or.inl ⟨by rfl, fun U hU => vp_quiet (by (have h0 := held_cell (held_after hU.1 r_p0_0) 2 _ rfl; go_simp <;> exact rfl))⟩) ⟨_, by (simp only [Ent.val]; go_simp <;> exact rfl), ?_⟩
    refine Seg.step _ rfl (Or.inl ⟨by rfl, fun U hU => vp_quiet (by (go_simp <;> exact rfl))⟩) ⟨_, by (simp only [Ent.val]; go_simp <;> exact rfl), ?_⟩
    refine Seg.step _ rfl (Or.inl ⟨by rfl, fun U hU => vp_quiet (by (have h0 := held_cell (held_after hU.1 r_p0_0) 4 _ rfl; go_simp <;> exact rfl))⟩) ⟨_, by (simp only [Ent.val]; go_simp <;> exact rfl), ?_⟩
    refine Seg.step _ rfl (Or.inl ⟨by rfl, fun U hU => vp_quiet (by (go_simp <;> exact rfl))⟩) ⟨_, by (simp only [Ent.val]; go_simp <;> exact rfl), ?_⟩
    refine Seg.step _ rfl (Or.inl ⟨by rfl, fun U hU => vp_quiet (by (have h0 := held_cell (held_after hU.1 r_p0_0) 5 _ rfl; go_simp <;> exact rfl))⟩) ⟨_, by (simp only [Ent.val]; go_simp <;> exact rfl), ?_⟩
    refine Seg.step _ rfl (Or.inl ⟨by rfl, fun U hU => ?_⟩) ?_
    · go_simp
      refine vp_calls (kt0.out _)
    refine ⟨_, by (simp only [Ent.val]; go_simp <;> exact rfl), ?_⟩
    refine Seg.step _ rfl (Or.inl ⟨by rfl, fun U hU => ?_⟩) ?_
    · go_simp
      refine vp_calls (kn0.out _)
    refine ⟨_, by (simp only [Ent.val]; go_simp <;> exact rfl), ?_⟩
    refine Seg.step _ rfl (Or.inl ⟨by rfl, fun U hU => vp_quiet (by (go_simp <;> exact rfl))⟩) ⟨_, by (simp only [Ent.val]; go_simp <;> exact rfl), ?_⟩
    refine Seg.step _ rfl (Or.inl ⟨by rfl, fun U hU => vp_quiet (by (go_simp <;> exact rfl))⟩) ⟨_, by (simp only [Ent.val]; go_simp <;> exact rfl), ?_⟩
    refine Seg.step _ rfl (Or.inl ⟨by rfl, fun U hU => vp_quiet (by (have h0 := held_cell (held_after hU.1 r_p0_0) 1 _ rfl; go_simp <;> exact rfl))⟩) ⟨_, by (simp only [Ent.val]; go_simp <;> exact rfl), ?_⟩
    refine Seg.step _ rfl (Or.inl ⟨by rfl, fun U hU => vp_quiet (by (go_simp <;> exact rfl))⟩) ⟨_, by (simp only [Ent.val]; go_simp <;> exact rfl), ?_⟩
    refine Seg.step _ rfl (Or.inl ⟨by rfl, fun U hU => vp_quiet (by (have h0 := held_cell (held_after hU.1 r_p0_0) 2 _ rfl; go_simp <;> exact rfl))⟩) ⟨_, by (simp only [Ent.val]; go_simp <;> exact rfl), ?_⟩
    refine Seg.step _ rfl (Or.inl ⟨by rfl, fun U hU => vp_quiet (by (go_simp <;> exact rfl))⟩) ⟨_, by (simp only [Ent.val]; go_simp <;> exact rfl), ?_⟩
    refine Seg.step _ rfl (Or.inl ⟨by rfl, fun U hU => vp_quiet (by (have h0 := held_cell (held_after hU.1 r_p0_0) 3 _ rfl; go_simp <;> exact rfl))⟩) ⟨_, by (simp only [Ent.val]; go_simp <;> exact rfl), ?_⟩
    refine Seg.step _ rfl (Or.inl ⟨by rfl, fun U hU => ?_⟩) ?_
    · go_simp
      refine vp_calls (kt1.out _)
    refine ⟨_, by (simp only [Ent.val]; go_simp <;> exact rfl), ?_⟩
    refine Seg.step _ rfl (Or.inl ⟨by rfl, fun U hU => ?_⟩) ?_
    · go_simp
      refine vp_calls (kn1.out _)
    refine ⟨_, by (simp only [Ent.val]; go_simp <;> exact rfl), ?_⟩
    refine Seg.step _ rfl (Or.inl ⟨by rfl, fun U hU => vp_quiet (by (go_simp <;> exact rfl))⟩) ⟨_, by (simp only [Ent.val]; go_simp <;> exact rfl), ?_⟩
    refine Seg.step _ rfl (Or.inl ⟨by rfl, fun U hU => vp_quiet (by (go_simp <;> exact rfl))⟩) ⟨_, by (simp only [Ent.val]; go_simp <;> exact rfl), ?_⟩
    refine Seg.step _ rfl (Or.inl ⟨by rfl, fun U hU => vp_quiet (by (go_simp <;> exact rfl))⟩) ⟨_, by (simp only [Ent.val]; go_simp <;> exact rfl), ?_⟩
    refine Seg.step _ rfl (Or.inl ⟨by rfl, fun U hU => vp_quiet (by (have h0 := held_cell (held_after hU.1 r_p0_0) 5 _ rfl; go_simp <;> exact rfl))⟩) ⟨_, by (simp only [Ent.val]; go_simp <;> exact rfl), ?_⟩
    refine Seg.step _ rfl (Or.inl ⟨by rfl, fun U hU => vp_quiet (by (go_simp <;> exact rfl))⟩) ⟨_, by (simp only [Ent.val]; go_simp <;> exact rfl), ?_⟩
    refine Seg.step _ rfl (Or.inl ⟨by rfl, fun U hU => vp_quiet (by (have h0 := held_cell (held_after hU.1 r_p0_0) 6 _ rfl; go_simp <;> exact rfl))⟩) ⟨_, by (simp only [Ent.val]; go_simp <;> exact rfl), ?_⟩
    refine Seg.step _ rfl (Or.inl ⟨by rfl, fun U hU => vp_quiet (by (go_simp <;> exact rfl))⟩) ⟨_, by (simp only [Ent.val]; go_simp <;> exact rfl), ?_⟩
    refine Seg.step _ rfl (Or.inl ⟨by rfl, fun U hU => vp_quiet (by (have h0 := held_cell (held_after hU.1 r_p0_0) 7 _ rfl; go_simp <;> exact rfl))⟩) ⟨_, by (simp only [Ent.val]; go_simp <;> exact rfl), ?_⟩
    refine Seg.step _ rfl (Or.inl ⟨by rfl, fun U hU => ?_⟩) ?_
    · go_simp
      refine vp_calls (kt2.out _)
    refine ⟨_, by (simp only [Ent.val]; go_simp <;> exact rfl), ?_⟩
    refine Seg.step _ rfl (Or.inl ⟨by rfl, fun U hU => ?_⟩) ?_
    · go_simp
      refine vp_calls (kn2.out _)
    refine ⟨_, by (simp only [Ent.val]; go_simp <;> exact rfl), ?_⟩
    refine Seg.step _ rfl (Or.inl ⟨by rfl, fun U hU => vp_quiet (by (go_simp <;> exact rfl))⟩) ⟨_, by (simp only [Ent.val]; go_simp <;> exact rfl), ?_⟩
    refine Seg.step _ rfl (Or.inl ⟨by rfl, fun U hU => vp_quiet (by (go_simp <;> exact rfl))⟩) ⟨_, by (simp only [Ent.val]; go_simp <;> exact rfl), ?_⟩
    refine Seg.stop (fun U2 hU hk => ?_)
    clear hk hge hne
    replace r_p0_0 := held_after hU r_p0_0
    have sz2 := hU.size
    replace hB := bthen hB hU
    clear hU
    go_wp2_with fail
    go_ret
    exact ⟨ret_bool (by simp), hB⟩
  · have e0 : nrB d2 t0 = true := by assumption
    have e1 : nrB d1 t1 = true := by assumption
    have e2 : nrB d5 t2 = true := by assumption
    rw [e0] at kn0
    rw [e1] at kn1
    rw [e2] at kn2
    clear e0 c0 e1 c1 e2 c2
    go_enter Try.func12, Try.ntmps12
    go_upto_region 0 with (fail)
    apply wp_region_seg0 (w := w) (S := [.al 1000, .q []]) (E := [.al ((fun p => .pointer (some ⟨p, 0, none⟩)), _) 1000, .q0 _]) rfl (by kernel_rfl) rfl rfl
    intro th hge hne
    refine Seg.step _ rfl ⟨by rfl, fun U hU => ?_⟩ ?_
    · go_simp; exact vp_alloc rfl rfl rfl
    refine ⟨_, by (simp only [Ent.val]; go_simp <;> exact rfl), ?_⟩
    refine Seg.step _ rfl (Or.inl ⟨by rfl, fun U hU => vp_quiet (by (go_simp <;> exact rfl))⟩) ⟨_, by (simp only [Ent.val]; go_simp <;> exact rfl), ?_⟩
    refine Seg.stop (fun U1 hU hk => ?_)
    have nb0 := hge 0 _ _ rfl
    have rb0 := (hk 0 _ _ rfl trivial).1.2 (by simp)
    clear hk hge hne
    generalize th (0 + 0) = p0_0 at *
    dsimp only at rb0
    have r_p0_0 := rb0
    clear rb0
    have n_p0_0 := nb0
    clear nb0
    have sz1 := hU.size
    have hB : Below w.heap.size w U1 := hU
    clear hU
    go_upto_region 1 with (fail)
    apply wp_region_seg (w := U1) (S := [.q [], .q [], .q [], .q [], .q [], .q [], .q [], .q [], .q [], .q [], .q [], .q [], .q [], .q [], .q [], .q [], .q [], .q [], .q [], .q [], .q [], .q [], .q [], .q [], .q [], .q [], .q [], .q [], .q []]) (E := [.q0 _, .q0 _, .q0 _, .q0 _, .q0 _, .q0 _, .c0 _, .c0 _, .q0 _, .q0 _, .q0 _, .q0 _, .q0 _, .q0 _, .q0 _, .c0 _, .c0 _, .q0 _, .q0 _, .q0 _, .q0 _, .q0 _, .q0 _, .q0 _, .q0 _, .c0 _, .c0 _, .q0 _, .q0 _]) (by kernel_rfl) rfl (by kernel_rfl) rfl rfl
    intro th hge hne
    refine Seg.step _ rfl (Or.inl ⟨by rfl, fun U hU => vp_quiet (by (go_simp <;> exact rfl))⟩) ⟨_, by (simp only [Ent.val]; go_simp <;> exact rfl), ?_⟩
    refine Seg.step _ rfl (Or.inl ⟨by rfl, fun U hU => vp_quiet (by (have h0 := held_cell (held_after hU.1 r_p0_0) 2 _ rfl; go_simp <;> exact rfl))⟩) ⟨_, by (simp only [Ent.val]; go_simp <;> exact rfl), ?_⟩
    refine Seg.step _ rfl (Or.inl ⟨by rfl, fun U hU => vp_quiet (by (go_simp <;> exact rfl))⟩) ⟨_, by (simp only [Ent.val]; go_simp <;> exact rfl), ?_⟩
    refine Seg.step _ rfl (Or.inl ⟨by rfl, fun U hU => vp_quiet (by (have h0 := held_cell (held_after hU.1 r_p0_0) 4 _ rfl; go_simp <;> exact rfl))⟩) ⟨_, by (simp only [Ent.val]; go_simp <;> exact rfl), ?_⟩
    refine Seg.step _ rfl (Or.inl ⟨by rfl, fun U hU => vp_quiet (by (go_simp <;> exact rfl))⟩) ⟨_, by (simp only [Ent.val]; go_simp <;> exact rfl), ?_⟩
    refine Seg.step _ rfl (Or.inl ⟨by rfl, fun U hU => vp_quiet (by (have h0 := held_cell (held_after hU.1 r_p0_0) 5 _ rfl; go_simp <;> exact rfl))⟩) ⟨_, by (simp only [Ent.val]; go_simp <;> exact rfl), ?_⟩
    refine Seg.step _ rfl (Or.inl ⟨by rfl, fun U hU => ?_⟩) ?_
    · go_simp
      refine vp_calls (kt0.out _)
    refine ⟨_, by (simp only [Ent.val]; go_simp <;> exact rfl), ?_⟩
    refine Seg.step _ rfl (Or.inl ⟨by rfl, fun U hU => ?_⟩) ?_
    · go_simp
      refine vp_calls (kn0.out _)
    refine ⟨_, by (simp only [Ent.val]; go_simp <;> exact rfl), ?_⟩
    refine Seg.step _ rfl (Or.inl ⟨by rfl, fun U hU => vp_quiet (by (go_simp <;> exact rfl))⟩) ⟨_, by (simp only [Ent.val]; go_simp <;> exact rfl), ?_⟩
    refine Seg.step _ rfl (Or.inl ⟨by rfl, fun U hU => vp_quiet (by (go_simp <;> exact rfl))⟩) ⟨_, by (simp only [Ent.val]; go_simp <;> exact rfl), ?_⟩
    refine Seg.step _ rfl (Or.inl ⟨by rfl, fun U hU => vp_quiet (by (have h0 := held_cell (held_after hU.1 r_p0_0) 1 _ rfl; go_simp <;> exact rfl))⟩) ⟨_, by (simp only [Ent.val]; go_simp <;> exact rfl), ?_⟩
    refine Seg.step _ rfl (Or.inl ⟨by rfl, fun U hU => vp_quiet (by (go_simp <;> exact rfl))⟩) ⟨_, by (simp only [Ent.val]; go_simp <;> exact rfl), ?_⟩
    refine Seg.step _ rfl (Or.inl ⟨by rfl, fun U hU => vp_quiet (by (have h0 := held_cell (held_after hU.1 r_p0_0) 2 _ rfl; go_simp <;> exact rfl))⟩) ⟨_, by (simp only [Ent.val]; go_simp <;> exact rfl), ?_⟩
    refine Seg.step _ rfl (Or.inl ⟨by rfl, fun U hU => vp_quiet (by (go_simp <;> exact rfl))⟩) ⟨_, by (simp only [Ent.val]; go_simp <;> exact rfl), ?_⟩
    refine Seg.step _ rfl (Or.inl ⟨by rfl, fun U hU => vp_quiet (by (have h0 := held_cell (held_after hU.1 r_p0_0) 3 _ rfl; go_simp <;> exact rfl))⟩) ⟨_, by (simp only [Ent.val]; go_simp <;> exact rfl), ?_⟩
    refine Seg.step _ rfl (Or.inl ⟨by rfl, fun U hU => ?_⟩) ?_
    · go_simp
      refine vp_calls (kt1.out _)
    refine ⟨_, by (simp only [Ent.val]; go_simp <;> exact rfl), ?_⟩
    refine Seg.step _ rfl (Or.inl ⟨by rfl, fun U hU => ?_⟩) ?_
    · go_simp
      refine vp_calls (kn1.out _)
    refine ⟨_, by (simp only [Ent.val]; go_simp <;> exact rfl), ?_⟩
    refine Seg.step _ rfl (Or.inl ⟨by rfl, fun U hU => vp_quiet (by (go_simp <;> exact rfl))⟩) ⟨_, by (simp only [Ent.val]; go_simp <;> exact rfl), ?_⟩
    refine Seg.step _ rfl (Or.inl ⟨by rfl, fun U hU => vp_quiet (by (go_simp <;> exact rfl))⟩) ⟨_, by (simp only [Ent.val]; go_simp <;> exact rfl), ?_⟩
    refine Seg.step _ rfl (Or.inl ⟨by rfl, fun U hU => vp_quiet (by (go_simp <;> exact rfl))⟩) ⟨_, by (simp only [Ent.val]; go_simp <;> exact rfl), ?_⟩
    refine Seg.step _ rfl (Or.inl ⟨by rfl, fun U hU => vp_quiet (by (have h0 := held_cell (held_after hU.1 r_p0_0) 5 _ rfl; go_simp <;> exact rfl))⟩) ⟨_, by (simp only [Ent.val]; go_simp <;> exact rfl), ?_⟩
    refine Seg.step _ rfl (Or.inl ⟨by rfl, fun U hU => vp_quiet (by (go_simp <;> exact rfl))⟩) ⟨_, by (simp only [Ent.val]; go_simp <;> exact rfl), ?_⟩
    refine Seg.step _ rfl (Or.inl ⟨by rfl, fun U hU => vp_quiet (by (have h0 := held_cell (held_after hU.1 r_p0_0) 6 _ rfl; go_simp <;> exact rfl))⟩) ⟨_, by (simp only [Ent.val]; go_simp <;> exact rfl), ?_⟩
    refine Seg.step _ rfl (Or.inl ⟨by rfl, fun U hU => vp_quiet (by (go_simp <;> exact rfl))⟩) ⟨_, by (simp only [Ent.val]; go_simp <;> exact rfl), ?_⟩
    refine Seg.step _ rfl (Or.inl ⟨by rfl, fun U hU => vp_quiet (by (have h0 := held_cell (held_after hU.1 r_p0_0) 7 _ rfl; go_simp <;> exact rfl))⟩) ⟨_, by (simp only [Ent.val]; go_simp <;> exact rfl), ?_⟩
    refine Seg.step _ rfl (Or.inl ⟨by rfl, fun U hU => ?_⟩) ?_
    · go_simp
      refine vp_calls (kt2.out _)
    refine ⟨_, by (simp only [Ent.val]; go_simp <;> exact rfl), ?_⟩
    refine Seg.step _ rfl (Or.inl ⟨by rfl, fun U hU => ?_⟩) ?_
    · go_simp
      refine vp_calls (kn2.out _)
    refine ⟨_, by (simp only [Ent.val]; go_simp <;> exact rfl), ?_⟩
    refine Seg.step _ rfl (Or.inl ⟨by rfl, fun U hU => vp_quiet (by (go_simp <;> exact rfl))⟩) ⟨_, by (simp only [Ent.val]; go_simp <;> exact rfl), ?_⟩
    refine Seg.step _ rfl (Or.inl ⟨by rfl, fun U hU => vp_quiet (by (go_simp <;> exact rfl))⟩) ⟨_, by (simp only [Ent.val]; go_simp <;> exact rfl), ?_⟩
    refine Seg.stop (fun U2 hU hk => ?_)
    clear hk hge hne
    replace r_p0_0 := held_after hU r_p0_0
    have sz2 := hU.size
    replace hB := bthen hB hU
    clear hU
    go_wp2_with fail
    go_ret
    exact ⟨ret_bool (by simp), hB⟩
set_option maxRecDepth 100000 in
set_option maxHeartbeats 4000000 in
theorem sound_any (d0 d1 d2 d3 d4 d5 d6 d7 : Int) (hb1 : -9223372036854775808 ≤ d1) (hb2 : -9223372036854775808 ≤ d2) (hb3 : -9223372036854775808 ≤ d3) (hb4 : -9223372036854775808 ≤ d4) (hb5 : -9223372036854775808 ≤ d5) (hb6 : -9223372036854775808 ≤ d6) (hb7 : -9223372036854775808 ≤ d7) (w : World) : Calls Try.prog 11 #[.agg #[.int .i64 d0, .int .i64 d1, .int .i64 d2, .int .i64 d3, .int .i64 d4, .int .i64 d5, .int .i64 d6, .int .i64 d7]] w fun e w' => e = .returned (.bool (soundS d1 d2 d3 d4 d5 d6 d7)) ∧ After w w' := by
  have kh0 := hid (fun W => holds0_any d0 d1 d2 d3 d4 d5 d6 d7 W hb4 hb5)
  have kh1 := hid (fun W => holds1_any d0 d1 d2 d3 d4 d5 d6 d7 W hb2 hb3)
  have kh2 := hid (fun W => holds2_any d0 d1 d2 d3 d4 d5 d6 d7 W hb6 hb7)
  have hS : soundS d1 d2 d3 d4 d5 d6 d7 = (nrB d2 (togS d4 d5) && nrB d1 (togS d2 d3) && nrB d5 (togS d6 d7)) := rfl
  rw [hS]
  clear hS hb1 hb2 hb3 hb4 hb5 hb6 hb7
  generalize nrB d2 (togS d4 d5) = b0 at *
  generalize nrB d1 (togS d2 d3) = b1 at *
  generalize nrB d5 (togS d6 d7) = b2 at *
  go_enter Try.func11, Try.ntmps11
  go_upto_region 0 with (fail)
  apply wp_region_seg0 (w := w) (S := [.al 1000, .q []]) (E := [.al ((fun p => .pointer (some ⟨p, 0, none⟩)), _) 1000, .q0 _]) rfl (by kernel_rfl) rfl rfl
  intro th hge hne
  refine Seg.step _ rfl ⟨by rfl, fun U hU => ?_⟩ ?_
  · go_simp; exact vp_alloc rfl rfl rfl
  refine ⟨_, by (simp only [Ent.val]; go_simp <;> exact rfl), ?_⟩
  refine Seg.step _ rfl (Or.inl ⟨by rfl, fun U hU => vp_quiet (by (go_simp <;> exact rfl))⟩) ⟨_, by (simp only [Ent.val]; go_simp <;> exact rfl), ?_⟩
  refine Seg.stop (fun U1 hU hk => ?_)
  have nb0 := hge 0 _ _ rfl
  have rb0 := (hk 0 _ _ rfl trivial).1.2 (by simp)
  clear hk hge hne
  generalize th (0 + 0) = p0_0 at *
  dsimp only at rb0
  have r_p0_0 := rb0
  clear rb0
  have n_p0_0 := nb0
  clear nb0
  have sz1 := hU.size
  have hB : Below w.heap.size w U1 := hU
  clear hU
  replace hB := hid hB
  go_upto_region 8 with (fail)
  replace hB := hB.out
  apply wp_region_seg0 (w := U1) (S := [.q [], .q [], .q [], .q [], .q [], .q [], .q [], .q [], .q [], .q [], .q [], .q [], .al 1000, .q [], .q []]) (E := [.q0 _, .q0 _, .q0 _, .q0 _, .q0 _, .q0 _, .q0 _, .q0 _, .q0 _, .q0 _, .q0 _, .q0 _, .al ((fun p => .slice (some ⟨p, 0, none⟩) 3 3), _) 1000, .q0 _, .q0 _]) rfl (by kernel_rfl) rfl rfl
  intro th hge hne
  refine Seg.step _ rfl (Or.inl ⟨by rfl, fun U hU => vp_quiet (by (go_simp <;> exact rfl))⟩) ⟨_, by (simp only [Ent.val]; go_simp <;> exact rfl), ?_⟩
  refine Seg.step _ rfl (Or.inl ⟨by rfl, fun U hU => vp_quiet (by (go_simp <;> exact rfl))⟩) ⟨_, by (simp only [Ent.val]; go_simp <;> exact rfl), ?_⟩
  refine Seg.step _ rfl (Or.inl ⟨by rfl, fun U hU => vp_quiet (by (go_simp <;> exact rfl))⟩) ⟨_, by (simp only [Ent.val]; go_simp <;> exact rfl), ?_⟩
  refine Seg.step _ rfl (Or.inl ⟨by rfl, fun U hU => vp_quiet (by (go_simp <;> exact rfl))⟩) ⟨_, by (simp only [Ent.val]; go_simp <;> exact rfl), ?_⟩
  refine Seg.step _ rfl (Or.inl ⟨by rfl, fun U hU => vp_quiet (by (go_simp <;> exact rfl))⟩) ⟨_, by (simp only [Ent.val]; go_simp <;> exact rfl), ?_⟩
  refine Seg.step _ rfl (Or.inl ⟨by rfl, fun U hU => vp_quiet (by (go_simp <;> exact rfl))⟩) ⟨_, by (simp only [Ent.val]; go_simp <;> exact rfl), ?_⟩
  refine Seg.step _ rfl (Or.inl ⟨by rfl, fun U hU => vp_quiet (by (go_simp <;> exact rfl))⟩) ⟨_, by (simp only [Ent.val]; go_simp <;> exact rfl), ?_⟩
  refine Seg.step _ rfl (Or.inl ⟨by rfl, fun U hU => vp_quiet (by (go_simp <;> exact rfl))⟩) ⟨_, by (simp only [Ent.val]; go_simp <;> exact rfl), ?_⟩
  refine Seg.step _ rfl (Or.inl ⟨by rfl, fun U hU => vp_quiet (by (go_simp <;> exact rfl))⟩) ⟨_, by (simp only [Ent.val]; go_simp <;> exact rfl), ?_⟩
  refine Seg.step _ rfl (Or.inl ⟨by rfl, fun U hU => vp_quiet (by (go_simp <;> exact rfl))⟩) ⟨_, by (simp only [Ent.val]; go_simp <;> exact rfl), ?_⟩
  refine Seg.step _ rfl (Or.inl ⟨by rfl, fun U hU => vp_quiet (by (go_simp <;> exact rfl))⟩) ⟨_, by (simp only [Ent.val]; go_simp <;> exact rfl), ?_⟩
  refine Seg.step _ rfl (Or.inl ⟨by rfl, fun U hU => vp_quiet (by (go_simp <;> exact rfl))⟩) ⟨_, by (simp only [Ent.val]; go_simp <;> exact rfl), ?_⟩
  refine Seg.step _ rfl ⟨by rfl, fun U hU => ?_⟩ ?_
  · go_simp; exact vp_alloc rfl rfl rfl
  refine ⟨_, by (simp only [Ent.val]; go_simp <;> exact rfl), ?_⟩
  refine Seg.step _ rfl (Or.inl ⟨by rfl, fun U hU => vp_quiet (by (go_simp <;> exact rfl))⟩) ⟨_, by (simp only [Ent.val]; go_simp <;> exact rfl), ?_⟩
  refine Seg.step _ rfl (Or.inl ⟨by rfl, fun U hU => vp_quiet (by (go_simp <;> exact rfl))⟩) ⟨_, by (simp only [Ent.val]; go_simp <;> exact rfl), ?_⟩
  refine Seg.stop (fun U2 hU hk => ?_)
  have nb12 := hge 12 _ _ rfl
  have rb12 := (hk 12 _ _ rfl trivial).1.2 (by simp)
  clear hk hge hne
  generalize th (0 + 12) = p8_12 at *
  dsimp only at rb12
  replace r_p0_0 := held_after hU r_p0_0
  have r_p8_12 := rb12
  clear rb12
  have n_p8_12 := nb12
  clear nb12
  have sz2 := hU.size
  replace hB := bthen hB hU
  clear hU
  replace hB := hid hB
  have rq := hid r_p8_12
  have rd := hid r_p0_0
  clear r_p8_12 r_p0_0
  go_wp2_with fail
  go_loopw [26] (fun i wr => (i = .int .i64 0 ∨ (i = .int .i64 1 ∧ b0 = true) ∨ (i = .int .i64 2 ∧ b0 = true ∧ b1 = true) ∨ (i = .int .i64 3 ∧ b0 = true ∧ b1 = true ∧ b2 = true)) ∧ After U2 wr ∧ Below w.heap.size w wr) (fun i _ => 3 - (intOf i).toNat)
  case atStart => exact ⟨.inl rfl, After.refl _, hB.out⟩
  case round =>
    obtain ⟨hi, hA, hB2⟩ := hrel
    have rq2 := held_after hA rq.out
    have rd2 := hid (held_after hA rd.out)
    clear rq rd hB
    rcases hi with rfl | ⟨rfl, rfl⟩ | ⟨rfl, rfl, rfl⟩ | ⟨rfl, rfl, rfl, rfl⟩
    · have rd3 := rd2.out
      have z0 := held_cell rq2 0 _ rfl
      have z1 := held_cell rq2 1 _ rfl
      have z2 := held_cell rq2 2 _ rfl
      have hB := hB2
      clear hB2 rd2
      cases b0
      · go_upto_region 10 with (fail)
        apply wp_region_seg0 (w := wr) (S := [.q [], .q [], .al 3, .st 2 []]) (E := [.q0 _, .q0 _, .al ((fun p => .pointer (some ⟨p, 0, none⟩)), _) 3, .s0 2 (.cells _ _)]) rfl (by kernel_rfl) rfl rfl
        intro th hge hne
        refine Seg.step _ rfl (Or.inl ⟨by rfl, fun U hU => vp_quiet (by (go_simp <;> exact rfl))⟩) ⟨_, by (simp only [Ent.val]; go_simp <;> exact rfl), ?_⟩
        refine Seg.step _ rfl (Or.inl ⟨by rfl, fun U hU => vp_quiet (by (have h0 := hU.1.cellB z0; have h1 := hU.1.cellB z1; have h2 := hU.1.cellB z2; go_simp <;> exact rfl))⟩) ⟨_, by (simp only [Ent.val]; go_simp <;> exact rfl), ?_⟩
        refine Seg.step _ rfl ⟨by rfl, fun U hU => ?_⟩ ?_
        · go_simp; exact vp_alloc rfl rfl rfl
        refine ⟨_, by (simp only [Ent.val]; go_simp <;> exact rfl), ?_⟩
        refine Seg.step _ rfl ⟨by rfl, fun U z k hz hU hc => ?_⟩ ?_
        · have hz2 := Option.some.inj hz
          cases hz2; clear hz
          exact vp_store_agg _ _ _ rfl hc rfl rfl (by kernel_rfl) rfl (by rfl)
        refine ⟨_, by (simp only [Ent.val]; go_simp <;> exact rfl), ?_⟩
        refine Seg.stop (fun U3 hU hk => ?_)
        have nb2 := hge 2 _ _ rfl
        have rb2 := (hk 2 _ 3 rfl trivial).1.1 trivial _ (Nat.zero_le _) rfl
        clear hk hge hne
        generalize th (0 + 2) = p10_2 at *
        simp only [Ent.obj] at rb2
        replace rd3 := held_after hU rd3
        have r_p10_2 := rb2
        clear rb2
        have n_p10_2 := nb2
        clear nb2
        have sz3 := hU.size
        replace hB := bthen hB hU
        have hA1 := bthen hA hU
        clear hU
        go_upto_region 11 with (fail)
        apply wp_region_seg0 (w := U3) (S := [.q [], .q [], .q [], .q []]) (E := [.q0 _, .q0 _, .c0 _, .q0 _]) rfl (by kernel_rfl) rfl rfl
        intro th hge hne
        refine Seg.step _ rfl (Or.inl ⟨by rfl, fun U hU => vp_quiet (by (have h0 := held_cell (held_after hU.1 r_p10_2) 0 _ rfl; have h1 := held_cell (held_after hU.1 r_p10_2) 1 _ rfl; have h2 := held_cell (held_after hU.1 r_p10_2) 2 _ rfl; go_simp <;> exact rfl))⟩) ⟨_, by (simp only [Ent.val]; go_simp <;> exact rfl), ?_⟩
        refine Seg.step _ rfl (Or.inl ⟨by rfl, fun U hU => vp_quiet (by (have h0 := held_cell (held_after hU.1 rd3) 0 _ rfl; have h1 := held_cell (held_after hU.1 rd3) 1 _ rfl; have h2 := held_cell (held_after hU.1 rd3) 2 _ rfl; have h3 := held_cell (held_after hU.1 rd3) 3 _ rfl; have h4 := held_cell (held_after hU.1 rd3) 4 _ rfl; have h5 := held_cell (held_after hU.1 rd3) 5 _ rfl; have h6 := held_cell (held_after hU.1 rd3) 6 _ rfl; have h7 := held_cell (held_after hU.1 rd3) 7 _ rfl; go_simp <;> exact rfl))⟩) ⟨_, by (simp only [Ent.val]; go_simp <;> exact rfl), ?_⟩
        refine Seg.step _ rfl (Or.inl ⟨by rfl, fun U hU => ?_⟩) ?_
        · go_simp
          refine vp_call (kh0.out _)
        refine ⟨_, by (simp only [Ent.val]; go_simp <;> exact rfl), ?_⟩
        refine Seg.step _ rfl (Or.inl ⟨by rfl, fun U hU => vp_quiet (by (go_simp <;> exact rfl))⟩) ⟨_, by (simp only [Ent.val]; go_simp <;> exact rfl), ?_⟩
        refine Seg.stop (fun U4 hU hk => ?_)
        clear hk hge hne
        replace rd3 := held_after hU rd3
        replace r_p10_2 := held_after hU r_p10_2
        have sz4 := hU.size
        replace hB := bthen hB hU
        have hA2 := hid (bthen hA1 hU)
        clear hU hA1
        replace hB := hid hB
        go_wp2_with fail
        go_ret
        exact ⟨ret_bool (by simp), hB.out⟩
      · go_upto_region 10 with (fail)
        apply wp_region_seg0 (w := wr) (S := [.q [], .q [], .al 3, .st 2 []]) (E := [.q0 _, .q0 _, .al ((fun p => .pointer (some ⟨p, 0, none⟩)), _) 3, .s0 2 (.cells _ _)]) rfl (by kernel_rfl) rfl rfl
        intro th hge hne
        refine Seg.step _ rfl (Or.inl ⟨by rfl, fun U hU => vp_quiet (by (go_simp <;> exact rfl))⟩) ⟨_, by (simp only [Ent.val]; go_simp <;> exact rfl), ?_⟩
        refine Seg.step _ rfl (Or.inl ⟨by rfl, fun U hU => vp_quiet (by (have h0 := hU.1.cellB z0; have h1 := hU.1.cellB z1; have h2 := hU.1.cellB z2; go_simp <;> exact rfl))⟩) ⟨_, by (simp only [Ent.val]; go_simp <;> exact rfl), ?_⟩
        refine Seg.step _ rfl ⟨by rfl, fun U hU => ?_⟩ ?_
        · go_simp; exact vp_alloc rfl rfl rfl
        refine ⟨_, by (simp only [Ent.val]; go_simp <;> exact rfl), ?_⟩
        refine Seg.step _ rfl ⟨by rfl, fun U z k hz hU hc => ?_⟩ ?_
        · have hz2 := Option.some.inj hz
          cases hz2; clear hz
          exact vp_store_agg _ _ _ rfl hc rfl rfl (by kernel_rfl) rfl (by rfl)
        refine ⟨_, by (simp only [Ent.val]; go_simp <;> exact rfl), ?_⟩
        refine Seg.stop (fun U3 hU hk => ?_)
        have nb2 := hge 2 _ _ rfl
        have rb2 := (hk 2 _ 3 rfl trivial).1.1 trivial _ (Nat.zero_le _) rfl
        clear hk hge hne
        generalize th (0 + 2) = p10_2 at *
        simp only [Ent.obj] at rb2
        replace rd3 := held_after hU rd3
        have r_p10_2 := rb2
        clear rb2
        have n_p10_2 := nb2
        clear nb2
        have sz3 := hU.size
        replace hB := bthen hB hU
        have hA1 := bthen hA hU
        clear hU
        go_upto_region 11 with (fail)
        apply wp_region_seg0 (w := U3) (S := [.q [], .q [], .q [], .q []]) (E := [.q0 _, .q0 _, .c0 _, .q0 _]) rfl (by kernel_rfl) rfl rfl
        intro th hge hne
        refine Seg.step _ rfl (Or.inl ⟨by rfl, fun U hU => vp_quiet (by (have h0 := held_cell (held_after hU.1 r_p10_2) 0 _ rfl; have h1 := held_cell (held_after hU.1 r_p10_2) 1 _ rfl; have h2 := held_cell (held_after hU.1 r_p10_2) 2 _ rfl; go_simp <;> exact rfl))⟩) ⟨_, by (simp only [Ent.val]; go_simp <;> exact rfl), ?_⟩
        refine Seg.step _ rfl (Or.inl ⟨by rfl, fun U hU => vp_quiet (by (have h0 := held_cell (held_after hU.1 rd3) 0 _ rfl; have h1 := held_cell (held_after hU.1 rd3) 1 _ rfl; have h2 := held_cell (held_after hU.1 rd3) 2 _ rfl; have h3 := held_cell (held_after hU.1 rd3) 3 _ rfl; have h4 := held_cell (held_after hU.1 rd3) 4 _ rfl; have h5 := held_cell (held_after hU.1 rd3) 5 _ rfl; have h6 := held_cell (held_after hU.1 rd3) 6 _ rfl; have h7 := held_cell (held_after hU.1 rd3) 7 _ rfl; go_simp <;> exact rfl))⟩) ⟨_, by (simp only [Ent.val]; go_simp <;> exact rfl), ?_⟩
        refine Seg.step _ rfl (Or.inl ⟨by rfl, fun U hU => ?_⟩) ?_
        · go_simp
          refine vp_call (kh0.out _)
        refine ⟨_, by (simp only [Ent.val]; go_simp <;> exact rfl), ?_⟩
        refine Seg.step _ rfl (Or.inl ⟨by rfl, fun U hU => vp_quiet (by (go_simp <;> exact rfl))⟩) ⟨_, by (simp only [Ent.val]; go_simp <;> exact rfl), ?_⟩
        refine Seg.stop (fun U4 hU hk => ?_)
        clear hk hge hne
        replace rd3 := held_after hU rd3
        replace r_p10_2 := held_after hU r_p10_2
        have sz4 := hU.size
        replace hB := bthen hB hU
        have hA2 := hid (bthen hA1 hU)
        clear hU hA1
        replace hB := hid hB
        go_wp2_with fail
        go_roundw
        case rel => exact ⟨by simp, hA2.out, hB.out⟩
        case measure => simp [intOf]
    · have rd3 := rd2.out
      have z0 := held_cell rq2 3 _ rfl
      have z1 := held_cell rq2 4 _ rfl
      have z2 := held_cell rq2 5 _ rfl
      have hB := hB2
      clear hB2 rd2
      cases b1
      · go_upto_region 10 with (fail)
        apply wp_region_seg0 (w := wr) (S := [.q [], .q [], .al 3, .st 2 []]) (E := [.q0 _, .q0 _, .al ((fun p => .pointer (some ⟨p, 0, none⟩)), _) 3, .s0 2 (.cells _ _)]) rfl (by kernel_rfl) rfl rfl
        intro th hge hne
        refine Seg.step _ rfl (Or.inl ⟨by rfl, fun U hU => vp_quiet (by (go_simp <;> exact rfl))⟩) ⟨_, by (simp only [Ent.val]; go_simp <;> exact rfl), ?_⟩
        refine Seg.step _ rfl (Or.inl ⟨by rfl, fun U hU => vp_quiet (by (have h0 := hU.1.cellB z0; have h1 := hU.1.cellB z1; have h2 := hU.1.cellB z2; go_simp <;> exact rfl))⟩) ⟨_, by (simp only [Ent.val]; go_simp <;> exact rfl), ?_⟩
        refine Seg.step _ rfl ⟨by rfl, fun U hU => ?_⟩ ?_
        · go_simp; exact vp_alloc rfl rfl rfl
        refine ⟨_, by (simp only [Ent.val]; go_simp <;> exact rfl), ?_⟩
        refine Seg.step _ rfl ⟨by rfl, fun U z k hz hU hc => ?_⟩ ?_
        · have hz2 := Option.some.inj hz
          cases hz2; clear hz
          exact vp_store_agg _ _ _ rfl hc rfl rfl (by kernel_rfl) rfl (by rfl)
        refine ⟨_, by (simp only [Ent.val]; go_simp <;> exact rfl), ?_⟩
        refine Seg.stop (fun U3 hU hk => ?_)
        have nb2 := hge 2 _ _ rfl
        have rb2 := (hk 2 _ 3 rfl trivial).1.1 trivial _ (Nat.zero_le _) rfl
        clear hk hge hne
        generalize th (0 + 2) = p10_2 at *
        simp only [Ent.obj] at rb2
        replace rd3 := held_after hU rd3
        have r_p10_2 := rb2
        clear rb2
        have n_p10_2 := nb2
        clear nb2
        have sz3 := hU.size
        replace hB := bthen hB hU
        have hA1 := bthen hA hU
        clear hU
        go_upto_region 11 with (fail)
        apply wp_region_seg0 (w := U3) (S := [.q [], .q [], .q [], .q []]) (E := [.q0 _, .q0 _, .c0 _, .q0 _]) rfl (by kernel_rfl) rfl rfl
        intro th hge hne
        refine Seg.step _ rfl (Or.inl ⟨by rfl, fun U hU => vp_quiet (by (have h0 := held_cell (held_after hU.1 r_p10_2) 0 _ rfl; have h1 := held_cell (held_after hU.1 r_p10_2) 1 _ rfl; have h2 := held_cell (held_after hU.1 r_p10_2) 2 _ rfl; go_simp <;> exact rfl))⟩) ⟨_, by (simp only [Ent.val]; go_simp <;> exact rfl), ?_⟩
        refine Seg.step _ rfl (Or.inl ⟨by rfl, fun U hU => vp_quiet (by (have h0 := held_cell (held_after hU.1 rd3) 0 _ rfl; have h1 := held_cell (held_after hU.1 rd3) 1 _ rfl; have h2 := held_cell (held_after hU.1 rd3) 2 _ rfl; have h3 := held_cell (held_after hU.1 rd3) 3 _ rfl; have h4 := held_cell (held_after hU.1 rd3) 4 _ rfl; have h5 := held_cell (held_after hU.1 rd3) 5 _ rfl; have h6 := held_cell (held_after hU.1 rd3) 6 _ rfl; have h7 := held_cell (held_after hU.1 rd3) 7 _ rfl; go_simp <;> exact rfl))⟩) ⟨_, by (simp only [Ent.val]; go_simp <;> exact rfl), ?_⟩
        refine Seg.step _ rfl (Or.inl ⟨by rfl, fun U hU => ?_⟩) ?_
        · go_simp
          refine vp_call (kh1.out _)
        refine ⟨_, by (simp only [Ent.val]; go_simp <;> exact rfl), ?_⟩
        refine Seg.step _ rfl (Or.inl ⟨by rfl, fun U hU => vp_quiet (by (go_simp <;> exact rfl))⟩) ⟨_, by (simp only [Ent.val]; go_simp <;> exact rfl), ?_⟩
        refine Seg.stop (fun U4 hU hk => ?_)
        clear hk hge hne
        replace rd3 := held_after hU rd3
        replace r_p10_2 := held_after hU r_p10_2
        have sz4 := hU.size
        replace hB := bthen hB hU
        have hA2 := hid (bthen hA1 hU)
        clear hU hA1
        replace hB := hid hB
        go_wp2_with fail
        go_ret
        exact ⟨ret_bool (by simp), hB.out⟩
      · go_upto_region 10 with (fail)
        apply wp_region_seg0 (w := wr) (S := [.q [], .q [], .al 3, .st 2 []]) (E := [.q0 _, .q0 _, .al ((fun p => .pointer (some ⟨p, 0, none⟩)), _) 3, .s0 2 (.cells _ _)]) rfl (by kernel_rfl) rfl rfl
        intro th hge hne
        refine Seg.step _ rfl (Or.inl ⟨by rfl, fun U hU => vp_quiet (by (go_simp <;> exact rfl))⟩) ⟨_, by (simp only [Ent.val]; go_simp <;> exact rfl), ?_⟩
        refine Seg.step _ rfl (Or.inl ⟨by rfl, fun U hU => vp_quiet (by (have h0 := hU.1.cellB z0; have h1 := hU.1.cellB z1; have h2 := hU.1.cellB z2; go_simp <;> exact rfl))⟩) ⟨_, by (simp only [Ent.val]; go_simp <;> exact rfl), ?_⟩
        refine Seg.step _ rfl ⟨by rfl, fun U hU => ?_⟩ ?_
        · go_simp; exact vp_alloc rfl rfl rfl
        refine ⟨_, by (simp only [Ent.val]; go_simp <;> exact rfl), ?_⟩
        refine Seg.step _ rfl ⟨by rfl, fun U z k hz hU hc => ?_⟩ ?_
        · have hz2 := Option.some.inj hz
          cases hz2; clear hz
          exact vp_store_agg _ _ _ rfl hc rfl rfl (by kernel_rfl) rfl (by rfl)
        refine ⟨_, by (simp only [Ent.val]; go_simp <;> exact rfl), ?_⟩
        refine Seg.stop (fun U3 hU hk => ?_)
        have nb2 := hge 2 _ _ rfl
        have rb2 := (hk 2 _ 3 rfl trivial).1.1 trivial _ (Nat.zero_le _) rfl
        clear hk hge hne
        generalize th (0 + 2) = p10_2 at *
        simp only [Ent.obj] at rb2
        replace rd3 := held_after hU rd3
        have r_p10_2 := rb2
        clear rb2
        have n_p10_2 := nb2
        clear nb2
        have sz3 := hU.size
        replace hB := bthen hB hU
        have hA1 := bthen hA hU
        clear hU
        go_upto_region 11 with (fail)
        apply wp_region_seg0 (w := U3) (S := [.q [], .q [], .q [], .q []]) (E := [.q0 _, .q0 _, .c0 _, .q0 _]) rfl (by kernel_rfl) rfl rfl
        intro th hge hne
        refine Seg.step _ rfl (Or.inl ⟨by rfl, fun U hU => vp_quiet (by (have h0 := held_cell (held_after hU.1 r_p10_2) 0 _ rfl; have h1 := held_cell (held_after hU.1 r_p10_2) 1 _ rfl; have h2 := held_cell (held_after hU.1 r_p10_2) 2 _ rfl; go_simp <;> exact rfl))⟩) ⟨_, by (simp only [Ent.val]; go_simp <;> exact rfl), ?_⟩
        refine Seg.step _ rfl (Or.inl ⟨by rfl, fun U hU => vp_quiet (by (have h0 := held_cell (held_after hU.1 rd3) 0 _ rfl; have h1 := held_cell (held_after hU.1 rd3) 1 _ rfl; have h2 := held_cell (held_after hU.1 rd3) 2 _ rfl; have h3 := held_cell (held_after hU.1 rd3) 3 _ rfl; have h4 := held_cell (held_after hU.1 rd3) 4 _ rfl; have h5 := held_cell (held_after hU.1 rd3) 5 _ rfl; have h6 := held_cell (held_after hU.1 rd3) 6 _ rfl; have h7 := held_cell (held_after hU.1 rd3) 7 _ rfl; go_simp <;> exact rfl))⟩) ⟨_, by (simp only [Ent.val]; go_simp <;> exact rfl), ?_⟩
        refine Seg.step _ rfl (Or.inl ⟨by rfl, fun U hU => ?_⟩) ?_
        · go_simp
          refine vp_call (kh1.out _)
        refine ⟨_, by (simp only [Ent.val]; go_simp <;> exact rfl), ?_⟩
        refine Seg.step _ rfl (Or.inl ⟨by rfl, fun U hU => vp_quiet (by (go_simp <;> exact rfl))⟩) ⟨_, by (simp only [Ent.val]; go_simp <;> exact rfl), ?_⟩
        refine Seg.stop (fun U4 hU hk => ?_)
        clear hk hge hne
        replace rd3 := held_after hU rd3
        replace r_p10_2 := held_after hU r_p10_2
        have sz4 := hU.size
        replace hB := bthen hB hU
        have hA2 := hid (bthen hA1 hU)
        clear hU hA1
        replace hB := hid hB
        go_wp2_with fail
        go_roundw
        case rel => exact ⟨by simp, hA2.out, hB.out⟩
        case measure => simp [intOf]
    · have rd3 := rd2.out
      have z0 := held_cell rq2 6 _ rfl
      have z1 := held_cell rq2 7 _ rfl
      have z2 := held_cell rq2 8 _ rfl
      have hB := hB2
      clear hB2 rd2
      cases b2
      · go_upto_region 10 with (fail)
        apply wp_region_seg0 (w := wr) (S := [.q [], .q [], .al 3, .st 2 []]) (E := [.q0 _, .q0 _, .al ((fun p => .pointer (some ⟨p, 0, none⟩)), _) 3, .s0 2 (.cells _ _)]) rfl (by kernel_rfl) rfl rfl
        intro th hge hne
        refine Seg.step _ rfl (Or.inl ⟨by rfl, fun U hU => vp_quiet (by (go_simp <;> exact rfl))⟩) ⟨_, by (simp only [Ent.val]; go_simp <;> exact rfl), ?_⟩
        refine Seg.step _ rfl (Or.inl ⟨by rfl, fun U hU => vp_quiet (by (have h0 := hU.1.cellB z0; have h1 := hU.1.cellB z1; have h2 := hU.1.cellB z2; go_simp <;> exact rfl))⟩) ⟨_, by (simp only [Ent.val]; go_simp <;> exact rfl), ?_⟩
        refine Seg.step _ rfl ⟨by rfl, fun U hU => ?_⟩ ?_
        · go_simp; exact vp_alloc rfl rfl rfl
        refine ⟨_, by (simp only [Ent.val]; go_simp <;> exact rfl), ?_⟩
        refine Seg.step _ rfl ⟨by rfl, fun U z k hz hU hc => ?_⟩ ?_
        · have hz2 := Option.some.inj hz
          cases hz2; clear hz
          exact vp_store_agg _ _ _ rfl hc rfl rfl (by kernel_rfl) rfl (by rfl)
        refine ⟨_, by (simp only [Ent.val]; go_simp <;> exact rfl), ?_⟩
        refine Seg.stop (fun U3 hU hk => ?_)
        have nb2 := hge 2 _ _ rfl
        have rb2 := (hk 2 _ 3 rfl trivial).1.1 trivial _ (Nat.zero_le _) rfl
        clear hk hge hne
        generalize th (0 + 2) = p10_2 at *
        simp only [Ent.obj] at rb2
        replace rd3 := held_after hU rd3
        have r_p10_2 := rb2
        clear rb2
        have n_p10_2 := nb2
        clear nb2
        have sz3 := hU.size
        replace hB := bthen hB hU
        have hA1 := bthen hA hU
        clear hU
        go_upto_region 11 with (fail)
        apply wp_region_seg0 (w := U3) (S := [.q [], .q [], .q [], .q []]) (E := [.q0 _, .q0 _, .c0 _, .q0 _]) rfl (by kernel_rfl) rfl rfl
        intro th hge hne
        refine Seg.step _ rfl (Or.inl ⟨by rfl, fun U hU => vp_quiet (by (have h0 := held_cell (held_after hU.1 r_p10_2) 0 _ rfl; have h1 := held_cell (held_after hU.1 r_p10_2) 1 _ rfl; have h2 := held_cell (held_after hU.1 r_p10_2) 2 _ rfl; go_simp <;> exact rfl))⟩) ⟨_, by (simp only [Ent.val]; go_simp <;> exact rfl), ?_⟩
        refine Seg.step _ rfl (Or.inl ⟨by rfl, fun U hU => vp_quiet (by (have h0 := held_cell (held_after hU.1 rd3) 0 _ rfl; have h1 := held_cell (held_after hU.1 rd3) 1 _ rfl; have h2 := held_cell (held_after hU.1 rd3) 2 _ rfl; have h3 := held_cell (held_after hU.1 rd3) 3 _ rfl; have h4 := held_cell (held_after hU.1 rd3) 4 _ rfl; have h5 := held_cell (held_after hU.1 rd3) 5 _ rfl; have h6 := held_cell (held_after hU.1 rd3) 6 _ rfl; have h7 := held_cell (held_after hU.1 rd3) 7 _ rfl; go_simp <;> exact rfl))⟩) ⟨_, by (simp only [Ent.val]; go_simp <;> exact rfl), ?_⟩
        refine Seg.step _ rfl (Or.inl ⟨by rfl, fun U hU => ?_⟩) ?_
        · go_simp
          refine vp_call (kh2.out _)
        refine ⟨_, by (simp only [Ent.val]; go_simp <;> exact rfl), ?_⟩
        refine Seg.step _ rfl (Or.inl ⟨by rfl, fun U hU => vp_quiet (by (go_simp <;> exact rfl))⟩) ⟨_, by (simp only [Ent.val]; go_simp <;> exact rfl), ?_⟩
        refine Seg.stop (fun U4 hU hk => ?_)
        clear hk hge hne
        replace rd3 := held_after hU rd3
        replace r_p10_2 := held_after hU r_p10_2
        have sz4 := hU.size
        replace hB := bthen hB hU
        have hA2 := hid (bthen hA1 hU)
        clear hU hA1
        replace hB := hid hB
        go_wp2_with fail
        go_ret
        exact ⟨ret_bool (by simp), hB.out⟩
      · go_upto_region 10 with (fail)
        apply wp_region_seg0 (w := wr) (S := [.q [], .q [], .al 3, .st 2 []]) (E := [.q0 _, .q0 _, .al ((fun p => .pointer (some ⟨p, 0, none⟩)), _) 3, .s0 2 (.cells _ _)]) rfl (by kernel_rfl) rfl rfl
        intro th hge hne
        refine Seg.step _ rfl (Or.inl ⟨by rfl, fun U hU => vp_quiet (by (go_simp <;> exact rfl))⟩) ⟨_, by (simp only [Ent.val]; go_simp <;> exact rfl), ?_⟩
        refine Seg.step _ rfl (Or.inl ⟨by rfl, fun U hU => vp_quiet (by (have h0 := hU.1.cellB z0; have h1 := hU.1.cellB z1; have h2 := hU.1.cellB z2; go_simp <;> exact rfl))⟩) ⟨_, by (simp only [Ent.val]; go_simp <;> exact rfl), ?_⟩
        refine Seg.step _ rfl ⟨by rfl, fun U hU => ?_⟩ ?_
        · go_simp; exact vp_alloc rfl rfl rfl
        refine ⟨_, by (simp only [Ent.val]; go_simp <;> exact rfl), ?_⟩
        refine Seg.step _ rfl ⟨by rfl, fun U z k hz hU hc => ?_⟩ ?_
        · have hz2 := Option.some.inj hz
          cases hz2; clear hz
          exact vp_store_agg _ _ _ rfl hc rfl rfl (by kernel_rfl) rfl (by rfl)
        refine ⟨_, by (simp only [Ent.val]; go_simp <;> exact rfl), ?_⟩
        refine Seg.stop (fun U3 hU hk => ?_)
        have nb2 := hge 2 _ _ rfl
        have rb2 := (hk 2 _ 3 rfl trivial).1.1 trivial _ (Nat.zero_le _) rfl
        clear hk hge hne
        generalize th (0 + 2) = p10_2 at *
        simp only [Ent.obj] at rb2
        replace rd3 := held_after hU rd3
        have r_p10_2 := rb2
        clear rb2
        have n_p10_2 := nb2
        clear nb2
        have sz3 := hU.size
        replace hB := bthen hB hU
        have hA1 := bthen hA hU
        clear hU
        go_upto_region 11 with (fail)
        apply wp_region_seg0 (w := U3) (S := [.q [], .q [], .q [], .q []]) (E := [.q0 _, .q0 _, .c0 _, .q0 _]) rfl (by kernel_rfl) rfl rfl
        intro th hge hne
        refine Seg.step _ rfl (Or.inl ⟨by rfl, fun U hU => vp_quiet (by (have h0 := held_cell (held_after hU.1 r_p10_2) 0 _ rfl; have h1 := held_cell (held_after hU.1 r_p10_2) 1 _ rfl; have h2 := held_cell (held_after hU.1 r_p10_2) 2 _ rfl; go_simp <;> exact rfl))⟩) ⟨_, by (simp only [Ent.val]; go_simp <;> exact rfl), ?_⟩
        refine Seg.step _ rfl (Or.inl ⟨by rfl, fun U hU => vp_quiet (by (have h0 := held_cell (held_after hU.1 rd3) 0 _ rfl; have h1 := held_cell (held_after hU.1 rd3) 1 _ rfl; have h2 := held_cell (held_after hU.1 rd3) 2 _ rfl; have h3 := held_cell (held_after hU.1 rd3) 3 _ rfl; have h4 := held_cell (held_after hU.1 rd3) 4 _ rfl; have h5 := held_cell (held_after hU.1 rd3) 5 _ rfl; have h6 := held_cell (held_after hU.1 rd3) 6 _ rfl; have h7 := held_cell (held_after hU.1 rd3) 7 _ rfl; go_simp <;> exact rfl))⟩) ⟨_, by (simp only [Ent.val]; go_simp <;> exact rfl), ?_⟩
        refine Seg.step _ rfl (Or.inl ⟨by rfl, fun U hU => ?_⟩) ?_
        · go_simp
          refine vp_call (kh2.out _)
        refine ⟨_, by (simp only [Ent.val]; go_simp <;> exact rfl), ?_⟩
        refine Seg.step _ rfl (Or.inl ⟨by rfl, fun U hU => vp_quiet (by (go_simp <;> exact rfl))⟩) ⟨_, by (simp only [Ent.val]; go_simp <;> exact rfl), ?_⟩
        refine Seg.stop (fun U4 hU hk => ?_)
        clear hk hge hne
        replace rd3 := held_after hU rd3
        replace r_p10_2 := held_after hU r_p10_2
        have sz4 := hU.size
        replace hB := bthen hB hU
        have hA2 := hid (bthen hA1 hU)
        clear hU hA1
        replace hB := hid hB
        go_wp2_with fail
        go_roundw
        case rel => exact ⟨by simp, hA2.out, hB.out⟩
        case measure => simp [intOf]
    · go_wp2_with fail
      go_ret
      exact ⟨ret_bool (by simp), hB2⟩

end Go.Proofs.Ytalmkeehocakeaa
