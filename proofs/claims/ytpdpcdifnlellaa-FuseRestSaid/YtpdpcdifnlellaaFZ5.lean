/- Several texts in one: FuseL. -/
import Derived.Test.YtpdpcdifnlellaaFZ4
import Derived.Test.YtpdpcdifnlellaaVecMath
import Derived.Laws.StructEq
import Derived.Deep.DeepCutAuto

/- Stage 42: what the laws want: one at rest, the word of a unit, knows, may. -/
namespace Go.Proofs.Ytpdpcdifnlellaa
open Go.ChangeShapes Go.WideShapes Go.ChangeAt Go.RowKit
set_option maxRecDepth 100000
set_option linter.unusedVariables false
set_option linter.unusedSimpArgs false

theorem pack_pos (x y z t : Int) : 0 < joinV [2, 10, 10, 10] (packL x y z t) := by
  have hP : joinP [2, 10, 10, 10] (packL x y z t) := of_decide_eq_true (pack_fits x y z t)
  rw [(join_yes hP).1]
  have hl := packL_len x y z t
  have e : joinR [2, 10, 10, 10] (packL x y z t) ([2, 10, 10, 10] : List Int).length = joinR [2, 10, 10, 10] (packL x y z t) 3 * 2 ^ (([2, 10, 10, 10] : List Int).getD 3 0).toNat + ((packL x y z t).getD 3 0).toNat := rfl
  have h3 : 1 ≤ (packL x y z t).getD 3 0 := by
    rw [List.getD_eq_getElem?_getD, List.getElem?_eq_getElem (show 3 < (packL x y z t).length by omega), Option.getD_some]
    have hm : (packL x y z t)[3]'(by omega) ∈ (oth (best4 x y z t) 4).map (packG x y z t) := by
      simp only [packL, List.getElem_cons_succ]
      exact List.getElem_mem _
    obtain ⟨i, -, hi⟩ := List.mem_map.1 hm
    rw [← hi]; unfold packG numS; exact (numC_b _).1
  rw [e]
  have : 1 ≤ ((packL x y z t).getD 3 0).toNat := by omega
  omega
theorem pack_word {x y z t : Int} (h : offS (sqs [x, y, z, t] 0) ≤ 8589934592) : ∃ n : Int, packT x y z t = .tuple #[.int .u32 n, .bool true] ∧ 0 < n := by
  refine ⟨(joinV [2, 10, 10, 10] (packL x y z t) : Nat), ?_, by have := pack_pos x y z t; omega⟩
  unfold packT isU
  rw [if_pos (by simp; omega)]
theorem pack_form42 (x y z t : Int) : ∃ (n : Int) (b : Bool), packT x y z t = .tuple #[.int .u32 n, .bool b] := by
  unfold packT; split
  · exact ⟨_, _, rfl⟩
  · exact ⟨_, _, rfl⟩
theorem lim_in {n : Int} (h : -16384 ≤ n ∧ n ≤ 16384) : n = limS n ∧ limK n = 0 := by
  unfold limS limK; rw [if_neg (by omega), if_neg (by omega), if_neg (by omega), if_neg (by omega)]; exact ⟨rfl, rfl⟩
theorem over0_42 (d : Int) : overS 0 d = 0 := by
  unfold overS
  split
  · rfl
  · rename_i h
    have hq : qn (0 : Int).natAbs d.natAbs = 0 := by
      have : 0 < d.natAbs := by omega
      unfold qn; simp; omega
    rw [hq]; simp
theorem unit0_42 (L : Int) : unitN L 0 = 0 := by
  unfold unitN; rw [Int.mul_zero, over0_42]; unfold wrap32; omega
theorem crE_0 {a b c d : Int} (h1 : a * b = 0) (h2 : c * d = 0) : clampS (crE a b c d) = 0 := by
  unfold crE; rw [h1, h2, round_0_t]; decide +kernel
theorem err_up (up : Int) : ∃ ok, errS 1073741824 0 0 0 0 0 up = (0, 0, 0, ok) := by
  have u0 : clampS (upX 1073741824 0 0 0) = 0 := by decide +kernel
  have u1 : clampS (upY 1073741824 0 0 0) = 0 := by decide +kernel
  obtain ⟨c, -, hd⟩ := dbl_scale 33 0 0 up
  have x0 : (ueS 0 0 up).1 = 0 := by unfold ueS; rw [hd, Int.mul_zero]; exact unit0_42 _
  have x1 : (ueS 0 0 up).2.1 = 0 := by unfold ueS; rw [hd, Int.mul_zero]; exact unit0_42 _
  unfold errS
  split
  · refine ⟨true, ?_⟩
    rw [u0, u1, x0, x1, crE_0 (Int.zero_mul _) (Int.mul_zero _), crE_0 (Int.mul_zero _) (Int.zero_mul _), crE_0 (Int.zero_mul _) (Int.zero_mul _)]
  · exact ⟨false, rfl⟩
theorem rest_step (b0 b1 b2 a0 a1 a2 d : Int) (l0 : -16384 ≤ b0 ∧ b0 ≤ 16384) (l1 : -16384 ≤ b1 ∧ b1 ≤ 16384) (l2 : -16384 ≤ b2 ∧ b2 ≤ 16384) (hE : ∃ ok, errS 1073741824 0 0 0 a0 a1 a2 = (0, 0, 0, ok)) : StepL 1073741824 0 0 0 b0 b1 b2 b0 b1 b2 a0 a1 a2 d 1073741824 0 0 0 b0 b1 b2 0 := by
  have hb : B32 b0 ∧ B32 b1 ∧ B32 b2 := by unfold B32; omega
  have one : B32 1073741824 := by unfold B32; omega
  obtain ⟨ok, hE⟩ := hE
  refine ⟨0, 0, 0, 0, b0, b1, b2, 0, 0, 0, 0, 0, ?_, ⟨b32_0, b32_0, b32_0⟩, by omega, ⟨0, 0, 0, ok, hE, ?_⟩, hb, ⟨b32_0, b32_0, b32_0⟩, by omega, ?_, by omega, (lim_in l0).1, (lim_in l1).1, (lim_in l2).1, by rw [(lim_in l0).2, (lim_in l1).2, (lim_in l2).2]; rfl⟩
  · rw [show (fun i => sel i b0 b1 b2 - sel i b0 b1 b2) = fun _ => 0 from by funext i; omega]
    exact cut3_in (fun _ => 0) b32_0 b32_0 b32_0
  · cases ok
    · exact .inl ⟨rfl, rfl, rfl, rfl, rfl, rfl, rfl, rfl⟩
    · obtain ⟨f0, f1, f2, k2, k3, l0, l1, l2, k4, y0, y1, y2, k5, k6, C0, C1, C2, R0, R1, R2, K, h⟩ := ly_form 0 0 0 b0 b1 b2 d 0 0 0 ⟨b32_0, b32_0, b32_0⟩
      obtain ⟨⟨h1, h2, h3⟩, ⟨h4, h5, h6⟩, h7⟩ := ly_zero h ⟨rfl, rfl, rfl⟩ hb ⟨b32_0, b32_0, b32_0⟩
      rw [h1, h2, h3, h4, h5, h6, h7] at h
      exact .inr ⟨rfl, f0, f1, f2, k2, k3, l0, l1, l2, k4, y0, y1, y2, k5, k6, h⟩
  · refine ⟨1073741824, 0, 0, 0, 0, 1073741824, 0, 0, 0, true, mul_none one b32_0 b32_0 b32_0 (Int.zero_mul d) (Int.zero_mul d) (Int.zero_mul d), one, b32_0, b32_0, b32_0, by omega, by kernel_rfl, ?_⟩
    rw [Int.zero_mul, rnd_none.2]
    rfl
theorem b32_42 {n : Int} (h : (Lit.int .i32 n).wf = true) : B32 n := by have := bounds_i32 h; unfold B32; omega
theorem eqQeqS9 (q0 q1 q2 q3 : Int) (w : World) : (Op.equalIn 9999 23 (.agg #[.int .i32 q0, .int .i32 q1, .int .i32 q2, .int .i32 q3]) (.agg #[.int .i32 q0, .int .i32 q1, .int .i32 q2, .int .i32 q3])).run Try.prog w = .ok true w := by
  rw [show (9999 : Nat) = 9998 + 1 from rfl, run_equalIn_struct w 9998 _ _ _ (by rfl) (by kernel_rfl)]
  go_simp
theorem eqBeqS9 (b0 b1 b2 : Int) (w : World) : (Op.equalIn 9999 25 (.agg #[.int .i32 b0, .int .i32 b1, .int .i32 b2]) (.agg #[.int .i32 b0, .int .i32 b1, .int .i32 b2])).run Try.prog w = .ok true w := by
  rw [show (9999 : Nat) = 9998 + 1 from rfl, run_equalIn_struct w 9998 _ _ _ (by rfl) (by kernel_rfl)]
  go_simp
theorem eqS9 (q0 q1 q2 q3 b0 b1 b2 st cu : Int) (w : World) : (Op.equalIn 10000 32 (.agg #[.int .i32 q0, .int .i32 q1, .int .i32 q2, .int .i32 q3, .int .i32 b0, .int .i32 b1, .int .i32 b2, .int .i64 st, .int .i64 cu]) (.agg #[.int .i32 q0, .int .i32 q1, .int .i32 q2, .int .i32 q3, .int .i32 b0, .int .i32 b1, .int .i32 b2, .int .i64 st, .int .i64 cu])).run Try.prog w = .ok true w := by
  have e1 := fun W => eqQeqS9 q0 q1 q2 q3 W
  have e2 := fun W => eqBeqS9 b0 b1 b2 W
  rw [show (10000 : Nat) = 9999 + 1 from rfl, run_equalIn_struct w 9999 _ _ _ (by rfl) (by kernel_rfl)]
  go_simp
theorem eqQ10 (q0 q1 q2 q3 : Int) (w : World) : (Op.equalIn 10000 23 (.agg #[.int .i32 q0, .int .i32 q1, .int .i32 q2, .int .i32 q3]) (.agg #[.int .i32 q0, .int .i32 q1, .int .i32 q2, .int .i32 q3])).run Try.prog w = .ok true w := by
  rw [show (10000 : Nat) = 9999 + 1 from rfl, run_equalIn_struct w 9999 _ _ _ (by rfl) (by kernel_rfl)]
  go_simp
set_option maxHeartbeats 8000000 in
theorem knows42_any (w : World) : Calls Try.prog 6 #[] w fun e w' => e = .returned (.bool true) ∧ Below w.heap.size w w' := by
  have one : B32 1073741824 := by unfold B32; omega
  have n6 : B32 65536 := by unfold B32; omega
  have n5 : B32 655 := by unfold B32; omega
  have hV : packT 1073741824 0 0 0 = .tuple #[.int .u32 537395712, .bool true] := by kernel_rfl
  have k1 := hid (fun U => fstep_any 1073741824 0 0 0 0 0 0 0 0 0 0 0 65536 655 0 0 U one b32_0 b32_0 b32_0 b32_0 b32_0 b32_0 b32_0 b32_0 b32_0 b32_0 b32_0 n6 n5 (by omega) (by omega) (by omega) (by omega) 1073741824 0 0 0 0 0 0 0 (rest_step 0 0 0 0 0 65536 655 (by omega) (by omega) (by omega) (err_up 65536)))
  have k2 := hid (fun U => fword_any 1073741824 0 0 0 0 0 0 0 0 537395712 true hV U one b32_0 b32_0 b32_0)
  have eQ := fun W => eqQ10 1073741824 0 0 0 W
  clear hV one n6 n5
  go_enter Try.func6, Try.ntmps6
  go_upto_region 0 with (fail)
  apply wp_region_seg0 (w := w) (S := [.q []]) (E := [.q0 _]) rfl (by kernel_rfl) rfl rfl
  intro th hge hne
  refine Seg.sq ?_
  refine Seg.stop (fun U1 hU hk => ?_)
  clear hk hge hne
  have sz1 := hU.size
  have hB : Below w.heap.size w U1 := hU
  clear hU
  go_upto_region 1 with (fail)
  apply wp_region_seg0 (w := U1) (S := [.q [], .q [], .q [], .q [], .al 5, .st 4 []]) (E := [.c0 _, .q0 _, .q0 _, .c0 _, .al ((fun p => .pointer (some ⟨p, 0, none⟩)), _) 5, .s0 4 (.cells _ _)]) rfl (by kernel_rfl) rfl rfl
  intro th hge hne
  refine Seg.step _ rfl (Or.inl ⟨by rfl, fun U hU => ?_⟩) ?_
  · go_simp
    refine vp_call (fstart_any _)
  refine Seg.sa ?_
  refine Seg.sq ?_
  refine Seg.sq ?_
  refine Seg.step _ rfl (Or.inl ⟨by rfl, fun U hU => ?_⟩) ?_
  · go_simp
    refine vp_call (k1.out _)
  refine Seg.sa ?_
  refine Seg.step _ rfl ⟨by rfl, fun U hU => ?_⟩ ?_
  · go_simp; exact vp_alloc rfl rfl rfl
  refine Seg.sa ?_
  refine Seg.step _ rfl ⟨by rfl, fun U z k hz hU hc => ?_⟩ ?_
  · have hz2 := Option.some.inj hz
    cases hz2; clear hz
    exact vp_store_agg _ _ _ rfl hc rfl rfl (by kernel_rfl) rfl (by rfl)
  refine Seg.sa ?_
  refine Seg.stop (fun U2 hU hk => ?_)
  have nb4 := hge 4 _ _ rfl
  have rb4 := (hk 4 _ 5 rfl trivial).1.1 trivial _ (Nat.zero_le _) rfl
  clear hk hge hne
  generalize th (0 + 4) = p1_4 at *
  simp only [Ent.obj] at rb4
  have r_p1_4 := rb4
  clear rb4
  have n_p1_4 := nb4
  clear nb4
  have sz2 := hU.size
  replace hB := bthen hB hU
  clear hU
  go_upto_region 2 with (fail)
  apply wp_region_seg (w := U2) (S := [.q [], .q [], .q [], .q [], .q [], .q [], .q [], .q [], .q [], .q [], .q [], .q [], .q [], .q [], .q [], .q [], .q [], .q [], .q [], .q [], .q [], .q [], .q [], .q [], .q [], .q [], .q [], .q [], .q [], .q []]) (E := [.c0 _, .c0 _, .q0 _, .q0 _, .q0 _, .q0 _, .c0 _, .q0 _, .q0 _, .q0 _, .q0 _, .q0 _, .q0 _, .q0 _, .q0 _, .q0 _, .q0 _, .q0 _, .q0 _, .q0 _, .q0 _, .q0 _, .q0 _, .q0 _, .q0 _, .q0 _, .q0 _, .q0 _, .q0 _, .q0 _]) (by kernel_rfl) rfl (by kernel_rfl) rfl rfl
  intro th hge hne
  refine Seg.step _ rfl (Or.inl ⟨by rfl, fun U hU => ?_⟩) ?_
  · go_simp
    refine vp_call (fstart_any _)
  refine Seg.sa ?_
  refine Seg.step _ rfl (Or.inl ⟨by rfl, fun U hU => ?_⟩) ?_
  · go_simp
    refine vp_call (k2.out _)
  refine Seg.sa ?_
  iterate 3 refine Seg.sq ?_
  refine Seg.sq ?_ (ht := Or.inl ⟨by rfl, fun U hU => vp_quiet (by (have h0 := held_cell (held_after hU.1 r_p1_4) 0 _ rfl; have h1 := held_cell (held_after hU.1 r_p1_4) 1 _ rfl; have h2 := held_cell (held_after hU.1 r_p1_4) 2 _ rfl; have h3 := held_cell (held_after hU.1 r_p1_4) 3 _ rfl; go_simp <;> exact rfl))⟩)
  refine Seg.step _ rfl (Or.inl ⟨by rfl, fun U hU => ?_⟩) ?_
  · go_simp
    refine vp_call (rqone_any _)
  refine Seg.sa ?_
  iterate 4 refine Seg.sq ?_
  refine Seg.sq ?_ (ht := Or.inl ⟨by rfl, fun U hU => vp_quiet (by (have h0 := held_cell (held_after hU.1 r_p1_4) 7 _ rfl; go_simp <;> exact rfl))⟩)
  iterate 4 refine Seg.sq ?_
  refine Seg.sq ?_ (ht := Or.inl ⟨by rfl, fun U hU => vp_quiet (by (have h0 := held_cell (held_after hU.1 r_p1_4) 8 _ rfl; go_simp <;> exact rfl))⟩)
  iterate 13 refine Seg.sq ?_
  refine Seg.stop (fun U3 hU hk => ?_)
  clear hk hge hne
  replace r_p1_4 := held_after hU r_p1_4
  have sz3 := hU.size
  replace hB := bthen hB hU
  clear hU
  go_wp2_with fail
  go_ret
  exact ⟨rfl, hB⟩
set_option maxHeartbeats 4000000 in
theorem may_any (q0 q1 q2 q3 b0 b1 b2 st cu : Int) (w : World) : Calls Try.prog 5 #[.agg #[.int .i32 q0, .int .i32 q1, .int .i32 q2, .int .i32 q3, .int .i32 b0, .int .i32 b1, .int .i32 b2, .int .i64 st, .int .i64 cu]] w fun e w' => e = .returned (.bool (decide (0 ≤ st ∧ st ≤ 1099511627776 ∧ 0 ≤ cu ∧ cu ≤ 1099511627776))) ∧ Below w.heap.size w w' := by
  by_cases c0 : 0 ≤ st
  case neg =>
    have d0 : decide (0 ≤ st) = false := by simpa using c0
    rw [show decide (0 ≤ st ∧ st ≤ 1099511627776 ∧ 0 ≤ cu ∧ cu ≤ 1099511627776) = false from by simp; omega]
    clear c0
    go_enter Try.func5, Try.ntmps5
    go_upto_region 0 with (fail)
    apply wp_region_seg0 (w := w) (S := [.al 1000, .q []]) (E := [.al ((fun p => .pointer (some ⟨p, 0, none⟩)), _) 1000, .q0 _]) rfl (by kernel_rfl) rfl rfl
    intro th hge hne
    refine Seg.step _ rfl ⟨by rfl, fun U hU => ?_⟩ ?_
    · go_simp; exact vp_alloc rfl rfl rfl
    refine Seg.sa ?_
    refine Seg.sq ?_
    refine Seg.stop (fun U1 hU hk => ?_)
    have nb0 := hge 0 _ _ rfl
    have rb0 := (hk 0 _ _ rfl trivial).1.2 (by simp)
    clear hk hge hne
    generalize th (0 + 0) = p0_0 at *
    dsimp only at rb0
    have r_p0_0 := rb0
    clear rb0
    have n_p0_0 := nb0
    clear nb0
    have sz1 := hU.size
    have hB : Below w.heap.size w U1 := hU
    clear hU
    have z7 := held_cell r_p0_0 7 _ rfl
    have z8 := held_cell r_p0_0 8 _ rfl
    go_wp2_with fail
    go_ret
    exact ⟨rfl, hB⟩
  have d0 : decide (0 ≤ st) = true := by simpa using c0
  by_cases c1 : st ≤ 1099511627776
  case neg =>
    have d1 : decide (st ≤ 1099511627776) = false := by simpa using c1
    rw [show decide (0 ≤ st ∧ st ≤ 1099511627776 ∧ 0 ≤ cu ∧ cu ≤ 1099511627776) = false from by simp; omega]
    clear c0 c1
    go_enter Try.func5, Try.ntmps5
    go_upto_region 0 with (fail)
    apply wp_region_seg0 (w := w) (S := [.al 1000, .q []]) (E := [.al ((fun p => .pointer (some ⟨p, 0, none⟩)), _) 1000, .q0 _]) rfl (by kernel_rfl) rfl rfl
    intro th hge hne
    refine Seg.step _ rfl ⟨by rfl, fun U hU => ?_⟩ ?_
    · go_simp; exact vp_alloc rfl rfl rfl
    refine Seg.sa ?_
    refine Seg.sq ?_
    refine Seg.stop (fun U1 hU hk => ?_)
    have nb0 := hge 0 _ _ rfl
    have rb0 := (hk 0 _ _ rfl trivial).1.2 (by simp)
    clear hk hge hne
    generalize th (0 + 0) = p0_0 at *
    dsimp only at rb0
    have r_p0_0 := rb0
    clear rb0
    have n_p0_0 := nb0
    clear nb0
    have sz1 := hU.size
    have hB : Below w.heap.size w U1 := hU
    clear hU
    have z7 := held_cell r_p0_0 7 _ rfl
    have z8 := held_cell r_p0_0 8 _ rfl
    go_wp2_with fail
    go_ret
    exact ⟨rfl, hB⟩
  have d1 : decide (st ≤ 1099511627776) = true := by simpa using c1
  by_cases c2 : 0 ≤ cu
  case neg =>
    have d2 : decide (0 ≤ cu) = false := by simpa using c2
    rw [show decide (0 ≤ st ∧ st ≤ 1099511627776 ∧ 0 ≤ cu ∧ cu ≤ 1099511627776) = false from by simp; omega]
    clear c0 c1 c2
    go_enter Try.func5, Try.ntmps5
    go_upto_region 0 with (fail)
    apply wp_region_seg0 (w := w) (S := [.al 1000, .q []]) (E := [.al ((fun p => .pointer (some ⟨p, 0, none⟩)), _) 1000, .q0 _]) rfl (by kernel_rfl) rfl rfl
    intro th hge hne
    refine Seg.step _ rfl ⟨by rfl, fun U hU => ?_⟩ ?_
    · go_simp; exact vp_alloc rfl rfl rfl
    refine Seg.sa ?_
    refine Seg.sq ?_
    refine Seg.stop (fun U1 hU hk => ?_)
    have nb0 := hge 0 _ _ rfl
    have rb0 := (hk 0 _ _ rfl trivial).1.2 (by simp)
    clear hk hge hne
    generalize th (0 + 0) = p0_0 at *
    dsimp only at rb0
    have r_p0_0 := rb0
    clear rb0
    have n_p0_0 := nb0
    clear nb0
    have sz1 := hU.size
    have hB : Below w.heap.size w U1 := hU
    clear hU
    have z7 := held_cell r_p0_0 7 _ rfl
    have z8 := held_cell r_p0_0 8 _ rfl
    go_wp2_with fail
    go_ret
    exact ⟨rfl, hB⟩
  have d2 : decide (0 ≤ cu) = true := by simpa using c2
  by_cases c3 : cu ≤ 1099511627776
  case neg =>
    have d3 : decide (cu ≤ 1099511627776) = false := by simpa using c3
    rw [show decide (0 ≤ st ∧ st ≤ 1099511627776 ∧ 0 ≤ cu ∧ cu ≤ 1099511627776) = false from by simp; omega]
    clear c0 c1 c2 c3
    go_enter Try.func5, Try.ntmps5
    go_upto_region 0 with (fail)
    apply wp_region_seg0 (w := w) (S := [.al 1000, .q []]) (E := [.al ((fun p => .pointer (some ⟨p, 0, none⟩)), _) 1000, .q0 _]) rfl (by kernel_rfl) rfl rfl
    intro th hge hne
    refine Seg.step _ rfl ⟨by rfl, fun U hU => ?_⟩ ?_
    · go_simp; exact vp_alloc rfl rfl rfl
    refine Seg.sa ?_
    refine Seg.sq ?_
    refine Seg.stop (fun U1 hU hk => ?_)
    have nb0 := hge 0 _ _ rfl
    have rb0 := (hk 0 _ _ rfl trivial).1.2 (by simp)
    clear hk hge hne
    generalize th (0 + 0) = p0_0 at *
    dsimp only at rb0
    have r_p0_0 := rb0
    clear rb0
    have n_p0_0 := nb0
    clear nb0
    have sz1 := hU.size
    have hB : Below w.heap.size w U1 := hU
    clear hU
    have z7 := held_cell r_p0_0 7 _ rfl
    have z8 := held_cell r_p0_0 8 _ rfl
    go_wp2_with fail
    go_ret
    exact ⟨rfl, hB⟩
  have d3 : decide (cu ≤ 1099511627776) = true := by simpa using c3
  rw [show decide (0 ≤ st ∧ st ≤ 1099511627776 ∧ 0 ≤ cu ∧ cu ≤ 1099511627776) = true from by simp; omega]
  clear c0 c1 c2 c3
  go_enter Try.func5, Try.ntmps5
  go_upto_region 0 with (fail)
  apply wp_region_seg0 (w := w) (S := [.al 1000, .q []]) (E := [.al ((fun p => .pointer (some ⟨p, 0, none⟩)), _) 1000, .q0 _]) rfl (by kernel_rfl) rfl rfl
  intro th hge hne
  refine Seg.step _ rfl ⟨by rfl, fun U hU => ?_⟩ ?_
  · go_simp; exact vp_alloc rfl rfl rfl
  refine Seg.sa ?_
  refine Seg.sq ?_
  refine Seg.stop (fun U1 hU hk => ?_)
  have nb0 := hge 0 _ _ rfl
  have rb0 := (hk 0 _ _ rfl trivial).1.2 (by simp)
  clear hk hge hne
  generalize th (0 + 0) = p0_0 at *
  dsimp only at rb0
  have r_p0_0 := rb0
  clear rb0
  have n_p0_0 := nb0
  clear nb0
  have sz1 := hU.size
  have hB : Below w.heap.size w U1 := hU
  clear hU
  have z7 := held_cell r_p0_0 7 _ rfl
  have z8 := held_cell r_p0_0 8 _ rfl
  go_wp2_with fail
  go_ret
  exact ⟨rfl, hB⟩
end Go.Proofs.Ytpdpcdifnlellaa
