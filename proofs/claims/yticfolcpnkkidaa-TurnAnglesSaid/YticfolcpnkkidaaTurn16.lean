/- Package turn: Angles. -/
import Derived.Test.YticfolcpnkkidaaTurn8
import Derived.Test.YticfolcpnkkidaaTurn10
import Derived.Test.YticfolcpnkkidaaTurn15
import Derived.Test.YticfolcpnkkidaaRoot
import Derived.Deep.DeepCutAuto
namespace Go.Proofs.Yticfolcpnkkidaa
open Go.ChangeShapes Go.WideShapes Go.ChangeAt Go.RowKit
set_option linter.unusedVariables false

def angY (x y z t : Int) : Int := 2 * (roundS (y * z) 30 + roundS (x * t) 30)
def angX (x y z t : Int) : Int := roundS (x * x) 30 + roundS (y * y) 30 - roundS (z * z) 30 - roundS (t * t) 30
def angV (x y z t : Int) : Value := .tuple #[.int .i32 (atanS (clampS (upY x y z t)) (clampS (upZ x y z t))), .int .i32 (atanS (clampS (-(clampS (upX x y z t)))) (clampS (lengthS [clampS (upY x y z t), clampS (upZ x y z t)] : Nat))), .int .i32 (atanS (clampS (angY x y z t)) (clampS (angX x y z t)))]
theorem length2_lt (x y : Int) : lengthS [x, y] < 4294967296 := by
  unfold lengthS
  exact sqrtS_lt _ (by have := sqs_le [x, y] 0 (by omega); omega)
theorem b32_wf {n : Int} (h : B32 n) : (Lit.int .i32 n).wf = true := by
  have e1 : IntKind.i32.min = -2147483648 := rfl
  have e2 : IntKind.i32.max = 2147483647 := rfl
  unfold B32 at h
  simp [Lit.wf, e1, e2]; omega
theorem rd_two {v : World} {p : Nat} {a b : Int} {T : TypeId} (h : v.heap[p]? = some (.cells #[.int .i32 a, .int .i32 b] T (0, 0))) : Rd .i32 v (some ⟨p, 0, none⟩) [a, b] :=
  (Row.sl (show Row .i32 T v p [a, b] from h) (by unfold maxLen; simp)).2.2.2.2
set_option maxRecDepth 100000 in
set_option maxHeartbeats 8000000 in
theorem angles_any (x y z t : Int) (w : World) (p0 : B32 x) (p1 : B32 y) (p2 : B32 z) (p3 : B32 t) : Calls Try.prog 21 #[.agg #[.int .i32 x, .int .i32 y, .int .i32 z, .int .i32 t]] w fun e w' => e = .returned (angV x y z t) ∧ Below w.heap.size w w' := by
  have m0 := hid (fun (v : World) => tprod_any y z v p1 p2)
  have b0 := rnd30_bd y z p1 p2
  have m1 := hid (fun (v : World) => tprod_any x t v p0 p3)
  have b1 := rnd30_bd x t p0 p3
  have m2 := hid (fun (v : World) => tprod_any x x v p0 p0)
  have b2 := rnd30_bd x x p0 p0
  have m3 := hid (fun (v : World) => tprod_any y y v p1 p1)
  have b3 := rnd30_bd y y p1 p1
  have m4 := hid (fun (v : World) => tprod_any z z v p2 p2)
  have b4 := rnd30_bd z z p2 p2
  have m5 := hid (fun (v : World) => tprod_any t t v p3 p3)
  have b5 := rnd30_bd t t p3 p3
  have kU := hid (fun (v : World) => up_any x y z t v p0 p1 p2 p3)
  unfold upV at kU
  have hV : angV x y z t = .tuple #[.int .i32 (atanS (clampS (upY x y z t)) (clampS (upZ x y z t))), .int .i32 (atanS (clampS (-(clampS (upX x y z t)))) (clampS (lengthS [clampS (upY x y z t), clampS (upZ x y z t)] : Nat))), .int .i32 (atanS (clampS (2 * (roundS (y * z) 30 + roundS (x * t) 30))) (clampS (roundS (x * x) 30 + roundS (y * y) 30 - roundS (z * z) 30 - roundS (t * t) 30)))] := rfl
  rw [hV]
  clear hV
  have q0 := clampS_bd13 (upX x y z t)
  have q1 := clampS_bd13 (upY x y z t)
  have q2 := clampS_bd13 (upZ x y z t)
  generalize roundS (y * z) 30 = r0 at *
  generalize roundS (x * t) 30 = r1 at *
  generalize roundS (x * x) 30 = r2 at *
  generalize roundS (y * y) 30 = r3 at *
  generalize roundS (z * z) 30 = r4 at *
  generalize roundS (t * t) 30 = r5 at *
  generalize clampS (upX x y z t) = u0 at *
  generalize clampS (upY x y z t) = u1 at *
  generalize clampS (upZ x y z t) = u2 at *
  have lb := length2_lt u1 u2
  have kL := hid (fun (p : Nat) (v : World) (h : v.heap[p]? = some (.cells #[.int .i32 u1, .int .i32 u2] 21 (0, 0))) => length_any (some ⟨p, 0, none⟩) 2 [u1, u2] v (by simp) (rd_two h) (by intro n hn; simp at hn; rcases hn with rfl | rfl; exact b32_wf q1; exact b32_wf q2))
  generalize hLL : lengthS [u1, u2] = L at *
  clear hLL
  have g0 := q0.1
  have g1 := q0.2
  have f0 : IntKind.i64.wrap (-u0) = -u0 := by rw [IntKind.wrap_i64]; omega
  have f1 : IntKind.i64.wrap ((L : Int)) = (L : Int) := by rw [IntKind.wrap_i64]; omega
  have f2 : IntKind.i64.wrap (r0 + r1) = r0 + r1 := by rw [IntKind.wrap_i64]; omega
  have f3 : IntKind.i64.wrap (2 * (r0 + r1)) = 2 * (r0 + r1) := by rw [IntKind.wrap_i64]; omega
  have f4 : IntKind.i64.wrap (r2 + r3) = r2 + r3 := by rw [IntKind.wrap_i64]; omega
  have f5 : IntKind.i64.wrap (r2 + r3 - r4) = r2 + r3 - r4 := by rw [IntKind.wrap_i64]; omega
  have f6 : IntKind.i64.wrap (r2 + r3 - r4 - r5) = r2 + r3 - r4 - r5 := by rw [IntKind.wrap_i64]; omega
  have f7 : IntKind.i64.wrap (u0) = u0 := by rw [IntKind.wrap_i64]; omega
  have v0 := clampS_bd13 (-u0)
  have o0 := oneIf_b (clampB (-u0))
  have v1 := clampS_bd13 ((L : Int))
  have o1 := oneIf_b (clampB ((L : Int)))
  have v2 := clampS_bd13 (2 * (r0 + r1))
  have o2 := oneIf_b (clampB (2 * (r0 + r1)))
  have v3 := clampS_bd13 (r2 + r3 - r4 - r5)
  have o3 := oneIf_b (clampB (r2 + r3 - r4 - r5))
  have c0 := hid (fun (p : Nat) (v : World) (h : v.heap[p]? = some (ctr (0))) => ccut_any (-u0) (0) p v h (by omega) (by omega) (by omega) (by omega))
  have c1 := hid (fun (p : Nat) (v : World) (h : v.heap[p]? = some (ctr (0 + oneIf (clampB (-u0))))) => ccut_any ((L : Int)) (0 + oneIf (clampB (-u0))) p v h (by omega) (by omega) (by omega) (by omega))
  have c2 := hid (fun (p : Nat) (v : World) (h : v.heap[p]? = some (ctr (0 + oneIf (clampB (-u0)) + oneIf (clampB ((L : Int)))))) => ccut_any (2 * (r0 + r1)) (0 + oneIf (clampB (-u0)) + oneIf (clampB ((L : Int)))) p v h (by omega) (by omega) (by omega) (by omega))
  have c3 := hid (fun (p : Nat) (v : World) (h : v.heap[p]? = some (ctr (0 + oneIf (clampB (-u0)) + oneIf (clampB ((L : Int))) + oneIf (clampB (2 * (r0 + r1)))))) => ccut_any (r2 + r3 - r4 - r5) (0 + oneIf (clampB (-u0)) + oneIf (clampB ((L : Int))) + oneIf (clampB (2 * (r0 + r1)))) p v h (by omega) (by omega) (by omega) (by omega))
  have a0 := hid (fun (v : World) => atan_any u1 u2 v q1 q2)
  have a1 := hid (fun (v : World) => atan_any (clampS (-u0)) (clampS (L : Int)) v v0 v1)
  have a2 := hid (fun (v : World) => atan_any (clampS (2 * (r0 + r1))) (clampS (r2 + r3 - r4 - r5)) v v2 v3)
  generalize clampS (-u0) = s0 at *
  generalize oneIf (clampB (-u0)) = n0 at *
  generalize clampS ((L : Int)) = s1 at *
  generalize oneIf (clampB ((L : Int))) = n1 at *
  generalize clampS (2 * (r0 + r1)) = s2 at *
  generalize oneIf (clampB (2 * (r0 + r1))) = n2 at *
  generalize clampS (r2 + r3 - r4 - r5) = s3 at *
  generalize oneIf (clampB (r2 + r3 - r4 - r5)) = n3 at *
  generalize atanS u1 u2 = A1 at *
  generalize atanS s0 s1 = A0 at *
  generalize atanS s2 s3 = A2 at *
  clear p0 p1 p2 p3 q0 q1 q2 v0 v1 v2 v3 b0 b1 b2 b3 b4 b5 o0 o1 o2 o3 lb g0 g1
  go_enter Try.func21, Try.ntmps21
  go_upto_region 0 with (fail)
  apply wp_region_seg0 (w := w) (S := [.al 1000, .q [], .q [], .q []]) (E := [.al ((fun p => .pointer (some ⟨p, 0, none⟩)), _) 1000, .q0 _, .q0 _, .q0 _]) rfl (by kernel_rfl) rfl rfl
  intro th hge hne
  refine Seg.step _ rfl ⟨by rfl, fun U hU => ?_⟩ ?_
  · go_simp; exact vp_alloc rfl rfl rfl
  refine ⟨_, by (simp only [Ent.val]; go_simp <;> exact rfl), ?_⟩
  refine Seg.step _ rfl (Or.inl ⟨by rfl, fun U hU => vp_quiet (by (go_simp <;> exact rfl))⟩) ⟨_, by (simp only [Ent.val]; go_simp <;> exact rfl), ?_⟩
  refine Seg.step _ rfl (Or.inl ⟨by rfl, fun U hU => vp_quiet (by (go_simp <;> exact rfl))⟩) ⟨_, by (simp only [Ent.val]; go_simp <;> exact rfl), ?_⟩
  refine Seg.step _ rfl (Or.inl ⟨by rfl, fun U hU => vp_quiet (by (go_simp <;> exact rfl))⟩) ⟨_, by (simp only [Ent.val]; go_simp <;> exact rfl), ?_⟩
  refine Seg.stop (fun U1 hU hk => ?_)
  have nb0 := hge 0 _ _ rfl
  have rb0 := (hk 0 _ _ rfl trivial).1.2 (by simp)
  clear hk hge hne
  generalize th (0 + 0) = p0_0 at *
  dsimp only at rb0
  have r_p0_0 := rb0
  clear rb0
  have n_p0_0 := nb0
  clear nb0
  have sz1 := hU.size
  have hB : Below w.heap.size w U1 := hU
  clear hU
  go_upto_region 1 with (fail)
  apply wp_region_seg0 (w := U1) (S := [.al 1000]) (E := [.al ((fun p => .pointer (some ⟨p, 0, none⟩)), _) 1000]) rfl (by kernel_rfl) rfl rfl
  intro th hge hne
  refine Seg.step _ rfl ⟨by rfl, fun U hU => ?_⟩ ?_
  · go_simp; exact vp_alloc rfl rfl rfl
  refine ⟨_, by (simp only [Ent.val]; go_simp <;> exact rfl), ?_⟩
  refine Seg.stop (fun U2 hU hk => ?_)
  have nb0 := hge 0 _ _ rfl
  have rb0 := (hk 0 _ _ rfl trivial).1.2 (by simp)
  clear hk hge hne
  generalize th (0 + 0) = p1_0 at *
  dsimp only at rb0
  have df_p0_0_p1_0 : p0_0 ≠ p1_0 := by have := held_lt r_p0_0; omega
  replace r_p0_0 := held_after hU r_p0_0
  have r_p1_0 := rb0
  clear rb0
  have n_p1_0 := nb0
  clear nb0
  have sz2 := hU.size
  replace hB := bthen hB hU
  clear hU
  go_upto_region 2 with (fail)
  apply wp_region_seg0 (w := U2) (S := [.q [], .q [], .al 3, .st 2 []]) (E := [.q0 _, .c0 _, .al ((fun p => .pointer (some ⟨p, 0, none⟩)), _) 3, .s0 2 (.cells _ _)]) rfl (by kernel_rfl) rfl rfl
  intro th hge hne
  refine Seg.step _ rfl (Or.inl ⟨by rfl, fun U hU => vp_quiet (by (have h0 := held_cell (held_after hU.1 r_p0_0) 0 _ rfl; have h1 := held_cell (held_after hU.1 r_p0_0) 1 _ rfl; have h2 := held_cell (held_after hU.1 r_p0_0) 2 _ rfl; have h3 := held_cell (held_after hU.1 r_p0_0) 3 _ rfl; go_simp <;> exact rfl))⟩) ⟨_, by (simp only [Ent.val]; go_simp <;> exact rfl), ?_⟩
  refine Seg.step _ rfl (Or.inl ⟨by rfl, fun U hU => ?_⟩) ?_
  · go_simp
    refine vp_call (kU.out _)
  refine ⟨_, by (simp only [Ent.val]; go_simp <;> exact rfl), ?_⟩
  refine Seg.step _ rfl ⟨by rfl, fun U hU => ?_⟩ ?_
  · go_simp; exact vp_alloc rfl rfl rfl
  refine ⟨_, by (simp only [Ent.val]; go_simp <;> exact rfl), ?_⟩
  refine Seg.step _ rfl ⟨by rfl, fun U z k hz hU hc => ?_⟩ ?_
  · have hz2 := Option.some.inj hz
    cases hz2; clear hz
    exact vp_store_agg _ _ _ rfl hc rfl rfl (by kernel_rfl) rfl (by rfl)
  refine ⟨_, by (simp only [Ent.val]; go_simp <;> exact rfl), ?_⟩
  refine Seg.stop (fun U3 hU hk => ?_)
  have nb2 := hge 2 _ _ rfl
  have rb2 := (hk 2 _ 3 rfl trivial).1.1 trivial _ (Nat.zero_le _) rfl
  clear hk hge hne
  generalize th (0 + 2) = p2_2 at *
  simp only [Ent.obj] at rb2
  have df_p0_0_p2_2 : p0_0 ≠ p2_2 := by have := held_lt r_p0_0; omega
  have df_p1_0_p2_2 : p1_0 ≠ p2_2 := by have := held_lt r_p1_0; omega
  replace r_p0_0 := held_after hU r_p0_0
  replace r_p1_0 := held_after hU r_p1_0
  have r_p2_2 := rb2
  clear rb2
  have n_p2_2 := nb2
  clear nb2
  have sz3 := hU.size
  replace hB := bthen hB hU
  clear hU
  go_upto_region 3 with (fail)
  apply wp_region_seg0 (w := U3) (S := [.q [], .q [], .q [], .q [], .q [], .q []]) (E := [.q0 _, .q0 _, .q0 _, .q0 _, .c0 _, .q0 _]) rfl (by kernel_rfl) rfl rfl
  intro th hge hne
  refine Seg.step _ rfl (Or.inl ⟨by rfl, fun U hU => vp_quiet (by (go_simp <;> exact rfl))⟩) ⟨_, by (simp only [Ent.val]; go_simp <;> exact rfl), ?_⟩
  refine Seg.step _ rfl (Or.inl ⟨by rfl, fun U hU => vp_quiet (by (have h0 := held_cell (held_after hU.1 r_p2_2) 1 _ rfl; go_simp <;> exact rfl))⟩) ⟨_, by (simp only [Ent.val]; go_simp <;> exact rfl), ?_⟩
  refine Seg.step _ rfl (Or.inl ⟨by rfl, fun U hU => vp_quiet (by (go_simp <;> exact rfl))⟩) ⟨_, by (simp only [Ent.val]; go_simp <;> exact rfl), ?_⟩
  refine Seg.step _ rfl (Or.inl ⟨by rfl, fun U hU => vp_quiet (by (have h0 := held_cell (held_after hU.1 r_p2_2) 2 _ rfl; go_simp <;> exact rfl))⟩) ⟨_, by (simp only [Ent.val]; go_simp <;> exact rfl), ?_⟩
  refine Seg.step _ rfl (Or.inl ⟨by rfl, fun U hU => ?_⟩) ?_
  · go_simp
    refine vp_call (a0.out _)
  refine ⟨_, by (simp only [Ent.val]; go_simp <;> exact rfl), ?_⟩
  refine Seg.step _ rfl (Or.inl ⟨by rfl, fun U hU => vp_quiet (by (go_simp <;> exact rfl))⟩) ⟨_, by (simp only [Ent.val]; go_simp <;> exact rfl), ?_⟩
  refine Seg.stop (fun U4 hU hk => ?_)
  clear hk hge hne
  replace r_p0_0 := held_after hU r_p0_0
  replace r_p1_0 := held_after hU r_p1_0
  replace r_p2_2 := held_after hU r_p2_2
  have sz4 := hU.size
  replace hB := bthen hB hU
  clear hU
  go_upto_region 4 with (fail)
  have nc : w.heap.size ≤ p1_0 := Nat.le_trans sz1 n_p1_0
  apply wp_region_segX (w := U4) (S := [.q [], .q [], .q [], .q [], .ef 0 none, .q [], .q [], .q [], .q [], .al 1000, .q [], .q [], .ef 0 (some 4), .q [], .q []]) (E := [.q0 _, .q0 _, .q0 _, .q0 _, .ef 0 none _ _, .q0 _, .q0 _, .q0 _, .q0 _, .al ((fun p => .slice (some ⟨p, 0, none⟩) 2 2), _) 1000, .c0 _, .q0 _, .ef 0 (some 4) _ _, .c0 _, .q0 _]) [(p1_0, _)] (by kernel_rfl) rfl (by kernel_rfl) rfl (x1_w r_p1_0) x1_d (x1_e (S := [.q [], .q [], .q [], .q [], .ef 0 none, .q [], .q [], .q [], .q [], .al 1000, .q [], .q [], .ef 0 (some 4), .q [], .q []]) rfl rfl)
  intro th hge hne
  refine Seg.step _ rfl (Or.inl ⟨by rfl, fun U hU => vp_quiet (by (go_simp <;> exact rfl))⟩) ⟨_, by (simp only [Ent.val]; go_simp <;> exact rfl), ?_⟩
  refine Seg.step _ rfl (Or.inl ⟨by rfl, fun U hU => vp_quiet (by (have h0 := held_cell (keep1 hU.1 (Ne.symm df_p1_0_p2_2) r_p2_2) 0 _ rfl; go_simp <;> exact rfl))⟩) ⟨_, by (simp only [Ent.val]; go_simp <;> exact rfl), ?_⟩
  refine Seg.step _ rfl (Or.inl ⟨by rfl, fun U hU => vp_quiet (by (go_simp <;> exact rfl))⟩) ⟨_, by (simp only [Ent.val]; go_simp <;> exact rfl), ?_⟩
  refine Seg.step _ rfl (Or.inl ⟨by rfl, fun U hU => vp_quiet (by (go_simp <;> exact rfl))⟩) ⟨_, by (simp only [Ent.val]; go_simp <;> exact rfl), ?_⟩
  refine Seg.step _ rfl ⟨by rfl, fun U g0 o0 o1 hx hc hU hg => ?_⟩ ?_
  · have hx2 := Option.some.inj hx
    cases hx2
    have hc2 := Option.some.inj hc
    cases hc2
    clear hx hc
    go_simp
    exact vp_eff (c0.out _ _ hg)
  refine ⟨_, by (simp only [Ent.val]; go_simp <;> exact rfl), ?_⟩
  refine Seg.step _ rfl (Or.inl ⟨by rfl, fun U hU => vp_quiet (by (go_simp <;> exact rfl))⟩) ⟨_, by (simp only [Ent.val]; go_simp <;> exact rfl), ?_⟩
  refine Seg.step _ rfl (Or.inl ⟨by rfl, fun U hU => vp_quiet (by (have h0 := held_cell (keep1 hU.1 (Ne.symm df_p1_0_p2_2) r_p2_2) 1 _ rfl; go_simp <;> exact rfl))⟩) ⟨_, by (simp only [Ent.val]; go_simp <;> exact rfl), ?_⟩
  refine Seg.step _ rfl (Or.inl ⟨by rfl, fun U hU => vp_quiet (by (go_simp <;> exact rfl))⟩) ⟨_, by (simp only [Ent.val]; go_simp <;> exact rfl), ?_⟩
  refine Seg.step _ rfl (Or.inl ⟨by rfl, fun U hU => vp_quiet (by (have h0 := held_cell (keep1 hU.1 (Ne.symm df_p1_0_p2_2) r_p2_2) 2 _ rfl; go_simp <;> exact rfl))⟩) ⟨_, by (simp only [Ent.val]; go_simp <;> exact rfl), ?_⟩
  refine Seg.step _ rfl ⟨by rfl, fun U hU => ?_⟩ ?_
  · go_simp; exact vp_alloc rfl rfl rfl
  refine ⟨_, by (simp only [Ent.val]; go_simp <;> exact rfl), ?_⟩
  refine Seg.step _ rfl (Or.inl ⟨by rfl, fun U hU => ?_⟩) ?_
  · go_simp
    refine vp_calls (kL.out _ _ ((hU.2.1 9 _ _ rfl (by decide)).1.2 (by simp)))
  refine ⟨_, by (simp only [Ent.val]; go_simp <;> exact rfl), ?_⟩
  refine Seg.step _ rfl (Or.inl ⟨by rfl, fun U hU => vp_quiet (by (go_simp <;> exact rfl))⟩) ⟨_, by (simp only [Ent.val]; go_simp <;> exact rfl), ?_⟩
  refine Seg.step _ rfl ⟨by rfl, fun U g0 o0 o1 hx hc hU hg => ?_⟩ ?_
  · have hx2 := Option.some.inj hx
    cases hx2
    have hc2 := Option.some.inj hc
    cases hc2
    clear hx hc
    go_simp
    exact vp_eff (c1.out _ _ hg)
  refine ⟨_, by (simp only [Ent.val]; go_simp <;> exact rfl), ?_⟩
  refine Seg.step _ rfl (Or.inl ⟨by rfl, fun U hU => ?_⟩) ?_
  · go_simp
    refine vp_call (a1.out _)
  refine ⟨_, by (simp only [Ent.val]; go_simp <;> exact rfl), ?_⟩
  refine Seg.step _ rfl (Or.inl ⟨by rfl, fun U hU => vp_quiet (by (go_simp <;> exact rfl))⟩) ⟨_, by (simp only [Ent.val]; go_simp <;> exact rfl), ?_⟩
  refine Seg.stop (fun U5 hU hk hX => ?_)
  have nb9 := hge 9 _ _ rfl
  have rb9 := (hk 9 _ _ rfl trivial).1.2 (by simp)
  have rx := Seg.end1 hX (S := [.q [], .q [], .q [], .q [], .ef 0 none, .q [], .q [], .q [], .q [], .al 1000, .q [], .q [], .ef 0 (some 4), .q [], .q []]) rfl 0 12 (by rfl) rfl rfl
  clear hX
  clear hk hge hne
  generalize th (0 + 9) = p4_9 at *
  dsimp only at rb9
  have df_p0_0_p4_9 : p0_0 ≠ p4_9 := by have := held_lt r_p0_0; omega
  have df_p1_0_p4_9 : p1_0 ≠ p4_9 := by have := held_lt r_p1_0; omega
  have df_p2_2_p4_9 : p2_2 ≠ p4_9 := by have := held_lt r_p2_2; omega
  replace r_p0_0 := keep1 hU df_p0_0_p1_0 r_p0_0
  clear r_p1_0
  have r_p1_0 := rx
  clear rx
  replace r_p2_2 := keep1 hU (Ne.symm df_p1_0_p2_2) r_p2_2
  have r_p4_9 := rb9
  clear rb9
  have n_p4_9 := nb9
  clear nb9
  have sz5 := keep1_size hU
  replace hB := keep1_below hB hU nc hB.size
  clear hU
  go_upto_region 5 with (fail)
  apply wp_region_segX (w := U5) (S := [.q [], .q [], .q [], .q [], .q [], .q [], .q [], .q [], .q [], .q [], .q [], .q [], .ef 0 none, .q []]) (E := [.q0 _, .q0 _, .q0 _, .q0 _, .c0 _, .q0 _, .q0 _, .q0 _, .q0 _, .c0 _, .q0 _, .q0 _, .ef 0 none _ _, .q0 _]) [(p1_0, _)] (by kernel_rfl) rfl (by kernel_rfl) rfl (x1_w r_p1_0) x1_d (x1_e (S := [.q [], .q [], .q [], .q [], .q [], .q [], .q [], .q [], .q [], .q [], .q [], .q [], .ef 0 none, .q []]) rfl rfl)
  intro th hge hne
  refine Seg.step _ rfl (Or.inl ⟨by rfl, fun U hU => vp_quiet (by (go_simp <;> exact rfl))⟩) ⟨_, by (simp only [Ent.val]; go_simp <;> exact rfl), ?_⟩
  refine Seg.step _ rfl (Or.inl ⟨by rfl, fun U hU => vp_quiet (by (have h0 := held_cell (keep1 hU.1 df_p0_0_p1_0 r_p0_0) 1 _ rfl; go_simp <;> exact rfl))⟩) ⟨_, by (simp only [Ent.val]; go_simp <;> exact rfl), ?_⟩
  refine Seg.step _ rfl (Or.inl ⟨by rfl, fun U hU => vp_quiet (by (go_simp <;> exact rfl))⟩) ⟨_, by (simp only [Ent.val]; go_simp <;> exact rfl), ?_⟩
  refine Seg.step _ rfl (Or.inl ⟨by rfl, fun U hU => vp_quiet (by (have h0 := held_cell (keep1 hU.1 df_p0_0_p1_0 r_p0_0) 2 _ rfl; go_simp <;> exact rfl))⟩) ⟨_, by (simp only [Ent.val]; go_simp <;> exact rfl), ?_⟩
  refine Seg.step _ rfl (Or.inl ⟨by rfl, fun U hU => ?_⟩) ?_
  · go_simp
    refine vp_calld (m0.out _)
  refine ⟨_, by (simp only [Ent.val]; go_simp <;> exact rfl), ?_⟩
  refine Seg.step _ rfl (Or.inl ⟨by rfl, fun U hU => vp_quiet (by (go_simp <;> exact rfl))⟩) ⟨_, by (simp only [Ent.val]; go_simp <;> exact rfl), ?_⟩
  refine Seg.step _ rfl (Or.inl ⟨by rfl, fun U hU => vp_quiet (by (have h0 := held_cell (keep1 hU.1 df_p0_0_p1_0 r_p0_0) 0 _ rfl; go_simp <;> exact rfl))⟩) ⟨_, by (simp only [Ent.val]; go_simp <;> exact rfl), ?_⟩
  refine Seg.step _ rfl (Or.inl ⟨by rfl, fun U hU => vp_quiet (by (go_simp <;> exact rfl))⟩) ⟨_, by (simp only [Ent.val]; go_simp <;> exact rfl), ?_⟩
  refine Seg.step _ rfl (Or.inl ⟨by rfl, fun U hU => vp_quiet (by (have h0 := held_cell (keep1 hU.1 df_p0_0_p1_0 r_p0_0) 3 _ rfl; go_simp <;> exact rfl))⟩) ⟨_, by (simp only [Ent.val]; go_simp <;> exact rfl), ?_⟩
  refine Seg.step _ rfl (Or.inl ⟨by rfl, fun U hU => ?_⟩) ?_
  · go_simp
    refine vp_calld (m1.out _)
  refine ⟨_, by (simp only [Ent.val]; go_simp <;> exact rfl), ?_⟩
  refine Seg.step _ rfl (Or.inl ⟨by rfl, fun U hU => vp_quiet (by (go_simp <;> exact rfl))⟩) ⟨_, by (simp only [Ent.val]; go_simp <;> exact rfl), ?_⟩
  refine Seg.step _ rfl (Or.inl ⟨by rfl, fun U hU => vp_quiet (by (go_simp <;> exact rfl))⟩) ⟨_, by (simp only [Ent.val]; go_simp <;> exact rfl), ?_⟩
  refine Seg.step _ rfl ⟨by rfl, fun U g0 o0 o1 hx hc hU hg => ?_⟩ ?_
  · have hx2 := Option.some.inj hx
    cases hx2
    have hc2 := Option.some.inj hc
    cases hc2
    clear hx hc
    go_simp
    exact vp_eff (c2.out _ _ hg)
  refine ⟨_, by (simp only [Ent.val]; go_simp <;> exact rfl), ?_⟩
  refine Seg.step _ rfl (Or.inl ⟨by rfl, fun U hU => vp_quiet (by (go_simp <;> exact rfl))⟩) ⟨_, by (simp only [Ent.val]; go_simp <;> exact rfl), ?_⟩
  refine Seg.stop (fun U6 hU hk hX => ?_)
  have rx := Seg.end1 hX (S := [.q [], .q [], .q [], .q [], .q [], .q [], .q [], .q [], .q [], .q [], .q [], .q [], .ef 0 none, .q []]) rfl 0 12 (by rfl) rfl rfl
  clear hX
  clear hk hge hne
  replace r_p0_0 := keep1 hU df_p0_0_p1_0 r_p0_0
  clear r_p1_0
  have r_p1_0 := rx
  clear rx
  replace r_p2_2 := keep1 hU (Ne.symm df_p1_0_p2_2) r_p2_2
  replace r_p4_9 := keep1 hU (Ne.symm df_p1_0_p4_9) r_p4_9
  have sz6 := keep1_size hU
  replace hB := keep1_below hB hU nc hB.size
  clear hU
  go_upto_region 6 with (fail)
  apply wp_region_segX (w := U6) (S := [.q [], .q [], .q [], .q [], .q [], .q [], .q [], .q [], .q [], .q [], .q [], .q [], .q [], .q [], .q [], .q [], .q [], .q [], .q [], .q [], .q [], .q [], .q [], .ef 0 none, .q []]) (E := [.q0 _, .q0 _, .q0 _, .q0 _, .c0 _, .q0 _, .q0 _, .q0 _, .q0 _, .c0 _, .q0 _, .q0 _, .q0 _, .q0 _, .q0 _, .c0 _, .q0 _, .q0 _, .q0 _, .q0 _, .q0 _, .c0 _, .q0 _, .ef 0 none _ _, .q0 _]) [(p1_0, _)] (by kernel_rfl) rfl (by kernel_rfl) rfl (x1_w r_p1_0) x1_d (x1_e (S := [.q [], .q [], .q [], .q [], .q [], .q [], .q [], .q [], .q [], .q [], .q [], .q [], .q [], .q [], .q [], .q [], .q [], .q [], .q [], .q [], .q [], .q [], .q [], .ef 0 none, .q []]) rfl rfl)
  intro th hge hne
  refine Seg.step _ rfl (Or.inl ⟨by rfl, fun U hU => vp_quiet (by (go_simp <;> exact rfl))⟩) ⟨_, by (simp only [Ent.val]; go_simp <;> exact rfl), ?_⟩
  refine Seg.step _ rfl (Or.inl ⟨by rfl, fun U hU => vp_quiet (by (have h0 := held_cell (keep1 hU.1 df_p0_0_p1_0 r_p0_0) 0 _ rfl; go_simp <;> exact rfl))⟩) ⟨_, by (simp only [Ent.val]; go_simp <;> exact rfl), ?_⟩
  refine Seg.step _ rfl (Or.inl ⟨by rfl, fun U hU => vp_quiet (by (go_simp <;> exact rfl))⟩) ⟨_, by (simp only [Ent.val]; go_simp <;> exact rfl), ?_⟩
  refine Seg.step _ rfl (Or.inl ⟨by rfl, fun U hU => vp_quiet (by (have h0 := held_cell (keep1 hU.1 df_p0_0_p1_0 r_p0_0) 0 _ rfl; go_simp <;> exact rfl))⟩) ⟨_, by (simp only [Ent.val]; go_simp <;> exact rfl), ?_⟩
  refine Seg.step _ rfl (Or.inl ⟨by rfl, fun U hU => ?_⟩) ?_
  · go_simp
    refine vp_calld (m2.out _)
  refine ⟨_, by (simp only [Ent.val]; go_simp <;> exact rfl), ?_⟩
  refine Seg.step _ rfl (Or.inl ⟨by rfl, fun U hU => vp_quiet (by (go_simp <;> exact rfl))⟩) ⟨_, by (simp only [Ent.val]; go_simp <;> exact rfl), ?_⟩
  refine Seg.step _ rfl (Or.inl ⟨by rfl, fun U hU => vp_quiet (by (have h0 := held_cell (keep1 hU.1 df_p0_0_p1_0 r_p0_0) 1 _ rfl; go_simp <;> exact rfl))⟩) ⟨_, by (simp only [Ent.val]; go_simp <;> exact rfl), ?_⟩
  refine Seg.step _ rfl (Or.inl ⟨by rfl, fun U hU => vp_quiet (by (go_simp <;> exact rfl))⟩) ⟨_, by (simp only [Ent.val]; go_simp <;> exact rfl), ?_⟩
  refine Seg.step _ rfl (Or.inl ⟨by rfl, fun U hU => vp_quiet (by (have h0 := held_cell (keep1 hU.1 df_p0_0_p1_0 r_p0_0) 1 _ rfl; go_simp <;> exact rfl))⟩) ⟨_, by (simp only [Ent.val]; go_simp <;> exact rfl), ?_⟩
  refine Seg.step _ rfl (Or.inl ⟨by rfl, fun U hU => ?_⟩) ?_
  · go_simp
    refine vp_calld (m3.out _)
  refine ⟨_, by (simp only [Ent.val]; go_simp <;> exact rfl), ?_⟩
  refine Seg.step _ rfl (Or.inl ⟨by rfl, fun U hU => vp_quiet (by (go_simp <;> exact rfl))⟩) ⟨_, by (simp only [Ent.val]; go_simp <;> exact rfl), ?_⟩
  refine Seg.step _ rfl (Or.inl ⟨by rfl, fun U hU => vp_quiet (by (go_simp <;> exact rfl))⟩) ⟨_, by (simp only [Ent.val]; go_simp <;> exact rfl), ?_⟩
  refine Seg.step _ rfl (Or.inl ⟨by rfl, fun U hU => vp_quiet (by (have h0 := held_cell (keep1 hU.1 df_p0_0_p1_0 r_p0_0) 2 _ rfl; go_simp <;> exact rfl))⟩) ⟨_, by (simp only [Ent.val]; go_simp <;> exact rfl), ?_⟩
  refine Seg.step _ rfl (Or.inl ⟨by rfl, fun U hU => vp_quiet (by (go_simp <;> exact rfl))⟩) ⟨_, by (simp only [Ent.val]; go_simp <;> exact rfl), ?_⟩
  refine Seg.step _ rfl (Or.inl ⟨by rfl, fun U hU => vp_quiet (by (have h0 := held_cell (keep1 hU.1 df_p0_0_p1_0 r_p0_0) 2 _ rfl; go_simp <;> exact rfl))⟩) ⟨_, by (simp only [Ent.val]; go_simp <;> exact rfl), ?_⟩
  refine Seg.step _ rfl (Or.inl ⟨by rfl, fun U hU => ?_⟩) ?_
  · go_simp
    refine vp_calld (m4.out _)
  refine ⟨_, by (simp only [Ent.val]; go_simp <;> exact rfl), ?_⟩
  refine Seg.step _ rfl (Or.inl ⟨by rfl, fun U hU => vp_quiet (by (go_simp <;> exact rfl))⟩) ⟨_, by (simp only [Ent.val]; go_simp <;> exact rfl), ?_⟩
  refine Seg.step _ rfl (Or.inl ⟨by rfl, fun U hU => vp_quiet (by (go_simp <;> exact rfl))⟩) ⟨_, by (simp only [Ent.val]; go_simp <;> exact rfl), ?_⟩
  refine Seg.step _ rfl (Or.inl ⟨by rfl, fun U hU => vp_quiet (by (have h0 := held_cell (keep1 hU.1 df_p0_0_p1_0 r_p0_0) 3 _ rfl; go_simp <;> exact rfl))⟩) ⟨_, by (simp only [Ent.val]; go_simp <;> exact rfl), ?_⟩
  refine Seg.step _ rfl (Or.inl ⟨by rfl, fun U hU => vp_quiet (by (go_simp <;> exact rfl))⟩) ⟨_, by (simp only [Ent.val]; go_simp <;> exact rfl), ?_⟩
  refine Seg.step _ rfl (Or.inl ⟨by rfl, fun U hU => vp_quiet (by (have h0 := held_cell (keep1 hU.1 df_p0_0_p1_0 r_p0_0) 3 _ rfl; go_simp <;> exact rfl))⟩) ⟨_, by (simp only [Ent.val]; go_simp <;> exact rfl), ?_⟩
  refine Seg.step _ rfl (Or.inl ⟨by rfl, fun U hU => ?_⟩) ?_
  · go_simp
    refine vp_calld (m5.out _)
  refine ⟨_, by (simp only [Ent.val]; go_simp <;> exact rfl), ?_⟩
  refine Seg.step _ rfl (Or.inl ⟨by rfl, fun U hU => vp_quiet (by (go_simp <;> exact rfl))⟩) ⟨_, by (simp only [Ent.val]; go_simp <;> exact rfl), ?_⟩
  refine Seg.step _ rfl ⟨by rfl, fun U g0 o0 o1 hx hc hU hg => ?_⟩ ?_
  · have hx2 := Option.some.inj hx
    cases hx2
    have hc2 := Option.some.inj hc
    cases hc2
    clear hx hc
    go_simp
    exact vp_eff (c3.out _ _ hg)
  refine ⟨_, by (simp only [Ent.val]; go_simp <;> exact rfl), ?_⟩
  refine Seg.step _ rfl (Or.inl ⟨by rfl, fun U hU => vp_quiet (by (go_simp <;> exact rfl))⟩) ⟨_, by (simp only [Ent.val]; go_simp <;> exact rfl), ?_⟩
  refine Seg.stop (fun U7 hU hk hX => ?_)
  have rx := Seg.end1 hX (S := [.q [], .q [], .q [], .q [], .q [], .q [], .q [], .q [], .q [], .q [], .q [], .q [], .q [], .q [], .q [], .q [], .q [], .q [], .q [], .q [], .q [], .q [], .q [], .ef 0 none, .q []]) rfl 0 23 (by rfl) rfl rfl
  clear hX
  clear hk hge hne
  replace r_p0_0 := keep1 hU df_p0_0_p1_0 r_p0_0
  clear r_p1_0
  have r_p1_0 := rx
  clear rx
  replace r_p2_2 := keep1 hU (Ne.symm df_p1_0_p2_2) r_p2_2
  replace r_p4_9 := keep1 hU (Ne.symm df_p1_0_p4_9) r_p4_9
  have sz7 := keep1_size hU
  replace hB := keep1_below hB hU nc hB.size
  clear hU
  go_upto_region 7 with (fail)
  apply wp_region_seg0 (w := U7) (S := [.q [], .q [], .q [], .q [], .q [], .q [], .q [], .q []]) (E := [.q0 _, .q0 _, .q0 _, .q0 _, .c0 _, .q0 _, .q0 _, .q0 _]) rfl (by kernel_rfl) rfl rfl
  intro th hge hne
  refine Seg.step _ rfl (Or.inl ⟨by rfl, fun U hU => vp_quiet (by (go_simp <;> exact rfl))⟩) ⟨_, by (simp only [Ent.val]; go_simp <;> exact rfl), ?_⟩
  refine Seg.step _ rfl (Or.inl ⟨by rfl, fun U hU => vp_quiet (by (go_simp <;> exact rfl))⟩) ⟨_, by (simp only [Ent.val]; go_simp <;> exact rfl), ?_⟩
  refine Seg.step _ rfl (Or.inl ⟨by rfl, fun U hU => vp_quiet (by (go_simp <;> exact rfl))⟩) ⟨_, by (simp only [Ent.val]; go_simp <;> exact rfl), ?_⟩
  refine Seg.step _ rfl (Or.inl ⟨by rfl, fun U hU => vp_quiet (by (go_simp <;> exact rfl))⟩) ⟨_, by (simp only [Ent.val]; go_simp <;> exact rfl), ?_⟩
  refine Seg.step _ rfl (Or.inl ⟨by rfl, fun U hU => ?_⟩) ?_
  · go_simp
    refine vp_call (a2.out _)
  refine ⟨_, by (simp only [Ent.val]; go_simp <;> exact rfl), ?_⟩
  refine Seg.step _ rfl (Or.inl ⟨by rfl, fun U hU => vp_quiet (by (go_simp <;> exact rfl))⟩) ⟨_, by (simp only [Ent.val]; go_simp <;> exact rfl), ?_⟩
  refine Seg.step _ rfl (Or.inl ⟨by rfl, fun U hU => vp_quiet (by (go_simp <;> exact rfl))⟩) ⟨_, by (simp only [Ent.val]; go_simp <;> exact rfl), ?_⟩
  refine Seg.step _ rfl (Or.inl ⟨by rfl, fun U hU => vp_quiet (by (go_simp <;> exact rfl))⟩) ⟨_, by (simp only [Ent.val]; go_simp <;> exact rfl), ?_⟩
  refine Seg.stop (fun U8 hU hk => ?_)
  clear hk hge hne
  replace r_p0_0 := held_after hU r_p0_0
  replace r_p1_0 := held_after hU r_p1_0
  replace r_p2_2 := held_after hU r_p2_2
  replace r_p4_9 := held_after hU r_p4_9
  have sz8 := hU.size
  replace hB := bthen hB hU
  clear hU
  go_wp2_with fail
  refine bodyPost_ret (v := .tuple #[.int .i32 A1, .int .i32 A0, .int .i32 A2]) (by simp [results, Try.results21, go_sem]) rfl ⟨rfl, hB⟩

end Go.Proofs.Yticfolcpnkkidaa
