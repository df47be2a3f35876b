/- Package turn: Step. -/
import Derived.Test.YtpdpcdifnlellaaGreatTurn11
import Derived.Test.YtpdpcdifnlellaaGreatQuat6
import Derived.Test.YtpdpcdifnlellaaGreatUnit4
import Derived.Deep.DeepCutAuto
namespace Go.Proofs.YtpdpcdifnlellaaGreat
open Go.ChangeShapes Go.WideShapes Go.ChangeAt Go.RowKit
set_option maxRecDepth 100000
set_option linter.unusedVariables false

def stepR (ok : Bool) (u0 u1 u2 u3 k : Int) : Value := if ok then .tuple #[.agg #[.int .i32 u0, .int .i32 u1, .int .i32 u2, .int .i32 u3], .int .i64 k] else .tuple #[.agg #[.int .i32 1073741824, .int .i32 0, .int .i32 0, .int .i32 0], .int .i64 (k + 1)]
theorem four_set {U : World} {p : Nat} {v0 v1 v2 v3 u0 u1 u2 u3 : Value} {T : TypeId} (h : U.heap[p]? = some (.cells #[v0, v1, v2, v3] T (0, 0))) :
    ∃ W2, (((U.setCell ⟨p, 0, none⟩ u0).setCell ⟨p, 1, none⟩ u1).setCell ⟨p, 2, none⟩ u2).setCell ⟨p, 3, none⟩ u3 = W2 ∧ W2.cell? ⟨p, 0, none⟩ = some u0 ∧ W2.cell? ⟨p, 1, none⟩ = some u1 ∧ W2.cell? ⟨p, 2, none⟩ = some u2 ∧ W2.cell? ⟨p, 3, none⟩ = some u3 ∧ Only p U W2 := by
  have h1 := held_set h 0 u0
  have h2 := held_set h1 1 u1
  have h3 := held_set h2 2 u2
  have h4 := held_set h3 3 u3
  exact ⟨_, rfl, held_cell h4 0 _ rfl, held_cell h4 1 _ rfl, held_cell h4 2 _ rfl, held_cell h4 3 _ rfl, (((Only.set p 0 u0 U).then (Only.set p 1 u1 _)).then (Only.set p 2 u2 _)).then (Only.set p 3 u3 _)⟩
theorem rnd3_bd (X Y : Int) (hX : B32 X) (hY : B32 Y) : -9223372036854775808 ≤ roundS (X * Y) 3 ∧ roundS (X * Y) 3 ≤ 9223372036854775807 := by
  obtain ⟨m1, m2⟩ := mul_bd X Y hX.1 hX.2 hY.1 hY.2
  have hp : pow2 (bnd 3 62) = 8 := by decide +kernel
  unfold roundS overS
  rw [hp, if_neg (by omega)]
  have hq : qn (X * Y).natAbs (8 : Int).natAbs ≤ 4611686018427387904 := by
    unfold qn
    have : (8 : Int).natAbs = 8 := rfl
    rw [this]
    split <;> omega
  split
  · omega
  · split <;> omega
theorem eff_of {g : Nat} {w U V : World} (h : Eff g U V) (hA : After w U) (hg : g < w.heap.size) : Eff g w V :=
  ⟨h.os.trans hA.os, h.tape.trans hA.tape, h.output.trans hA.output, Nat.le_trans hA.size h.size, fun k hk hn => (h.block k (Nat.lt_of_lt_of_le hk hA.size) hn).trans (hA.block k hk)⟩
set_option maxRecDepth 100000 in
set_option maxHeartbeats 1000000 in
theorem stepf_any (n dt k : Int) (p d : Nat) (w : World) (hp : w.heap[p]? = some (ctr k)) (hd : w.heap[d]? = some (.cells #[.int .i32 dt] 21 (0, 0))) (h0 : B32 n) (h1 : B32 dt) (k0 : 0 ≤ k) (k1 : k ≤ 1000) :
    Calls Tryz.prog 84 #[.int .i32 n, .pointer (some ⟨p, 0, none⟩), .pointer (some ⟨d, 0, none⟩)] w fun e w' => e = .returned (.int .i32 (clampS (roundS (n * dt) 3))) ∧ Eff p w w' ∧ w'.heap[p]? = some (ctr (k + oneIf (clampB (roundS (n * dt) 3)))) := by
  obtain ⟨m1, m2⟩ := mul_bd n dt h0.1 h0.2 h1.1 h1.2
  obtain ⟨r1, r2⟩ := rnd3_bd n dt h0 h1
  have fm : IntKind.i64.wrap (n * dt) = n * dt := by rw [IntKind.wrap_i64]; omega
  have fn : IntKind.i64.wrap n = n := by have := h0.1; have := h0.2; rw [IntKind.wrap_i64]; omega
  have fd : IntKind.i64.wrap dt = dt := by have := h1.1; have := h1.2; rw [IntKind.wrap_i64]; omega
  have c0 := held_cell hd 0 _ rfl
  have hl := held_lt hp
  obtain ⟨P, hP⟩ : ∃ P, n * dt = P := ⟨_, rfl⟩
  rw [hP] at fm m1 m2 r1 r2 ⊢
  have kr := fun (v : World) => round_any P 3 v (by omega) (by omega)
  have kc := fun (v : World) (h : v.heap[p]? = some (ctr k)) => ccut_any (roundS P 3) k p v h r1 r2 k0 k1
  generalize roundS P 3 = R at *
  clear h0 h1 m1 m2 r1 r2 hd
  replace hp := hid hp
  go_enter Tryz.func84, Tryz.ntmps84
  go_wp2_with fail
  refine (kr _).mono ?_
  rintro e w1 ⟨rfl, j, rfl⟩
  go_wp2_with fail
  refine (kc (w.drewN j) hp.out).mono ?_
  rintro e w2 ⟨rfl, he, hc⟩
  have he2 : Eff p w w2 := ⟨he.os, he.tape, he.output, he.size, fun q hq hn => he.block q hq hn⟩
  clear he
  replace hc := hid hc
  go_wp2_with fail
  go_ret
  exact ⟨rfl, he2, hc.out⟩
set_option maxRecDepth 100000 in
set_option maxHeartbeats 8000000 in
theorem step_any (x y z t a b c d : Int) (w : World) (p0 : B32 x) (p1 : B32 y) (p2 : B32 z) (p3 : B32 t) (p4 : B32 a) (p5 : B32 b) (p6 : B32 c) (p7 : B32 d) (m0 m1 m2 m3 n : Int) (hM : mulV x y z t 1073741824 (clampS (roundS (a * d) 3)) (clampS (roundS (b * d) 3)) (clampS (roundS (c * d) 3)) = .tuple #[.agg #[.int .i32 m0, .int .i32 m1, .int .i32 m2, .int .i32 m3], .int .i64 n]) (b0 : B32 m0) (b1 : B32 m1) (b2 : B32 m2) (b3 : B32 m3) (hn : 0 ≤ n ∧ n ≤ 4) (u0 u1 u2 u3 : Int) (ok : Bool) (hU : unitT4 m0 m1 m2 m3 = .tuple #[.agg #[.int .i32 u0, .int .i32 u1, .int .i32 u2, .int .i32 u3], .bool ok]) :
    Calls Tryz.prog 62 #[.agg #[.int .i32 x, .int .i32 y, .int .i32 z, .int .i32 t], .agg #[.int .i32 a, .int .i32 b, .int .i32 c], .int .i32 d] w fun e w' => e = .returned (stepR ok u0 u1 u2 u3 (n + (oneIf (clampB (roundS (a * d) 3)) + oneIf (clampB (roundS (b * d) 3)) + oneIf (clampB (roundS (c * d) 3))))) ∧ Below w.heap.size w w' := by
  have q0 := clampS_bd13 (roundS (a * d) 3)
  have e0 := oneIf_b (clampB (roundS (a * d) 3))
  have q1 := clampS_bd13 (roundS (b * d) 3)
  have e1 := oneIf_b (clampB (roundS (b * d) 3))
  have q2 := clampS_bd13 (roundS (c * d) 3)
  have e2 := oneIf_b (clampB (roundS (c * d) 3))
  have c0 := fun (k : Int) (h0 : 0 ≤ k) (h1 : k ≤ 1000) => hid (fun (p g : Nat) (v : World) hp hd => stepf_any a d k p g v hp hd p4 p7 h0 h1)
  have c1 := fun (k : Int) (h0 : 0 ≤ k) (h1 : k ≤ 1000) => hid (fun (p g : Nat) (v : World) hp hd => stepf_any b d k p g v hp hd p5 p7 h0 h1)
  have c2 := fun (k : Int) (h0 : 0 ≤ k) (h1 : k ≤ 1000) => hid (fun (p g : Nat) (v : World) hp hd => stepf_any c d k p g v hp hd p6 p7 h0 h1)
  have kM := hid (fun (v : World) => hM ▸ qmul_any x y z t 1073741824 (clampS (roundS (a * d) 3)) (clampS (roundS (b * d) 3)) (clampS (roundS (c * d) 3)) v p0 p1 p2 p3 (by unfold B32; omega) q0 q1 q2)
  have kU := hid (fun (v : World) => hU ▸ umake_any m0 m1 m2 m3 v b0 b1 b2 b3)
  clear hM hU q0 q1 q2 p0 p1 p2 p3 p4 p5 p6 p7 b0 b1 b2 b3
  generalize clampS (roundS (a * d) 3) = s0 at *
  generalize oneIf (clampB (roundS (a * d) 3)) = o0 at *
  generalize clampS (roundS (b * d) 3) = s1 at *
  generalize oneIf (clampB (roundS (b * d) 3)) = o1 at *
  generalize clampS (roundS (c * d) 3) = s2 at *
  generalize oneIf (clampB (roundS (c * d) 3)) = o2 at *
  replace c0 := c0 (0) (by omega) (by omega)
  replace c1 := c1 (0 + o0) (by omega) (by omega)
  replace c2 := c2 (0 + o0 + o1) (by omega) (by omega)
  have f1 : IntKind.i64.wrap (n + (0 + o0 + o1 + o2)) = n + (o0 + o1 + o2) := by rw [IntKind.wrap_i64]; omega
  have f4 : IntKind.i64.wrap (n + (o0 + o1 + o2)) = n + (o0 + o1 + o2) := by rw [IntKind.wrap_i64]; omega
  have f2 : IntKind.i64.wrap (n + (o0 + o1 + o2) + 1) = n + (o0 + o1 + o2) + 1 := by rw [IntKind.wrap_i64]; omega
  have f3 : n + (0 + o0 + o1 + o2) = n + (o0 + o1 + o2) := by omega
  replace f3 := hid f3
  go_enter Tryz.func62, Tryz.ntmps62
  go_upto_region 0 with (fail)
  apply wp_region_seg0 (w := w) (S := [.al 1000, .al 1000, .al 1000, .al 1000, .q []]) (E := [.al ((fun p => .pointer (some ⟨p, 0, none⟩)), _) 1000, .al ((fun p => .pointer (some ⟨p, 0, none⟩)), _) 1000, .al ((fun p => .pointer (some ⟨p, 0, none⟩)), _) 1000, .al ((fun p => .pointer (some ⟨p, 0, none⟩)), _) 1000, .q0 _]) rfl (by kernel_rfl) rfl rfl
  intro th hge hne
  refine Seg.step _ rfl ⟨by rfl, fun U hU => ?_⟩ ?_
  · go_simp; exact vp_alloc rfl rfl rfl
  refine Seg.sa ?_
  refine Seg.step _ rfl ⟨by rfl, fun U hU => ?_⟩ ?_
  · go_simp; exact vp_alloc rfl rfl rfl
  refine Seg.sa ?_
  refine Seg.step _ rfl ⟨by rfl, fun U hU => ?_⟩ ?_
  · go_simp; exact vp_alloc rfl rfl rfl
  refine Seg.sa ?_
  refine Seg.step _ rfl ⟨by rfl, fun U hU => ?_⟩ ?_
  · go_simp; exact vp_alloc rfl rfl rfl
  refine Seg.sa ?_
  refine Seg.sq ?_
  refine Seg.stop (fun U1 hU hk => ?_)
  have nb0 := hge 0 _ _ rfl
  have rb0 := (hk 0 _ _ rfl trivial).1.2 (by simp)
  have nb1 := hge 1 _ _ rfl
  have rb1 := (hk 1 _ _ rfl trivial).1.2 (by simp)
  have nb2 := hge 2 _ _ rfl
  have rb2 := (hk 2 _ _ rfl trivial).1.2 (by simp)
  have nb3 := hge 3 _ _ rfl
  have rb3 := (hk 3 _ _ rfl trivial).1.2 (by simp)
  have ne0_1 := hne 0 1 _ _ _ _ rfl rfl (by omega)
  have ne0_2 := hne 0 2 _ _ _ _ rfl rfl (by omega)
  have ne1_2 := hne 1 2 _ _ _ _ rfl rfl (by omega)
  have ne0_3 := hne 0 3 _ _ _ _ rfl rfl (by omega)
  have ne1_3 := hne 1 3 _ _ _ _ rfl rfl (by omega)
  have ne2_3 := hne 2 3 _ _ _ _ rfl rfl (by omega)
  clear hk hge hne
  generalize th (0 + 0) = p0_0 at *
  dsimp only at rb0
  generalize th (0 + 1) = p0_1 at *
  dsimp only at rb1
  generalize th (0 + 2) = p0_2 at *
  dsimp only at rb2
  generalize th (0 + 3) = p0_3 at *
  dsimp only at rb3
  have r_p0_0 := rb0
  clear rb0
  have n_p0_0 := nb0
  clear nb0
  have d_p0_0_p0_1 := ne0_1
  clear ne0_1
  have d_p0_0_p0_2 := ne0_2
  clear ne0_2
  have d_p0_0_p0_3 := ne0_3
  clear ne0_3
  have r_p0_1 := rb1
  clear rb1
  have n_p0_1 := nb1
  clear nb1
  have d_p0_1_p0_2 := ne1_2
  clear ne1_2
  have d_p0_1_p0_3 := ne1_3
  clear ne1_3
  have r_p0_2 := rb2
  clear rb2
  have n_p0_2 := nb2
  clear nb2
  have d_p0_2_p0_3 := ne2_3
  clear ne2_3
  have r_p0_3 := rb3
  clear rb3
  have n_p0_3 := nb3
  clear nb3
  have sz1 := hU.size
  have hB : Below w.heap.size w U1 := hU
  clear hU
  go_upto_region 1 with (fail)
  apply wp_region_seg0 (w := U1) (S := [.al 1000]) (E := [.al ((fun p => .pointer (some ⟨p, 0, none⟩)), _) 1000]) rfl (by kernel_rfl) rfl rfl
  intro th hge hne
  refine Seg.step _ rfl ⟨by rfl, fun U hU => ?_⟩ ?_
  · go_simp; exact vp_alloc rfl rfl rfl
  refine Seg.sa ?_
  refine Seg.stop (fun U2 hU hk => ?_)
  have nb0 := hge 0 _ _ rfl
  have rb0 := (hk 0 _ _ rfl trivial).1.2 (by simp)
  clear hk hge hne
  generalize th (0 + 0) = p1_0 at *
  dsimp only at rb0
  have df_p0_0_p1_0 : p0_0 ≠ p1_0 := by have := held_lt r_p0_0; omega
  have df_p0_1_p1_0 : p0_1 ≠ p1_0 := by have := held_lt r_p0_1; omega
  have df_p0_2_p1_0 : p0_2 ≠ p1_0 := by have := held_lt r_p0_2; omega
  have df_p0_3_p1_0 : p0_3 ≠ p1_0 := by have := held_lt r_p0_3; omega
  replace r_p0_0 := held_after hU r_p0_0
  replace r_p0_1 := held_after hU r_p0_1
  replace r_p0_2 := held_after hU r_p0_2
  replace r_p0_3 := held_after hU r_p0_3
  have r_p1_0 := rb0
  clear rb0
  have n_p1_0 := nb0
  clear nb0
  have sz2 := hU.size
  replace hB := bthen hB hU
  clear hU
  go_upto_region 3 with (fail)
  have nc : w.heap.size ≤ p1_0 := Nat.le_trans sz1 n_p1_0
  apply wp_region_segX (w := U2) (S := [.q [], .q [], .q [], .q [], .ef 0 none, .q [], .q [], .q [], .ef 0 (some 4), .q [], .q [], .q [], .ef 0 (some 8), .q [], .q [], .q [], .q [], .q [], .al 19, .st 18 [], .q []]) (E := [.q0 _, .q0 _, .q0 _, .q0 _, .ef 0 none _ _, .q0 _, .q0 _, .q0 _, .ef 0 (some 4) _ _, .q0 _, .q0 _, .q0 _, .ef 0 (some 8) _ _, .q0 _, .c0 _, .q0 _, .q0 _, .q0 _, .al ((fun p => .pointer (some ⟨p, 0, none⟩)), _) 19, .s0 18 (.cells _ _), .q0 _]) [(p1_0, _)] (by kernel_rfl) rfl (by kernel_rfl) rfl (x1_w r_p1_0) x1_d (x1_e (S := [.q [], .q [], .q [], .q [], .ef 0 none, .q [], .q [], .q [], .ef 0 (some 4), .q [], .q [], .q [], .ef 0 (some 8), .q [], .q [], .q [], .q [], .q [], .al 19, .st 18 [], .q []]) rfl rfl)
  intro th hge hne
  refine Seg.sq ?_ (ht := Or.inl ⟨by rfl, fun U hU => vp_quiet (by (have h0 := held_cell (keep1 hU.1 df_p0_0_p1_0 r_p0_0) 0 _ rfl; have h1 := held_cell (keep1 hU.1 df_p0_0_p1_0 r_p0_0) 1 _ rfl; have h2 := held_cell (keep1 hU.1 df_p0_0_p1_0 r_p0_0) 2 _ rfl; have h3 := held_cell (keep1 hU.1 df_p0_0_p1_0 r_p0_0) 3 _ rfl; go_simp <;> exact rfl))⟩)
  refine Seg.sq ?_
  refine Seg.sq ?_
  refine Seg.sq ?_ (ht := Or.inl ⟨by rfl, fun U hU => vp_quiet (by (have h0 := held_cell (keep1 hU.1 df_p0_1_p1_0 r_p0_1) 0 _ rfl; go_simp <;> exact rfl))⟩)
  refine Seg.step _ rfl ⟨by rfl, fun U g0 o0 o1 hx hc hU hg => ?_⟩ ?_
  · have hx2 := Option.some.inj hx
    cases hx2
    have hc2 := Option.some.inj hc
    cases hc2
    clear hx hc
    go_simp
    exact vp_eff (c0.out p1_0 p0_2 _ hg (keep1 hU.1 df_p0_2_p1_0 r_p0_2))
  refine Seg.sa ?_
  refine Seg.sq ?_
  refine Seg.sq ?_
  refine Seg.sq ?_ (ht := Or.inl ⟨by rfl, fun U hU => vp_quiet (by (have h0 := held_cell (keep1 hU.1 df_p0_1_p1_0 r_p0_1) 1 _ rfl; go_simp <;> exact rfl))⟩)
  refine Seg.step _ rfl ⟨by rfl, fun U g0 o0 o1 hx hc hU hg => ?_⟩ ?_
  · have hx2 := Option.some.inj hx
    cases hx2
    have hc2 := Option.some.inj hc
    cases hc2
    clear hx hc
    go_simp
    exact vp_eff (c1.out p1_0 p0_2 _ hg (keep1 hU.1 df_p0_2_p1_0 r_p0_2))
  refine Seg.sa ?_
  refine Seg.sq ?_
  refine Seg.sq ?_
  refine Seg.sq ?_ (ht := Or.inl ⟨by rfl, fun U hU => vp_quiet (by (have h0 := held_cell (keep1 hU.1 df_p0_1_p1_0 r_p0_1) 2 _ rfl; go_simp <;> exact rfl))⟩)
  refine Seg.step _ rfl ⟨by rfl, fun U g0 o0 o1 hx hc hU hg => ?_⟩ ?_
  · have hx2 := Option.some.inj hx
    cases hx2
    have hc2 := Option.some.inj hc
    cases hc2
    clear hx hc
    go_simp
    exact vp_eff (c2.out p1_0 p0_2 _ hg (keep1 hU.1 df_p0_2_p1_0 r_p0_2))
  refine Seg.sa ?_
  refine Seg.sq ?_
  refine Seg.step _ rfl (Or.inl ⟨by rfl, fun U hU => ?_⟩) ?_
  · go_simp
    refine vp_call (kM.out _)
  refine Seg.sa ?_
  iterate 3 refine Seg.sq ?_
  refine Seg.step _ rfl ⟨by rfl, fun U hU => ?_⟩ ?_
  · go_simp; exact vp_alloc rfl rfl rfl
  refine Seg.sa ?_
  refine Seg.step _ rfl ⟨by rfl, fun U z k hz hU hc => ?_⟩ ?_
  · have hz2 := Option.some.inj hz
    cases hz2; clear hz
    exact vp_store_agg _ _ _ rfl hc rfl rfl (by kernel_rfl) rfl (by rfl)
  refine Seg.sa ?_
  refine Seg.sq ?_
  refine Seg.stop (fun U3 hU hk hX => ?_)
  have nb18 := hge 18 _ _ rfl
  have rb18 := (hk 18 _ 19 rfl trivial).1.1 trivial _ (Nat.zero_le _) rfl
  have rx := Seg.end1 hX (S := [.q [], .q [], .q [], .q [], .ef 0 none, .q [], .q [], .q [], .ef 0 (some 4), .q [], .q [], .q [], .ef 0 (some 8), .q [], .q [], .q [], .q [], .q [], .al 19, .st 18 [], .q []]) rfl 0 12 (by rfl) rfl rfl
  clear hX
  clear hk hge hne
  generalize th (0 + 18) = p3_18 at *
  simp only [Ent.obj] at rb18
  have df_p0_0_p3_18 : p0_0 ≠ p3_18 := by have := held_lt r_p0_0; omega
  have df_p0_1_p3_18 : p0_1 ≠ p3_18 := by have := held_lt r_p0_1; omega
  have df_p0_2_p3_18 : p0_2 ≠ p3_18 := by have := held_lt r_p0_2; omega
  have df_p0_3_p3_18 : p0_3 ≠ p3_18 := by have := held_lt r_p0_3; omega
  have df_p1_0_p3_18 : p1_0 ≠ p3_18 := by have := held_lt r_p1_0; omega
  replace r_p0_0 := keep1 hU df_p0_0_p1_0 r_p0_0
  replace r_p0_1 := keep1 hU df_p0_1_p1_0 r_p0_1
  replace r_p0_2 := keep1 hU df_p0_2_p1_0 r_p0_2
  replace r_p0_3 := keep1 hU df_p0_3_p1_0 r_p0_3
  clear r_p1_0
  have r_p1_0 := rx
  clear rx
  have r_p3_18 := rb18
  clear rb18
  have n_p3_18 := nb18
  clear nb18
  have sz3 := keep1_size hU
  replace hB := keep1_below hB hU nc hB.size
  clear hU
  go_upto_region 4 with (fail)
  apply wp_region_seg0 (w := U3) (S := [.q [], .q [], .q [], .q [], .q []]) (E := [.q0 _, .q0 _, .q0 _, .q0 _, .q0 _]) rfl (by kernel_rfl) rfl rfl
  intro th hge hne
  refine Seg.sq ?_
  refine Seg.sq ?_
  refine Seg.sq ?_ (ht := Or.inl ⟨by rfl, fun U hU => vp_quiet (by (have h0 := held_cell (held_after hU.1 r_p1_0) 0 _ rfl; go_simp <;> exact rfl))⟩)
  refine Seg.sq ?_
  refine Seg.sq ?_
  refine Seg.stop (fun U4 hU hk => ?_)
  clear hk hge hne
  replace r_p0_0 := held_after hU r_p0_0
  replace r_p0_1 := held_after hU r_p0_1
  replace r_p0_2 := held_after hU r_p0_2
  replace r_p0_3 := held_after hU r_p0_3
  replace r_p1_0 := held_after hU r_p1_0
  replace r_p3_18 := held_after hU r_p3_18
  have sz4 := hU.size
  replace hB := bthen hB hU
  clear hU
  go_upto_region 5 with (fail)
  apply wp_region_seg0 (w := U4) (S := [.q [], .q [], .q [], .q [], .q [], .al 6, .st 5 [], .q []]) (E := [.q0 _, .c0 _, .q0 _, .q0 _, .q0 _, .al ((fun p => .pointer (some ⟨p, 0, none⟩)), _) 6, .s0 5 (.cells _ _), .q0 _]) rfl (by kernel_rfl) rfl rfl
  intro th hge hne
  refine Seg.sq ?_ (ht := Or.inl ⟨by rfl, fun U hU => vp_quiet (by (have h0 := held_cell (held_after hU.1 r_p3_18) 0 _ rfl; have h1 := held_cell (held_after hU.1 r_p3_18) 1 _ rfl; have h2 := held_cell (held_after hU.1 r_p3_18) 2 _ rfl; have h3 := held_cell (held_after hU.1 r_p3_18) 3 _ rfl; go_simp <;> exact rfl))⟩)
  refine Seg.step _ rfl (Or.inl ⟨by rfl, fun U hU => ?_⟩) ?_
  · go_simp
    refine vp_call (kU.out _)
  refine Seg.sa ?_
  iterate 3 refine Seg.sq ?_
  refine Seg.step _ rfl ⟨by rfl, fun U hU => ?_⟩ ?_
  · go_simp; exact vp_alloc rfl rfl rfl
  refine Seg.sa ?_
  refine Seg.step _ rfl ⟨by rfl, fun U z k hz hU hc => ?_⟩ ?_
  · have hz2 := Option.some.inj hz
    cases hz2; clear hz
    exact vp_store_agg _ _ _ rfl hc rfl rfl (by kernel_rfl) rfl (by rfl)
  refine Seg.sa ?_
  refine Seg.sq ?_
  refine Seg.stop (fun U5 hU hk => ?_)
  have nb5 := hge 5 _ _ rfl
  have rb5 := (hk 5 _ 6 rfl trivial).1.1 trivial _ (Nat.zero_le _) rfl
  clear hk hge hne
  generalize th (0 + 5) = p5_5 at *
  simp only [Ent.obj] at rb5
  have df_p0_0_p5_5 : p0_0 ≠ p5_5 := by have := held_lt r_p0_0; omega
  have df_p0_1_p5_5 : p0_1 ≠ p5_5 := by have := held_lt r_p0_1; omega
  have df_p0_2_p5_5 : p0_2 ≠ p5_5 := by have := held_lt r_p0_2; omega
  have df_p0_3_p5_5 : p0_3 ≠ p5_5 := by have := held_lt r_p0_3; omega
  have df_p1_0_p5_5 : p1_0 ≠ p5_5 := by have := held_lt r_p1_0; omega
  have df_p3_18_p5_5 : p3_18 ≠ p5_5 := by have := held_lt r_p3_18; omega
  replace r_p0_0 := held_after hU r_p0_0
  replace r_p0_1 := held_after hU r_p0_1
  replace r_p0_2 := held_after hU r_p0_2
  replace r_p0_3 := held_after hU r_p0_3
  replace r_p1_0 := held_after hU r_p1_0
  replace r_p3_18 := held_after hU r_p3_18
  have r_p5_5 := rb5
  clear rb5
  have n_p5_5 := nb5
  clear nb5
  have sz5 := hU.size
  replace hB := bthen hB hU
  clear hU
  go_upto_region 6 with (fail)
  have y0 := held_cell r_p5_5 0 _ rfl
  have y1 := held_cell r_p5_5 1 _ rfl
  have y2 := held_cell r_p5_5 2 _ rfl
  have y3 := held_cell r_p5_5 3 _ rfl
  cases ok
  case false =>
    go_wp2_with fail
    refine (qone_any _).mono ?_
    rintro e V ⟨rfl, hst⟩
    have hB3 := bthen hB hst
    have r9 := held_below r_p0_3 hst
    have z0 := held_cell r9 0 _ rfl
    have g0 := held_free r9 0
    have z1 := held_cell r9 1 _ rfl
    have g1 := held_free r9 1
    have z2 := held_cell r9 2 _ rfl
    have g2 := held_free r9 2
    have z3 := held_cell r9 3 _ rfl
    have g3 := held_free r9 3
    obtain ⟨W5, hW5, x0, x1, x2, x3, xO⟩ := four_set (u0 := .int .i32 1073741824) (u1 := .int .i32 0) (u2 := .int .i32 0) (u3 := .int .i32 0) r9
    have hB5 := hid (belowO hB3 xO n_p0_3)
    clear xO hB hB3 hst
    go_wp2_with fail
    refine bodyPost_ret (v := .tuple #[.agg #[.int .i32 1073741824, .int .i32 0, .int .i32 0, .int .i32 0], .int .i64 (n + (o0 + o1 + o2) + 1)]) (by simp [results, Tryz.results62, go_sem, x0, x1, x2, x3]) rfl ⟨rfl, hB5.out⟩
  case true =>
    have z0 := held_cell r_p0_3 0 _ rfl
    have g0 := held_free r_p0_3 0
    have z1 := held_cell r_p0_3 1 _ rfl
    have g1 := held_free r_p0_3 1
    have z2 := held_cell r_p0_3 2 _ rfl
    have g2 := held_free r_p0_3 2
    have z3 := held_cell r_p0_3 3 _ rfl
    have g3 := held_free r_p0_3 3
    obtain ⟨W5, hW5, x0, x1, x2, x3, xO⟩ := four_set (u0 := .int .i32 u0) (u1 := .int .i32 u1) (u2 := .int .i32 u2) (u3 := .int .i32 u3) r_p0_3
    have hB5 := hid (belowO hB xO n_p0_3)
    clear xO hB
    go_wp2_with fail
    refine bodyPost_ret (v := .tuple #[.agg #[.int .i32 u0, .int .i32 u1, .int .i32 u2, .int .i32 u3], .int .i64 (n + (o0 + o1 + o2))]) (by simp [results, Tryz.results62, go_sem, x0, x1, x2, x3]) rfl ⟨rfl, hB5.out⟩

end Go.Proofs.YtpdpcdifnlellaaGreat
