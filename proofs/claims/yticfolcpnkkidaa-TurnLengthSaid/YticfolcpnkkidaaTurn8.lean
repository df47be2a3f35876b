/- Package turn: Rotate. -/
import Derived.Test.YticfolcpnkkidaaTurn2
import Derived.Test.YticfolcpnkkidaaTurn4
import Derived.Test.YticfolcpnkkidaaRegionT
import Derived.Deep.DeepCutAuto
namespace Go.Proofs.Yticfolcpnkkidaa
open Go.ChangeShapes Go.WideShapes Go.ChangeAt Go.RowKit
set_option linter.unusedVariables false

/-- What comes out, of the first three numbers, cut. -/
def rotQ (x y z t a b c s0 s1 s2 o0 o1 o2 : Int) : Value := .tuple #[.agg #[.int .i32 (clampS (a + roundS (x * s0) 30 + (roundS (z * s2) 30 - roundS (t * s1) 30))), .int .i32 (clampS (b + roundS (x * s1) 30 + (roundS (t * s0) 30 - roundS (y * s2) 30))), .int .i32 (clampS (c + roundS (x * s2) 30 + (roundS (y * s1) 30 - roundS (z * s0) 30)))], .int .i64 (0 + o0 + o1 + o2 + oneIf (clampB (a + roundS (x * s0) 30 + (roundS (z * s2) 30 - roundS (t * s1) 30))) + oneIf (clampB (b + roundS (x * s1) 30 + (roundS (t * s0) 30 - roundS (y * s2) 30))) + oneIf (clampB (c + roundS (x * s2) 30 + (roundS (y * s1) 30 - roundS (z * s0) 30))))]
def rotV (x y z t a b c : Int) : Value := rotQ x y z t a b c (clampS (2 * (roundS (z * c) 30 - roundS (t * b) 30))) (clampS (2 * (roundS (t * a) 30 - roundS (y * c) 30))) (clampS (2 * (roundS (y * b) 30 - roundS (z * a) 30))) (oneIf (clampB (2 * (roundS (z * c) 30 - roundS (t * b) 30)))) (oneIf (clampB (2 * (roundS (t * a) 30 - roundS (y * c) 30)))) (oneIf (clampB (2 * (roundS (y * b) 30 - roundS (z * a) 30))))
theorem clampS_bd13 (n : Int) : B32 (clampS n) := by unfold clampS B32; split <;> (try split) <;> omega
theorem one_set {U : World} {p : Nat} {c : Array Value} {T : TypeId} (h : U.heap[p]? = some (.cells c T (0, 0))) (j : Nat) (v : Value) : ∃ W2, U.setCell ⟨p, j, none⟩ v = W2 ∧ W2.heap[p]? = some (.cells (c.setIfInBounds j v) T (0, 0)) ∧ Only p U W2 :=
  ⟨_, rfl, held_set h j v, Only.set p j v U⟩
theorem three_set {U : World} {p : Nat} {v0 v1 v2 u0 u1 u2 : Value} {T : TypeId} (h : U.heap[p]? = some (.cells #[v0, v1, v2] T (0, 0))) :
    ∃ W2, ((U.setCell ⟨p, 0, none⟩ u0).setCell ⟨p, 1, none⟩ u1).setCell ⟨p, 2, none⟩ u2 = W2 ∧ W2.cell? ⟨p, 0, none⟩ = some u0 ∧ W2.cell? ⟨p, 1, none⟩ = some u1 ∧ W2.cell? ⟨p, 2, none⟩ = some u2 ∧ Only p U W2 := by
  have h1 := held_set h 0 u0
  have h2 := held_set h1 1 u1
  have h3 := held_set h2 2 u2
  exact ⟨_, rfl, held_cell h3 0 _ rfl, held_cell h3 1 _ rfl, held_cell h3 2 _ rfl, ((Only.set p 0 u0 U).then (Only.set p 1 u1 _)).then (Only.set p 2 u2 _)⟩
theorem held_below {w w' : World} {p : Nat} {o : Obj} (h : w.heap[p]? = some o) (hb : Below w.heap.size w w') : w'.heap[p]? = some o := by
  rw [hb.block p (held_lt h)]; exact h
theorem held_eff {w w' : World} {p g : Nat} {o : Obj} (h : w.heap[p]? = some o) (hb : Eff g w w') (hn : p ≠ g) : w'.heap[p]? = some o := by
  rw [hb.block p (held_lt h) hn]; exact h
theorem below_eff {B g : Nat} {w A V : World} (hb : Below B w A) (he : Eff g A V) (hg : B ≤ g) (hA : B ≤ A.heap.size) : Below B w V :=
  hb.trans ⟨he.os, he.tape, he.output, he.size, fun k hk => he.block k (by omega) (by omega)⟩
theorem heldO {w w' : World} {p q : Nat} {o : Obj} (hO : Only p w w') (hne : q ≠ p) (h : w.heap[q]? = some o) : w'.heap[q]? = some o := by rw [hO.block q hne]; exact h
theorem belowO {B : Nat} {w0 w w' : World} {p : Nat} (h : Below B w0 w) (hO : Only p w w') (hp : B ≤ p) : Below B w0 w' := h.trans ⟨hO.os, hO.tape, hO.output, by rw [hO.size]; exact Nat.le_refl _, fun k hk => hO.block k (by omega)⟩
set_option maxRecDepth 100000 in
set_option maxHeartbeats 16000000 in
theorem rotate_any (x y z t a b c : Int) (w : World) (p0 : B32 x) (p1 : B32 y) (p2 : B32 z) (p3 : B32 t) (p4 : B32 a) (p5 : B32 b) (p6 : B32 c) :
    Calls Try.prog 9 #[.agg #[.int .i32 x, .int .i32 y, .int .i32 z, .int .i32 t], .agg #[.int .i32 a, .int .i32 b, .int .i32 c]] w fun e w' => e = .returned (rotV x y z t a b c) ∧ Below w.heap.size w w' := by
  have hc := hid (fun (v : World) => cross_any y z t a b c v)
  unfold rotV rotQ
  have m0 := rnd30_bd z c p2 p6
  have m1 := rnd30_bd t b p3 p5
  have k0 := hid (fun (p q : Nat) (v : World) hp hq => crossf0_any y z t a b c p q v hp hq p1 p2 p3 p4 p5 p6)
  generalize hR0 : (roundS (z * c) 30 - roundS (t * b) 30) = R0 at *
  have fm0 : IntKind.i64.wrap (2 * R0) = 2 * R0 := by rw [IntKind.wrap_i64]; omega
  have c0 := hid (fun (p : Nat) (v : World) (h : v.heap[p]? = some (ctr (0))) => ccut_any (2 * R0) (0) p v h (by omega) (by omega) (by omega) (by omega))
  have u0 := oneIf_b (clampB (2 * R0))
  clear hR0 m0 m1
  have q0 := clampS_bd13 (2 * R0)
  generalize clampS (2 * R0) = s0 at *
  generalize oneIf (clampB (2 * R0)) = o0 at *
  have m0 := rnd30_bd t a p3 p4
  have m1 := rnd30_bd y c p1 p6
  have k1 := hid (fun (p q : Nat) (v : World) hp hq => crossf1_any y z t a b c p q v hp hq p1 p2 p3 p4 p5 p6)
  generalize hR0 : (roundS (t * a) 30 - roundS (y * c) 30) = R1 at *
  have fm1 : IntKind.i64.wrap (2 * R1) = 2 * R1 := by rw [IntKind.wrap_i64]; omega
  have c1 := hid (fun (p : Nat) (v : World) (h : v.heap[p]? = some (ctr (0 + o0))) => ccut_any (2 * R1) (0 + o0) p v h (by omega) (by omega) (by omega) (by omega))
  have u1 := oneIf_b (clampB (2 * R1))
  clear hR0 m0 m1
  have q1 := clampS_bd13 (2 * R1)
  generalize clampS (2 * R1) = s1 at *
  generalize oneIf (clampB (2 * R1)) = o1 at *
  have m0 := rnd30_bd y b p1 p5
  have m1 := rnd30_bd z a p2 p4
  have k2 := hid (fun (p q : Nat) (v : World) hp hq => crossf2_any y z t a b c p q v hp hq p1 p2 p3 p4 p5 p6)
  generalize hR0 : (roundS (y * b) 30 - roundS (z * a) 30) = R2 at *
  have fm2 : IntKind.i64.wrap (2 * R2) = 2 * R2 := by rw [IntKind.wrap_i64]; omega
  have c2 := hid (fun (p : Nat) (v : World) (h : v.heap[p]? = some (ctr (0 + o0 + o1))) => ccut_any (2 * R2) (0 + o0 + o1) p v h (by omega) (by omega) (by omega) (by omega))
  have u2 := oneIf_b (clampB (2 * R2))
  clear hR0 m0 m1
  have q2 := clampS_bd13 (2 * R2)
  generalize clampS (2 * R2) = s2 at *
  generalize oneIf (clampB (2 * R2)) = o2 at *
  have hc2 := hid (fun (v : World) => cross_any y z t s0 s1 s2 v)
  have m0 := rnd30_bd z s2 p2 q2
  have m1 := rnd30_bd t s1 p3 q1
  have m2 := rnd30_bd x s0 p0 q0
  have k3 := hid (fun (p q : Nat) (v : World) hp hq => crossf0_any y z t s0 s1 s2 p q v hp hq p1 p2 p3 q0 q1 q2)
  have j0 := hid (fun (v : World) => tprod_any x s0 v p0 q0)
  have bi := p4
  unfold B32 at bi
  generalize hR0 : (roundS (z * s2) 30 - roundS (t * s1) 30) = R3 at *
  generalize hP0 : roundS (x * s0) 30 = P0 at *
  have g0 : IntKind.i64.wrap (a + P0) = a + P0 := by rw [IntKind.wrap_i64]; omega
  have h0 : IntKind.i64.wrap (a + P0 + R3) = a + P0 + R3 := by rw [IntKind.wrap_i64]; omega
  have e0 : IntKind.i64.wrap a = a := by rw [IntKind.wrap_i64]; omega
  have c3 := hid (fun (p : Nat) (v : World) (h : v.heap[p]? = some (ctr (0 + o0 + o1 + o2))) => ccut_any (a + P0 + R3) (0 + o0 + o1 + o2) p v h (by omega) (by omega) (by omega) (by omega))
  have u3 := oneIf_b (clampB (a + P0 + R3))
  clear hR0 hP0 m0 m1 m2 bi
  generalize clampS (a + P0 + R3) = v0 at *
  generalize oneIf (clampB (a + P0 + R3)) = o3 at *
  have m0 := rnd30_bd t s0 p3 q0
  have m1 := rnd30_bd y s2 p1 q2
  have m2 := rnd30_bd x s1 p0 q1
  have k4 := hid (fun (p q : Nat) (v : World) hp hq => crossf1_any y z t s0 s1 s2 p q v hp hq p1 p2 p3 q0 q1 q2)
  have j1 := hid (fun (v : World) => tprod_any x s1 v p0 q1)
  have bi := p5
  unfold B32 at bi
  generalize hR0 : (roundS (t * s0) 30 - roundS (y * s2) 30) = R4 at *
  generalize hP0 : roundS (x * s1) 30 = P1 at *
  have g1 : IntKind.i64.wrap (b + P1) = b + P1 := by rw [IntKind.wrap_i64]; omega
  have h1 : IntKind.i64.wrap (b + P1 + R4) = b + P1 + R4 := by rw [IntKind.wrap_i64]; omega
  have e1 : IntKind.i64.wrap b = b := by rw [IntKind.wrap_i64]; omega
  have c4 := hid (fun (p : Nat) (v : World) (h : v.heap[p]? = some (ctr (0 + o0 + o1 + o2 + o3))) => ccut_any (b + P1 + R4) (0 + o0 + o1 + o2 + o3) p v h (by omega) (by omega) (by omega) (by omega))
  have u4 := oneIf_b (clampB (b + P1 + R4))
  clear hR0 hP0 m0 m1 m2 bi
  generalize clampS (b + P1 + R4) = v1 at *
  generalize oneIf (clampB (b + P1 + R4)) = o4 at *
  have m0 := rnd30_bd y s1 p1 q1
  have m1 := rnd30_bd z s0 p2 q0
  have m2 := rnd30_bd x s2 p0 q2
  have k5 := hid (fun (p q : Nat) (v : World) hp hq => crossf2_any y z t s0 s1 s2 p q v hp hq p1 p2 p3 q0 q1 q2)
  have j2 := hid (fun (v : World) => tprod_any x s2 v p0 q2)
  have bi := p6
  unfold B32 at bi
  generalize hR0 : (roundS (y * s1) 30 - roundS (z * s0) 30) = R5 at *
  generalize hP0 : roundS (x * s2) 30 = P2 at *
  have g2 : IntKind.i64.wrap (c + P2) = c + P2 := by rw [IntKind.wrap_i64]; omega
  have h2 : IntKind.i64.wrap (c + P2 + R5) = c + P2 + R5 := by rw [IntKind.wrap_i64]; omega
  have e2 : IntKind.i64.wrap c = c := by rw [IntKind.wrap_i64]; omega
  have c5 := hid (fun (p : Nat) (v : World) (h : v.heap[p]? = some (ctr (0 + o0 + o1 + o2 + o3 + o4))) => ccut_any (c + P2 + R5) (0 + o0 + o1 + o2 + o3 + o4) p v h (by omega) (by omega) (by omega) (by omega))
  have u5 := oneIf_b (clampB (c + P2 + R5))
  clear hR0 hP0 m0 m1 m2 bi
  generalize clampS (c + P2 + R5) = v2 at *
  generalize oneIf (clampB (c + P2 + R5)) = o5 at *
  clear u0 u1 u2 u3 u4 u5 p0 p1 p2 p3 p4 p5 p6 q0 q1 q2
  go_enter Try.func9, Try.ntmps9
  go_upto_region 0 with (fail)
  apply wp_region_seg0 (w := w) (S := [.al 1000, .al 1000, .al 1000, .q []]) (E := [.al ((fun p => .pointer (some ⟨p, 0, none⟩)), _) 1000, .al ((fun p => .pointer (some ⟨p, 0, none⟩)), _) 1000, .al ((fun p => .pointer (some ⟨p, 0, none⟩)), _) 1000, .q0 _]) rfl (by kernel_rfl) rfl rfl
  intro th hge hne
  refine Seg.step _ rfl ⟨by rfl, fun U hU => ?_⟩ ?_
  · go_simp; exact vp_alloc rfl rfl rfl
  refine ⟨_, by (simp only [Ent.val]; go_simp <;> exact rfl), ?_⟩
  refine Seg.step _ rfl ⟨by rfl, fun U hU => ?_⟩ ?_
  · go_simp; exact vp_alloc rfl rfl rfl
  refine ⟨_, by (simp only [Ent.val]; go_simp <;> exact rfl), ?_⟩
  refine Seg.step _ rfl ⟨by rfl, fun U hU => ?_⟩ ?_
  · go_simp; exact vp_alloc rfl rfl rfl
  refine ⟨_, by (simp only [Ent.val]; go_simp <;> exact rfl), ?_⟩
  refine Seg.step _ rfl (Or.inl ⟨by rfl, fun U hU => vp_quiet (by (go_simp <;> exact rfl))⟩) ⟨_, by (simp only [Ent.val]; go_simp <;> exact rfl), ?_⟩
  refine Seg.stop (fun U1 hU hk => ?_)
  have nb0 := hge 0 _ _ rfl
  have rb0 := (hk 0 _ _ rfl trivial).1.2 (by simp)
  have nb1 := hge 1 _ _ rfl
  have rb1 := (hk 1 _ _ rfl trivial).1.2 (by simp)
  have nb2 := hge 2 _ _ rfl
  have rb2 := (hk 2 _ _ rfl trivial).1.2 (by simp)
  have ne0_1 := hne 0 1 _ _ _ _ rfl rfl (by omega)
  have ne0_2 := hne 0 2 _ _ _ _ rfl rfl (by omega)
  have ne1_2 := hne 1 2 _ _ _ _ rfl rfl (by omega)
  clear hk hge hne
  generalize th (0 + 0) = p0_0 at *
  dsimp only at rb0
  generalize th (0 + 1) = p0_1 at *
  dsimp only at rb1
  generalize th (0 + 2) = p0_2 at *
  dsimp only at rb2
  have r_p0_0 := rb0
  clear rb0
  have n_p0_0 := nb0
  clear nb0
  have d_p0_0_p0_1 := ne0_1
  clear ne0_1
  have d_p0_0_p0_2 := ne0_2
  clear ne0_2
  have r_p0_1 := rb1
  clear rb1
  have n_p0_1 := nb1
  clear nb1
  have d_p0_1_p0_2 := ne1_2
  clear ne1_2
  have r_p0_2 := rb2
  clear rb2
  have n_p0_2 := nb2
  clear nb2
  have sz1 := hU.size
  have hB : Below w.heap.size w U1 := hU
  clear hU
  go_upto_region 1 with (fail)
  apply wp_region_seg0 (w := U1) (S := [.al 1000]) (E := [.al ((fun p => .pointer (some ⟨p, 0, none⟩)), _) 1000]) rfl (by kernel_rfl) rfl rfl
  intro th hge hne
  refine Seg.step _ rfl ⟨by rfl, fun U hU => ?_⟩ ?_
  · go_simp; exact vp_alloc rfl rfl rfl
  refine ⟨_, by (simp only [Ent.val]; go_simp <;> exact rfl), ?_⟩
  refine Seg.stop (fun U2 hU hk => ?_)
  have nb0 := hge 0 _ _ rfl
  have rb0 := (hk 0 _ _ rfl trivial).1.2 (by simp)
  clear hk hge hne
  generalize th (0 + 0) = p1_0 at *
  dsimp only at rb0
  have df_p0_0_p1_0 : p0_0 ≠ p1_0 := by have := held_lt r_p0_0; omega
  have df_p0_1_p1_0 : p0_1 ≠ p1_0 := by have := held_lt r_p0_1; omega
  have df_p0_2_p1_0 : p0_2 ≠ p1_0 := by have := held_lt r_p0_2; omega
  replace r_p0_0 := held_after hU r_p0_0
  replace r_p0_1 := held_after hU r_p0_1
  replace r_p0_2 := held_after hU r_p0_2
  have r_p1_0 := rb0
  clear rb0
  have n_p1_0 := nb0
  clear nb0
  have sz2 := hU.size
  replace hB := bthen hB hU
  clear hU
  go_upto_region 2 with (fail)
  apply wp_region_seg (w := U2) (S := [.q [], .q [], .q [], .q [], .q [], .q [], .q [], .q [], .q [], .q [], .q [], .q [], .q [], .q [], .al 16, .al 17, .st 14 [], .st 15 []]) (E := [.q0 _, .q0 _, .q0 _, .q0 _, .q0 _, .q0 _, .q0 _, .q0 _, .q0 _, .q0 _, .q0 _, .q0 _, .q0 _, .q0 _, .al ((fun p => .pointer (some ⟨p, 0, none⟩)), _) 16, .al ((fun p => .pointer (some ⟨p, 0, none⟩)), _) 17, .s0 14 (.cells _ _), .s0 15 (.cells _ _)]) (by kernel_rfl) rfl (by kernel_rfl) rfl rfl
  intro th hge hne
  refine Seg.step _ rfl (Or.inl ⟨by rfl, fun U hU => vp_quiet (by (go_simp <;> exact rfl))⟩) ⟨_, by (simp only [Ent.val]; go_simp <;> exact rfl), ?_⟩
  refine Seg.step _ rfl (Or.inl ⟨by rfl, fun U hU => vp_quiet (by (have h0 := held_cell (held_after hU.1 r_p0_0) 1 _ rfl; go_simp <;> exact rfl))⟩) ⟨_, by (simp only [Ent.val]; go_simp <;> exact rfl), ?_⟩
  refine Seg.step _ rfl (Or.inl ⟨by rfl, fun U hU => vp_quiet (by (go_simp <;> exact rfl))⟩) ⟨_, by (simp only [Ent.val]; go_simp <;> exact rfl), ?_⟩
  refine Seg.step _ rfl (Or.inl ⟨by rfl, fun U hU => vp_quiet (by (have h0 := held_cell (held_after hU.1 r_p0_0) 2 _ rfl; go_simp <;> exact rfl))⟩) ⟨_, by (simp only [Ent.val]; go_simp <;> exact rfl), ?_⟩
  refine Seg.step _ rfl (Or.inl ⟨by rfl, fun U hU => vp_quiet (by (go_simp <;> exact rfl))⟩) ⟨_, by (simp only [Ent.val]; go_simp <;> exact rfl), ?_⟩
  refine Seg.step _ rfl (Or.inl ⟨by rfl, fun U hU => vp_quiet (by (have h0 := held_cell (held_after hU.1 r_p0_0) 3 _ rfl; go_simp <;> exact rfl))⟩) ⟨_, by (simp only [Ent.val]; go_simp <;> exact rfl), ?_⟩
  refine Seg.step _ rfl (Or.inl ⟨by rfl, fun U hU => vp_quiet (by (go_simp <;> exact rfl))⟩) ⟨_, by (simp only [Ent.val]; go_simp <;> exact rfl), ?_⟩
  refine Seg.step _ rfl (Or.inl ⟨by rfl, fun U hU => vp_quiet (by (go_simp <;> exact rfl))⟩) ⟨_, by (simp only [Ent.val]; go_simp <;> exact rfl), ?_⟩
  refine Seg.step _ rfl (Or.inl ⟨by rfl, fun U hU => vp_quiet (by (have h0 := held_cell (held_after hU.1 r_p0_1) 0 _ rfl; go_simp <;> exact rfl))⟩) ⟨_, by (simp only [Ent.val]; go_simp <;> exact rfl), ?_⟩
  refine Seg.step _ rfl (Or.inl ⟨by rfl, fun U hU => vp_quiet (by (go_simp <;> exact rfl))⟩) ⟨_, by (simp only [Ent.val]; go_simp <;> exact rfl), ?_⟩
  refine Seg.step _ rfl (Or.inl ⟨by rfl, fun U hU => vp_quiet (by (have h0 := held_cell (held_after hU.1 r_p0_1) 1 _ rfl; go_simp <;> exact rfl))⟩) ⟨_, by (simp only [Ent.val]; go_simp <;> exact rfl), ?_⟩
  refine Seg.step _ rfl (Or.inl ⟨by rfl, fun U hU => vp_quiet (by (go_simp <;> exact rfl))⟩) ⟨_, by (simp only [Ent.val]; go_simp <;> exact rfl), ?_⟩
  refine Seg.step _ rfl (Or.inl ⟨by rfl, fun U hU => vp_quiet (by (have h0 := held_cell (held_after hU.1 r_p0_1) 2 _ rfl; go_simp <;> exact rfl))⟩) ⟨_, by (simp only [Ent.val]; go_simp <;> exact rfl), ?_⟩
  refine Seg.step _ rfl (Or.inl ⟨by rfl, fun U hU => vp_quiet (by (go_simp <;> exact rfl))⟩) ⟨_, by (simp only [Ent.val]; go_simp <;> exact rfl), ?_⟩
  refine Seg.step _ rfl ⟨by rfl, fun U hU => ?_⟩ ?_
  · go_simp; exact vp_alloc rfl rfl rfl
  refine ⟨_, by (simp only [Ent.val]; go_simp <;> exact rfl), ?_⟩
  refine Seg.step _ rfl ⟨by rfl, fun U hU => ?_⟩ ?_
  · go_simp; exact vp_alloc rfl rfl rfl
  refine ⟨_, by (simp only [Ent.val]; go_simp <;> exact rfl), ?_⟩
  refine Seg.step _ rfl ⟨by rfl, fun U z k hz hU hc => ?_⟩ ?_
  · have hz2 := Option.some.inj hz
    cases hz2; clear hz
    exact vp_store_agg _ _ _ rfl hc rfl rfl (by kernel_rfl) rfl (by rfl)
  refine ⟨_, by (simp only [Ent.val]; go_simp <;> exact rfl), ?_⟩
  refine Seg.step _ rfl ⟨by rfl, fun U z k hz hU hc => ?_⟩ ?_
  · have hz2 := Option.some.inj hz
    cases hz2; clear hz
    exact vp_store_agg _ _ _ rfl hc rfl rfl (by kernel_rfl) rfl (by rfl)
  refine ⟨_, by (simp only [Ent.val]; go_simp <;> exact rfl), ?_⟩
  refine Seg.stop (fun U3 hU hk => ?_)
  have nb14 := hge 14 _ _ rfl
  have rb14 := (hk 14 _ 16 rfl trivial).1.1 trivial _ (Nat.zero_le _) rfl
  have nb15 := hge 15 _ _ rfl
  have rb15 := (hk 15 _ 17 rfl trivial).1.1 trivial _ (Nat.zero_le _) rfl
  have ne14_15 := hne 14 15 _ _ _ _ rfl rfl (by omega)
  clear hk hge hne
  generalize th (0 + 14) = p2_14 at *
  simp only [Ent.obj] at rb14
  generalize th (0 + 15) = p2_15 at *
  simp only [Ent.obj] at rb15
  have df_p0_0_p2_14 : p0_0 ≠ p2_14 := by have := held_lt r_p0_0; omega
  have df_p0_1_p2_14 : p0_1 ≠ p2_14 := by have := held_lt r_p0_1; omega
  have df_p0_2_p2_14 : p0_2 ≠ p2_14 := by have := held_lt r_p0_2; omega
  have df_p1_0_p2_14 : p1_0 ≠ p2_14 := by have := held_lt r_p1_0; omega
  have df_p0_0_p2_15 : p0_0 ≠ p2_15 := by have := held_lt r_p0_0; omega
  have df_p0_1_p2_15 : p0_1 ≠ p2_15 := by have := held_lt r_p0_1; omega
  have df_p0_2_p2_15 : p0_2 ≠ p2_15 := by have := held_lt r_p0_2; omega
  have df_p1_0_p2_15 : p1_0 ≠ p2_15 := by have := held_lt r_p1_0; omega
  replace r_p0_0 := held_after hU r_p0_0
  replace r_p0_1 := held_after hU r_p0_1
  replace r_p0_2 := held_after hU r_p0_2
  replace r_p1_0 := held_after hU r_p1_0
  have r_p2_14 := rb14
  clear rb14
  have n_p2_14 := nb14
  clear nb14
  have d_p2_14_p2_15 := ne14_15
  clear ne14_15
  have r_p2_15 := rb15
  clear rb15
  have n_p2_15 := nb15
  clear nb15
  have sz3 := hU.size
  replace hB := bthen hB hU
  clear hU
  go_upto_region 3 with (fail)
  apply wp_region_seg0 (w := U3) (S := [.al 1000, .al 1000]) (E := [.al ((fun p => .pointer (some ⟨p, 0, none⟩)), _) 1000, .al ((fun p => .pointer (some ⟨p, 0, none⟩)), _) 1000]) rfl (by kernel_rfl) rfl rfl
  intro th hge hne
  refine Seg.step _ rfl ⟨by rfl, fun U hU => ?_⟩ ?_
  · go_simp; exact vp_alloc rfl rfl rfl
  refine ⟨_, by (simp only [Ent.val]; go_simp <;> exact rfl), ?_⟩
  refine Seg.step _ rfl ⟨by rfl, fun U hU => ?_⟩ ?_
  · go_simp; exact vp_alloc rfl rfl rfl
  refine ⟨_, by (simp only [Ent.val]; go_simp <;> exact rfl), ?_⟩
  refine Seg.stop (fun U4 hU hk => ?_)
  have nb0 := hge 0 _ _ rfl
  have rb0 := (hk 0 _ _ rfl trivial).1.2 (by simp)
  have nb1 := hge 1 _ _ rfl
  have rb1 := (hk 1 _ _ rfl trivial).1.2 (by simp)
  have ne0_1 := hne 0 1 _ _ _ _ rfl rfl (by omega)
  clear hk hge hne
  generalize th (0 + 0) = p3_0 at *
  dsimp only at rb0
  generalize th (0 + 1) = p3_1 at *
  dsimp only at rb1
  have df_p0_0_p3_0 : p0_0 ≠ p3_0 := by have := held_lt r_p0_0; omega
  have df_p0_1_p3_0 : p0_1 ≠ p3_0 := by have := held_lt r_p0_1; omega
  have df_p0_2_p3_0 : p0_2 ≠ p3_0 := by have := held_lt r_p0_2; omega
  have df_p1_0_p3_0 : p1_0 ≠ p3_0 := by have := held_lt r_p1_0; omega
  have df_p2_14_p3_0 : p2_14 ≠ p3_0 := by have := held_lt r_p2_14; omega
  have df_p2_15_p3_0 : p2_15 ≠ p3_0 := by have := held_lt r_p2_15; omega
  have df_p0_0_p3_1 : p0_0 ≠ p3_1 := by have := held_lt r_p0_0; omega
  have df_p0_1_p3_1 : p0_1 ≠ p3_1 := by have := held_lt r_p0_1; omega
  have df_p0_2_p3_1 : p0_2 ≠ p3_1 := by have := held_lt r_p0_2; omega
  have df_p1_0_p3_1 : p1_0 ≠ p3_1 := by have := held_lt r_p1_0; omega
  have df_p2_14_p3_1 : p2_14 ≠ p3_1 := by have := held_lt r_p2_14; omega
  have df_p2_15_p3_1 : p2_15 ≠ p3_1 := by have := held_lt r_p2_15; omega
  replace r_p0_0 := held_after hU r_p0_0
  replace r_p0_1 := held_after hU r_p0_1
  replace r_p0_2 := held_after hU r_p0_2
  replace r_p1_0 := held_after hU r_p1_0
  replace r_p2_14 := held_after hU r_p2_14
  replace r_p2_15 := held_after hU r_p2_15
  have r_p3_0 := rb0
  clear rb0
  have n_p3_0 := nb0
  clear nb0
  have d_p3_0_p3_1 := ne0_1
  clear ne0_1
  have r_p3_1 := rb1
  clear rb1
  have n_p3_1 := nb1
  clear nb1
  have sz4 := hU.size
  replace hB := bthen hB hU
  clear hU
  go_upto_region 4 with (fail)
  have ca0 := held_cell r_p2_14 0 _ rfl
  have ca1 := held_cell r_p2_14 1 _ rfl
  have ca2 := held_cell r_p2_14 2 _ rfl
  have cb0 := held_cell r_p2_15 0 _ rfl
  have cb1 := held_cell r_p2_15 1 _ rfl
  have cb2 := held_cell r_p2_15 2 _ rfl
  have nc : w.heap.size ≤ p1_0 := Nat.le_trans sz1 n_p1_0
  have nt : w.heap.size ≤ p3_0 := Nat.le_trans (Nat.le_trans (Nat.le_trans sz1 sz2) sz3) n_p3_0
  have no : w.heap.size ≤ p3_1 := Nat.le_trans (Nat.le_trans (Nat.le_trans sz1 sz2) sz3) n_p3_1
  go_wp2_with fail
  refine (hc.out _).mono ?_
  rintro e V ⟨pp, qq, rfl, g1, g2, g3, rpp, rqq, hst⟩
  have hlt1 := held_lt r_p1_0
  have hpp : pp ≠ p1_0 := Nat.ne_of_gt (Nat.lt_of_lt_of_le hlt1 g1)
  have hqq : qq ≠ p1_0 := Nat.ne_of_gt (Nat.lt_trans (Nat.lt_of_lt_of_le hlt1 g1) g2)
  clear hlt1
  have hlt1 := held_lt r_p3_0
  have h3pp : pp ≠ p3_0 := Nat.ne_of_gt (Nat.lt_of_lt_of_le hlt1 g1)
  have h3qq : qq ≠ p3_0 := Nat.ne_of_gt (Nat.lt_trans (Nat.lt_of_lt_of_le hlt1 g1) g2)
  clear hlt1
  have hlt1 := held_lt r_p3_1
  have h4pp : pp ≠ p3_1 := Nat.ne_of_gt (Nat.lt_of_lt_of_le hlt1 g1)
  have h4qq : qq ≠ p3_1 := Nat.ne_of_gt (Nat.lt_trans (Nat.lt_of_lt_of_le hlt1 g1) g2)
  clear hlt1
  clear g1 g2 g3
  replace hB := bthen hB hst
  replace r_p0_0 := held_below r_p0_0 hst
  replace r_p0_1 := held_below r_p0_1 hst
  replace r_p0_2 := held_below r_p0_2 hst
  replace r_p1_0 := held_below r_p1_0 hst
  replace r_p2_14 := held_below r_p2_14 hst
  replace r_p2_15 := held_below r_p2_15 hst
  replace r_p3_0 := held_below r_p3_0 hst
  replace r_p3_1 := held_below r_p3_1 hst
  clear hst
  clear ca0 ca1 ca2 cb0 cb1 cb2
  go_wp2_with fail
  refine wp_loop_rounds 4 ?_
  rw [rounds_succ]
  go_wp2_with fail
  refine (k0.out pp qq _ rpp rqq).mono ?_
  rintro e A0 ⟨rfl, hst⟩
  replace hB := bthen hB hst
  replace r_p0_0 := held_below r_p0_0 hst
  replace r_p0_1 := held_below r_p0_1 hst
  replace r_p0_2 := held_below r_p0_2 hst
  replace r_p1_0 := held_below r_p1_0 hst
  replace r_p2_14 := held_below r_p2_14 hst
  replace r_p2_15 := held_below r_p2_15 hst
  replace r_p3_0 := held_below r_p3_0 hst
  replace r_p3_1 := held_below r_p3_1 hst
  replace rpp := held_below rpp hst
  replace rqq := held_below rqq hst
  clear hst
  go_wp2_with fail
  refine (c0.out p1_0 A0 r_p1_0).mono ?_
  rintro e V0 ⟨rfl, hef, hct⟩
  have lA : w.heap.size ≤ A0.heap.size := hB.size
  replace hB := below_eff hB hef nc lA
  replace r_p0_0 := held_eff r_p0_0 hef df_p0_0_p1_0
  replace r_p0_1 := held_eff r_p0_1 hef df_p0_1_p1_0
  replace r_p0_2 := held_eff r_p0_2 hef df_p0_2_p1_0
  replace r_p2_14 := held_eff r_p2_14 hef (Ne.symm df_p1_0_p2_14)
  replace r_p2_15 := held_eff r_p2_15 hef (Ne.symm df_p1_0_p2_15)
  replace r_p3_0 := held_eff r_p3_0 hef (Ne.symm df_p1_0_p3_0)
  replace r_p3_1 := held_eff r_p3_1 hef (Ne.symm df_p1_0_p3_1)
  replace rpp := held_eff rpp hef hpp
  replace rqq := held_eff rqq hef hqq
  clear r_p1_0
  have r_p1_0 := hct
  clear hct hef lA
  obtain ⟨WN, hWN, rn, rO⟩ := one_set r_p3_0 0 (.int .i32 s0)
  have z0 := held_cell r_p3_0 0 _ rfl
  have z1 := held_free r_p3_0 0
  replace rn : Go.RowKit.Hid (WN.heap[p3_0]? = some (.cells #[.int .i32 s0, .int .i32 0, .int .i32 0] 51 (0, 0))) := rn
  replace r_p0_0 := hid (heldO rO df_p0_0_p3_0 r_p0_0)
  replace r_p0_1 := hid (heldO rO df_p0_1_p3_0 r_p0_1)
  replace r_p0_2 := hid (heldO rO df_p0_2_p3_0 r_p0_2)
  replace r_p1_0 := hid (heldO rO df_p1_0_p3_0 r_p1_0)
  replace r_p2_14 := hid (heldO rO df_p2_14_p3_0 r_p2_14)
  replace r_p2_15 := hid (heldO rO df_p2_15_p3_0 r_p2_15)
  replace r_p3_1 := hid (heldO rO (Ne.symm d_p3_0_p3_1) r_p3_1)
  replace rpp := hid (heldO rO h3pp rpp)
  replace rqq := hid (heldO rO h3qq rqq)
  replace hB := hid (belowO hB rO nt)
  clear rO r_p3_0
  go_wp2_with fail
  clear hWN z0 z1
  have r_p3_0 := rn.out
  clear rn
  replace r_p0_0 := r_p0_0.out
  replace r_p0_1 := r_p0_1.out
  replace r_p0_2 := r_p0_2.out
  replace r_p1_0 := r_p1_0.out
  replace r_p2_14 := r_p2_14.out
  replace r_p2_15 := r_p2_15.out
  replace r_p3_1 := r_p3_1.out
  replace rpp := rpp.out
  replace rqq := rqq.out
  replace hB := hB.out
  rw [rounds_succ]
  go_wp2_with fail
  refine (k1.out pp qq _ rpp rqq).mono ?_
  rintro e A1 ⟨rfl, hst⟩
  replace hB := bthen hB hst
  replace r_p0_0 := held_below r_p0_0 hst
  replace r_p0_1 := held_below r_p0_1 hst
  replace r_p0_2 := held_below r_p0_2 hst
  replace r_p1_0 := held_below r_p1_0 hst
  replace r_p2_14 := held_below r_p2_14 hst
  replace r_p2_15 := held_below r_p2_15 hst
  replace r_p3_0 := held_below r_p3_0 hst
  replace r_p3_1 := held_below r_p3_1 hst
  replace rpp := held_below rpp hst
  replace rqq := held_below rqq hst
  clear hst
  go_wp2_with fail
  refine (c1.out p1_0 A1 r_p1_0).mono ?_
  rintro e V1 ⟨rfl, hef, hct⟩
  have lA : w.heap.size ≤ A1.heap.size := hB.size
  replace hB := below_eff hB hef nc lA
  replace r_p0_0 := held_eff r_p0_0 hef df_p0_0_p1_0
  replace r_p0_1 := held_eff r_p0_1 hef df_p0_1_p1_0
  replace r_p0_2 := held_eff r_p0_2 hef df_p0_2_p1_0
  replace r_p2_14 := held_eff r_p2_14 hef (Ne.symm df_p1_0_p2_14)
  replace r_p2_15 := held_eff r_p2_15 hef (Ne.symm df_p1_0_p2_15)
  replace r_p3_0 := held_eff r_p3_0 hef (Ne.symm df_p1_0_p3_0)
  replace r_p3_1 := held_eff r_p3_1 hef (Ne.symm df_p1_0_p3_1)
  replace rpp := held_eff rpp hef hpp
  replace rqq := held_eff rqq hef hqq
  clear r_p1_0
  have r_p1_0 := hct
  clear hct hef lA
  obtain ⟨WN, hWN, rn, rO⟩ := one_set r_p3_0 1 (.int .i32 s1)
  have z0 := held_cell r_p3_0 1 _ rfl
  have z1 := held_free r_p3_0 1
  replace rn : Go.RowKit.Hid (WN.heap[p3_0]? = some (.cells #[.int .i32 s0, .int .i32 s1, .int .i32 0] 51 (0, 0))) := rn
  replace r_p0_0 := hid (heldO rO df_p0_0_p3_0 r_p0_0)
  replace r_p0_1 := hid (heldO rO df_p0_1_p3_0 r_p0_1)
  replace r_p0_2 := hid (heldO rO df_p0_2_p3_0 r_p0_2)
  replace r_p1_0 := hid (heldO rO df_p1_0_p3_0 r_p1_0)
  replace r_p2_14 := hid (heldO rO df_p2_14_p3_0 r_p2_14)
  replace r_p2_15 := hid (heldO rO df_p2_15_p3_0 r_p2_15)
  replace r_p3_1 := hid (heldO rO (Ne.symm d_p3_0_p3_1) r_p3_1)
  replace rpp := hid (heldO rO h3pp rpp)
  replace rqq := hid (heldO rO h3qq rqq)
  replace hB := hid (belowO hB rO nt)
  clear rO r_p3_0
  go_wp2_with fail
  clear hWN z0 z1
  have r_p3_0 := rn.out
  clear rn
  replace r_p0_0 := r_p0_0.out
  replace r_p0_1 := r_p0_1.out
  replace r_p0_2 := r_p0_2.out
  replace r_p1_0 := r_p1_0.out
  replace r_p2_14 := r_p2_14.out
  replace r_p2_15 := r_p2_15.out
  replace r_p3_1 := r_p3_1.out
  replace rpp := rpp.out
  replace rqq := rqq.out
  replace hB := hB.out
  rw [rounds_succ]
  go_wp2_with fail
  refine (k2.out pp qq _ rpp rqq).mono ?_
  rintro e A2 ⟨rfl, hst⟩
  replace hB := bthen hB hst
  replace r_p0_0 := held_below r_p0_0 hst
  replace r_p0_1 := held_below r_p0_1 hst
  replace r_p0_2 := held_below r_p0_2 hst
  replace r_p1_0 := held_below r_p1_0 hst
  replace r_p2_14 := held_below r_p2_14 hst
  replace r_p2_15 := held_below r_p2_15 hst
  replace r_p3_0 := held_below r_p3_0 hst
  replace r_p3_1 := held_below r_p3_1 hst
  replace rpp := held_below rpp hst
  replace rqq := held_below rqq hst
  clear hst
  go_wp2_with fail
  refine (c2.out p1_0 A2 r_p1_0).mono ?_
  rintro e V2 ⟨rfl, hef, hct⟩
  have lA : w.heap.size ≤ A2.heap.size := hB.size
  replace hB := below_eff hB hef nc lA
  replace r_p0_0 := held_eff r_p0_0 hef df_p0_0_p1_0
  replace r_p0_1 := held_eff r_p0_1 hef df_p0_1_p1_0
  replace r_p0_2 := held_eff r_p0_2 hef df_p0_2_p1_0
  replace r_p2_14 := held_eff r_p2_14 hef (Ne.symm df_p1_0_p2_14)
  replace r_p2_15 := held_eff r_p2_15 hef (Ne.symm df_p1_0_p2_15)
  replace r_p3_0 := held_eff r_p3_0 hef (Ne.symm df_p1_0_p3_0)
  replace r_p3_1 := held_eff r_p3_1 hef (Ne.symm df_p1_0_p3_1)
  replace rpp := held_eff rpp hef hpp
  replace rqq := held_eff rqq hef hqq
  clear r_p1_0
  have r_p1_0 := hct
  clear hct hef lA
  obtain ⟨WN, hWN, rn, rO⟩ := one_set r_p3_0 2 (.int .i32 s2)
  have z0 := held_cell r_p3_0 2 _ rfl
  have z1 := held_free r_p3_0 2
  replace rn : Go.RowKit.Hid (WN.heap[p3_0]? = some (.cells #[.int .i32 s0, .int .i32 s1, .int .i32 s2] 51 (0, 0))) := rn
  replace r_p0_0 := hid (heldO rO df_p0_0_p3_0 r_p0_0)
  replace r_p0_1 := hid (heldO rO df_p0_1_p3_0 r_p0_1)
  replace r_p0_2 := hid (heldO rO df_p0_2_p3_0 r_p0_2)
  replace r_p1_0 := hid (heldO rO df_p1_0_p3_0 r_p1_0)
  replace r_p2_14 := hid (heldO rO df_p2_14_p3_0 r_p2_14)
  replace r_p2_15 := hid (heldO rO df_p2_15_p3_0 r_p2_15)
  replace r_p3_1 := hid (heldO rO (Ne.symm d_p3_0_p3_1) r_p3_1)
  replace rpp := hid (heldO rO h3pp rpp)
  replace rqq := hid (heldO rO h3qq rqq)
  replace hB := hid (belowO hB rO nt)
  clear rO r_p3_0
  go_wp2_with fail
  clear hWN z0 z1
  have r_p3_0 := rn.out
  clear rn
  replace r_p0_0 := r_p0_0.out
  replace r_p0_1 := r_p0_1.out
  replace r_p0_2 := r_p0_2.out
  replace r_p1_0 := r_p1_0.out
  replace r_p2_14 := r_p2_14.out
  replace r_p2_15 := r_p2_15.out
  replace r_p3_1 := r_p3_1.out
  replace rpp := rpp.out
  replace rqq := rqq.out
  replace hB := hB.out
  rw [rounds_succ]
  have ca0 := held_cell r_p2_14 0 _ rfl
  have ca1 := held_cell r_p2_14 1 _ rfl
  have ca2 := held_cell r_p2_14 2 _ rfl
  have cb0 := held_cell r_p3_0 0 _ rfl
  have cb1 := held_cell r_p3_0 1 _ rfl
  have cb2 := held_cell r_p3_0 2 _ rfl
  clear k0 k1 k2 c0 c1 c2 rpp rqq hc hpp hqq h3pp h3qq h4pp h4qq
  go_wp2_with fail
  refine (hc2.out _).mono ?_
  rintro e Y ⟨pp2, qq2, rfl, g1, g2, g3, rpp2, rqq2, hst⟩
  have hlt1 := held_lt r_p1_0
  have hpp2 : pp2 ≠ p1_0 := Nat.ne_of_gt (Nat.lt_of_lt_of_le hlt1 g1)
  have hqq2 : qq2 ≠ p1_0 := Nat.ne_of_gt (Nat.lt_trans (Nat.lt_of_lt_of_le hlt1 g1) g2)
  clear hlt1
  have hlt1 := held_lt r_p3_0
  have h3pp2 : pp2 ≠ p3_0 := Nat.ne_of_gt (Nat.lt_of_lt_of_le hlt1 g1)
  have h3qq2 : qq2 ≠ p3_0 := Nat.ne_of_gt (Nat.lt_trans (Nat.lt_of_lt_of_le hlt1 g1) g2)
  clear hlt1
  have hlt1 := held_lt r_p3_1
  have h4pp2 : pp2 ≠ p3_1 := Nat.ne_of_gt (Nat.lt_of_lt_of_le hlt1 g1)
  have h4qq2 : qq2 ≠ p3_1 := Nat.ne_of_gt (Nat.lt_trans (Nat.lt_of_lt_of_le hlt1 g1) g2)
  clear hlt1
  clear g1 g2 g3
  replace hB := bthen hB hst
  replace r_p0_0 := held_below r_p0_0 hst
  replace r_p0_1 := held_below r_p0_1 hst
  replace r_p0_2 := held_below r_p0_2 hst
  replace r_p1_0 := held_below r_p1_0 hst
  replace r_p2_14 := held_below r_p2_14 hst
  replace r_p2_15 := held_below r_p2_15 hst
  replace r_p3_0 := held_below r_p3_0 hst
  replace r_p3_1 := held_below r_p3_1 hst
  clear hst
  clear ca0 ca1 ca2 cb0 cb1 cb2
  go_wp2_with fail
  refine wp_loop_rounds 4 ?_
  rw [rounds_succ]
  go_upto_region 14 with (fail)
  apply wp_region_partX (w := Y) (S := [.q [], .q [], .q [], .q [], .q [], .q [], .q [], .q [], .q [], .q [], .q [], .q [], .q [], .q [], .q [], .q [], .ef 0 none, .q []]) (E := [.q0 _, .q0 _, .q0 _, .q0 _, .q0 _, .q0 _, .q0 _, .q0 _, .q0 _, .q0 _, .c0 _, .q0 _, .q0 _, .q0 _, .c0 _, .q0 _, .ef 0 none _ _, .q0 _]) [(p1_0, _)] 18 1 (by kernel_rfl) rfl (by kernel_rfl) rfl rfl (x1_w r_p1_0) x1_d (x1_e (S := [.q [], .q [], .q [], .q [], .q [], .q [], .q [], .q [], .q [], .q [], .q [], .q [], .q [], .q [], .q [], .q [], .ef 0 none, .q []]) rfl rfl)
  intro th hge hne
  refine Seg.step _ rfl (Or.inl ⟨by rfl, fun U hU => vp_quiet (by (go_simp <;> exact rfl))⟩) ⟨_, by (simp only [Ent.val]; go_simp <;> exact rfl), ?_⟩
  refine Seg.step _ rfl (Or.inl ⟨by rfl, fun U hU => vp_quiet (by (go_simp <;> exact rfl))⟩) ⟨_, by (simp only [Ent.val]; go_simp <;> exact rfl), ?_⟩
  refine Seg.step _ rfl (Or.inl ⟨by rfl, fun U hU => vp_quiet (by (go_simp <;> exact rfl))⟩) ⟨_, by (simp only [Ent.val]; go_simp <;> exact rfl), ?_⟩
  refine Seg.step _ rfl (Or.inl ⟨by rfl, fun U hU => vp_quiet (by (have h0 := held_cell (keep1 hU.1 (Ne.symm df_p1_0_p2_15) r_p2_15) 0 _ rfl; go_simp <;> exact rfl))⟩) ⟨_, by (simp only [Ent.val]; go_simp <;> exact rfl), ?_⟩
  refine Seg.step _ rfl (Or.inl ⟨by rfl, fun U hU => vp_quiet (by (go_simp <;> exact rfl))⟩) ⟨_, by (simp only [Ent.val]; go_simp <;> exact rfl), ?_⟩
  refine Seg.step _ rfl (Or.inl ⟨by rfl, fun U hU => vp_quiet (by (go_simp <;> exact rfl))⟩) ⟨_, by (simp only [Ent.val]; go_simp <;> exact rfl), ?_⟩
  refine Seg.step _ rfl (Or.inl ⟨by rfl, fun U hU => vp_quiet (by (have h0 := held_cell (keep1 hU.1 df_p0_0_p1_0 r_p0_0) 0 _ rfl; go_simp <;> exact rfl))⟩) ⟨_, by (simp only [Ent.val]; go_simp <;> exact rfl), ?_⟩
  refine Seg.step _ rfl (Or.inl ⟨by rfl, fun U hU => vp_quiet (by (go_simp <;> exact rfl))⟩) ⟨_, by (simp only [Ent.val]; go_simp <;> exact rfl), ?_⟩
  refine Seg.step _ rfl (Or.inl ⟨by rfl, fun U hU => vp_quiet (by (go_simp <;> exact rfl))⟩) ⟨_, by (simp only [Ent.val]; go_simp <;> exact rfl), ?_⟩
  refine Seg.step _ rfl (Or.inl ⟨by rfl, fun U hU => vp_quiet (by (have h0 := held_cell (keep1 hU.1 (Ne.symm df_p1_0_p3_0) r_p3_0) 0 _ rfl; go_simp <;> exact rfl))⟩) ⟨_, by (simp only [Ent.val]; go_simp <;> exact rfl), ?_⟩
  refine Seg.step _ rfl (Or.inl ⟨by rfl, fun U hU => ?_⟩) ?_
  · go_simp
    refine vp_calld (j0.out _)
  refine ⟨_, by (simp only [Ent.val]; go_simp <;> exact rfl), ?_⟩
  refine Seg.step _ rfl (Or.inl ⟨by rfl, fun U hU => vp_quiet (by (go_simp <;> exact rfl))⟩) ⟨_, by (simp only [Ent.val]; go_simp <;> exact rfl), ?_⟩
  refine Seg.step _ rfl (Or.inl ⟨by rfl, fun U hU => vp_quiet (by (go_simp <;> exact rfl))⟩) ⟨_, by (simp only [Ent.val]; go_simp <;> exact rfl), ?_⟩
  refine Seg.step _ rfl (Or.inl ⟨by rfl, fun U hU => vp_quiet (by (go_simp <;> exact rfl))⟩) ⟨_, by (simp only [Ent.val]; go_simp <;> exact rfl), ?_⟩
  refine Seg.step _ rfl (Or.inl ⟨by rfl, fun U hU => ?_⟩) ?_
  · go_simp
    refine vp_call (k3.out pp2 qq2 _ (keep1 hU.1 hpp2 rpp2) (keep1 hU.1 hqq2 rqq2))
  refine ⟨_, by (simp only [Ent.val]; go_simp <;> exact rfl), ?_⟩
  refine Seg.step _ rfl (Or.inl ⟨by rfl, fun U hU => vp_quiet (by (go_simp <;> exact rfl))⟩) ⟨_, by (simp only [Ent.val]; go_simp <;> exact rfl), ?_⟩
  refine Seg.step _ rfl ⟨by rfl, fun U g0 o0 o1 hx hc hU hg => ?_⟩ ?_
  · have hx2 := Option.some.inj hx
    cases hx2
    have hc2 := Option.some.inj hc
    cases hc2
    clear hx hc
    go_simp
    exact vp_eff (c3.out p1_0 _ hg)
  refine ⟨_, by (simp only [Ent.val]; go_simp <;> exact rfl), ?_⟩
  refine Seg.step _ rfl (Or.inl ⟨by rfl, fun U hU => vp_quiet (by (go_simp <;> exact rfl))⟩) ⟨_, by (simp only [Ent.val]; go_simp <;> exact rfl), ?_⟩
  refine Seg.stop (fun U31 hU hk hX => ?_)
  have rx := Seg.end1 hX (S := [.q [], .q [], .q [], .q [], .q [], .q [], .q [], .q [], .q [], .q [], .q [], .q [], .q [], .q [], .q [], .q [], .ef 0 none, .q []]) rfl 0 16 (by rfl) rfl rfl
  clear hX
  clear hk hge hne
  replace r_p0_0 := keep1 hU df_p0_0_p1_0 r_p0_0
  replace r_p0_1 := keep1 hU df_p0_1_p1_0 r_p0_1
  replace r_p0_2 := keep1 hU df_p0_2_p1_0 r_p0_2
  clear r_p1_0
  have r_p1_0 := rx
  clear rx
  replace r_p2_14 := keep1 hU (Ne.symm df_p1_0_p2_14) r_p2_14
  replace r_p2_15 := keep1 hU (Ne.symm df_p1_0_p2_15) r_p2_15
  replace r_p3_0 := keep1 hU (Ne.symm df_p1_0_p3_0) r_p3_0
  replace r_p3_1 := keep1 hU (Ne.symm df_p1_0_p3_1) r_p3_1
  replace rpp2 := keep1 hU hpp2 rpp2
  replace rqq2 := keep1 hU hqq2 rqq2
  have sz31 := keep1_size hU
  replace hB := keep1_below hB hU nc hB.size
  clear hU
  obtain ⟨WN, hWN, rn, rO⟩ := one_set r_p3_1 0 (.int .i32 v0)
  have z0 := held_cell r_p3_1 0 _ rfl
  have z1 := held_free r_p3_1 0
  replace rn : Go.RowKit.Hid (WN.heap[p3_1]? = some (.cells #[.int .i32 v0, .int .i32 0, .int .i32 0] 51 (0, 0))) := rn
  replace r_p0_0 := hid (heldO rO df_p0_0_p3_1 r_p0_0)
  replace r_p0_1 := hid (heldO rO df_p0_1_p3_1 r_p0_1)
  replace r_p0_2 := hid (heldO rO df_p0_2_p3_1 r_p0_2)
  replace r_p1_0 := hid (heldO rO df_p1_0_p3_1 r_p1_0)
  replace r_p2_14 := hid (heldO rO df_p2_14_p3_1 r_p2_14)
  replace r_p2_15 := hid (heldO rO df_p2_15_p3_1 r_p2_15)
  replace r_p3_0 := hid (heldO rO d_p3_0_p3_1 r_p3_0)
  replace rpp2 := hid (heldO rO h4pp2 rpp2)
  replace rqq2 := hid (heldO rO h4qq2 rqq2)
  replace hB := hid (belowO hB rO no)
  clear rO r_p3_1
  refine Seg.only (m := 18) (k := 0) rfl (by kernel_rfl) (by rfl) (fun K hK => ?_)
  go_simp
  refine hK _ _ (Seg.finish ?_ _)
  clear hK
  go_wp2_with fail
  clear hWN z0 z1
  have r_p3_1 := rn.out
  clear rn
  replace r_p0_0 := r_p0_0.out
  replace r_p0_1 := r_p0_1.out
  replace r_p0_2 := r_p0_2.out
  replace r_p1_0 := r_p1_0.out
  replace r_p2_14 := r_p2_14.out
  replace r_p2_15 := r_p2_15.out
  replace r_p3_0 := r_p3_0.out
  replace rpp2 := rpp2.out
  replace rqq2 := rqq2.out
  replace hB := hB.out
  clear sz31 k3 c3 j0
  rw [rounds_succ]
  go_upto_region 14 with (fail)
  apply wp_region_partX (w := WN) (S := [.q [], .q [], .q [], .q [], .q [], .q [], .q [], .q [], .q [], .q [], .q [], .q [], .q [], .q [], .q [], .q [], .ef 0 none, .q []]) (E := [.q0 _, .q0 _, .q0 _, .q0 _, .q0 _, .q0 _, .q0 _, .q0 _, .q0 _, .q0 _, .c0 _, .q0 _, .q0 _, .q0 _, .c0 _, .q0 _, .ef 0 none _ _, .q0 _]) [(p1_0, _)] 18 1 (by kernel_rfl) rfl (by kernel_rfl) rfl rfl (x1_w r_p1_0) x1_d (x1_e (S := [.q [], .q [], .q [], .q [], .q [], .q [], .q [], .q [], .q [], .q [], .q [], .q [], .q [], .q [], .q [], .q [], .ef 0 none, .q []]) rfl rfl)
  intro th hge hne
  refine Seg.step _ rfl (Or.inl ⟨by rfl, fun U hU => vp_quiet (by (go_simp <;> exact rfl))⟩) ⟨_, by (simp only [Ent.val]; go_simp <;> exact rfl), ?_⟩
  refine Seg.step _ rfl (Or.inl ⟨by rfl, fun U hU => vp_quiet (by (go_simp <;> exact rfl))⟩) ⟨_, by (simp only [Ent.val]; go_simp <;> exact rfl), ?_⟩
  refine Seg.step _ rfl (Or.inl ⟨by rfl, fun U hU => vp_quiet (by (go_simp <;> exact rfl))⟩) ⟨_, by (simp only [Ent.val]; go_simp <;> exact rfl), ?_⟩
  refine Seg.step _ rfl (Or.inl ⟨by rfl, fun U hU => vp_quiet (by (have h0 := held_cell (keep1 hU.1 (Ne.symm df_p1_0_p2_15) r_p2_15) 1 _ rfl; go_simp <;> exact rfl))⟩) ⟨_, by (simp only [Ent.val]; go_simp <;> exact rfl), ?_⟩
  refine Seg.step _ rfl (Or.inl ⟨by rfl, fun U hU => vp_quiet (by (go_simp <;> exact rfl))⟩) ⟨_, by (simp only [Ent.val]; go_simp <;> exact rfl), ?_⟩
  refine Seg.step _ rfl (Or.inl ⟨by rfl, fun U hU => vp_quiet (by (go_simp <;> exact rfl))⟩) ⟨_, by (simp only [Ent.val]; go_simp <;> exact rfl), ?_⟩
  refine Seg.step _ rfl (Or.inl ⟨by rfl, fun U hU => vp_quiet (by (have h0 := held_cell (keep1 hU.1 df_p0_0_p1_0 r_p0_0) 0 _ rfl; go_simp <;> exact rfl))⟩) ⟨_, by (simp only [Ent.val]; go_simp <;> exact rfl), ?_⟩
  refine Seg.step _ rfl (Or.inl ⟨by rfl, fun U hU => vp_quiet (by (go_simp <;> exact rfl))⟩) ⟨_, by (simp only [Ent.val]; go_simp <;> exact rfl), ?_⟩
  refine Seg.step _ rfl (Or.inl ⟨by rfl, fun U hU => vp_quiet (by (go_simp <;> exact rfl))⟩) ⟨_, by (simp only [Ent.val]; go_simp <;> exact rfl), ?_⟩
  refine Seg.step _ rfl (Or.inl ⟨by rfl, fun U hU => vp_quiet (by (have h0 := held_cell (keep1 hU.1 (Ne.symm df_p1_0_p3_0) r_p3_0) 1 _ rfl; go_simp <;> exact rfl))⟩) ⟨_, by (simp only [Ent.val]; go_simp <;> exact rfl), ?_⟩
  refine Seg.step _ rfl (Or.inl ⟨by rfl, fun U hU => ?_⟩) ?_
  · go_simp
    refine vp_calld (j1.out _)
  refine ⟨_, by (simp only [Ent.val]; go_simp <;> exact rfl), ?_⟩
  refine Seg.step _ rfl (Or.inl ⟨by rfl, fun U hU => vp_quiet (by (go_simp <;> exact rfl))⟩) ⟨_, by (simp only [Ent.val]; go_simp <;> exact rfl), ?_⟩
  refine Seg.step _ rfl (Or.inl ⟨by rfl, fun U hU => vp_quiet (by (go_simp <;> exact rfl))⟩) ⟨_, by (simp only [Ent.val]; go_simp <;> exact rfl), ?_⟩
  refine Seg.step _ rfl (Or.inl ⟨by rfl, fun U hU => vp_quiet (by (go_simp <;> exact rfl))⟩) ⟨_, by (simp only [Ent.val]; go_simp <;> exact rfl), ?_⟩
  refine Seg.step _ rfl (Or.inl ⟨by rfl, fun U hU => ?_⟩) ?_
  · go_simp
    refine vp_call (k4.out pp2 qq2 _ (keep1 hU.1 hpp2 rpp2) (keep1 hU.1 hqq2 rqq2))
  refine ⟨_, by (simp only [Ent.val]; go_simp <;> exact rfl), ?_⟩
  refine Seg.step _ rfl (Or.inl ⟨by rfl, fun U hU => vp_quiet (by (go_simp <;> exact rfl))⟩) ⟨_, by (simp only [Ent.val]; go_simp <;> exact rfl), ?_⟩
  refine Seg.step _ rfl ⟨by rfl, fun U g0 o0 o1 hx hc hU hg => ?_⟩ ?_
  · have hx2 := Option.some.inj hx
    cases hx2
    have hc2 := Option.some.inj hc
    cases hc2
    clear hx hc
    go_simp
    exact vp_eff (c4.out p1_0 _ hg)
  refine ⟨_, by (simp only [Ent.val]; go_simp <;> exact rfl), ?_⟩
  refine Seg.step _ rfl (Or.inl ⟨by rfl, fun U hU => vp_quiet (by (go_simp <;> exact rfl))⟩) ⟨_, by (simp only [Ent.val]; go_simp <;> exact rfl), ?_⟩
  refine Seg.stop (fun U32 hU hk hX => ?_)
  have rx := Seg.end1 hX (S := [.q [], .q [], .q [], .q [], .q [], .q [], .q [], .q [], .q [], .q [], .q [], .q [], .q [], .q [], .q [], .q [], .ef 0 none, .q []]) rfl 0 16 (by rfl) rfl rfl
  clear hX
  clear hk hge hne
  replace r_p0_0 := keep1 hU df_p0_0_p1_0 r_p0_0
  replace r_p0_1 := keep1 hU df_p0_1_p1_0 r_p0_1
  replace r_p0_2 := keep1 hU df_p0_2_p1_0 r_p0_2
  clear r_p1_0
  have r_p1_0 := rx
  clear rx
  replace r_p2_14 := keep1 hU (Ne.symm df_p1_0_p2_14) r_p2_14
  replace r_p2_15 := keep1 hU (Ne.symm df_p1_0_p2_15) r_p2_15
  replace r_p3_0 := keep1 hU (Ne.symm df_p1_0_p3_0) r_p3_0
  replace r_p3_1 := keep1 hU (Ne.symm df_p1_0_p3_1) r_p3_1
  replace rpp2 := keep1 hU hpp2 rpp2
  replace rqq2 := keep1 hU hqq2 rqq2
  have sz32 := keep1_size hU
  replace hB := keep1_below hB hU nc hB.size
  clear hU
  obtain ⟨WN, hWN, rn, rO⟩ := one_set r_p3_1 1 (.int .i32 v1)
  have z0 := held_cell r_p3_1 1 _ rfl
  have z1 := held_free r_p3_1 1
  replace rn : Go.RowKit.Hid (WN.heap[p3_1]? = some (.cells #[.int .i32 v0, .int .i32 v1, .int .i32 0] 51 (0, 0))) := rn
  replace r_p0_0 := hid (heldO rO df_p0_0_p3_1 r_p0_0)
  replace r_p0_1 := hid (heldO rO df_p0_1_p3_1 r_p0_1)
  replace r_p0_2 := hid (heldO rO df_p0_2_p3_1 r_p0_2)
  replace r_p1_0 := hid (heldO rO df_p1_0_p3_1 r_p1_0)
  replace r_p2_14 := hid (heldO rO df_p2_14_p3_1 r_p2_14)
  replace r_p2_15 := hid (heldO rO df_p2_15_p3_1 r_p2_15)
  replace r_p3_0 := hid (heldO rO d_p3_0_p3_1 r_p3_0)
  replace rpp2 := hid (heldO rO h4pp2 rpp2)
  replace rqq2 := hid (heldO rO h4qq2 rqq2)
  replace hB := hid (belowO hB rO no)
  clear rO r_p3_1
  refine Seg.only (m := 18) (k := 0) rfl (by kernel_rfl) (by rfl) (fun K hK => ?_)
  go_simp
  refine hK _ _ (Seg.finish ?_ _)
  clear hK
  go_wp2_with fail
  clear hWN z0 z1
  have r_p3_1 := rn.out
  clear rn
  replace r_p0_0 := r_p0_0.out
  replace r_p0_1 := r_p0_1.out
  replace r_p0_2 := r_p0_2.out
  replace r_p1_0 := r_p1_0.out
  replace r_p2_14 := r_p2_14.out
  replace r_p2_15 := r_p2_15.out
  replace r_p3_0 := r_p3_0.out
  replace rpp2 := rpp2.out
  replace rqq2 := rqq2.out
  replace hB := hB.out
  clear sz32 k4 c4 j1
  rw [rounds_succ]
  go_upto_region 14 with (fail)
  apply wp_region_partX (w := WN) (S := [.q [], .q [], .q [], .q [], .q [], .q [], .q [], .q [], .q [], .q [], .q [], .q [], .q [], .q [], .q [], .q [], .ef 0 none, .q []]) (E := [.q0 _, .q0 _, .q0 _, .q0 _, .q0 _, .q0 _, .q0 _, .q0 _, .q0 _, .q0 _, .c0 _, .q0 _, .q0 _, .q0 _, .c0 _, .q0 _, .ef 0 none _ _, .q0 _]) [(p1_0, _)] 18 1 (by kernel_rfl) rfl (by kernel_rfl) rfl rfl (x1_w r_p1_0) x1_d (x1_e (S := [.q [], .q [], .q [], .q [], .q [], .q [], .q [], .q [], .q [], .q [], .q [], .q [], .q [], .q [], .q [], .q [], .ef 0 none, .q []]) rfl rfl)
  intro th hge hne
  refine Seg.step _ rfl (Or.inl ⟨by rfl, fun U hU => vp_quiet (by (go_simp <;> exact rfl))⟩) ⟨_, by (simp only [Ent.val]; go_simp <;> exact rfl), ?_⟩
  refine Seg.step _ rfl (Or.inl ⟨by rfl, fun U hU => vp_quiet (by (go_simp <;> exact rfl))⟩) ⟨_, by (simp only [Ent.val]; go_simp <;> exact rfl), ?_⟩
  refine Seg.step _ rfl (Or.inl ⟨by rfl, fun U hU => vp_quiet (by (go_simp <;> exact rfl))⟩) ⟨_, by (simp only [Ent.val]; go_simp <;> exact rfl), ?_⟩
  refine Seg.step _ rfl (Or.inl ⟨by rfl, fun U hU => vp_quiet (by (have h0 := held_cell (keep1 hU.1 (Ne.symm df_p1_0_p2_15) r_p2_15) 2 _ rfl; go_simp <;> exact rfl))⟩) ⟨_, by (simp only [Ent.val]; go_simp <;> exact rfl), ?_⟩
  refine Seg.step _ rfl (Or.inl ⟨by rfl, fun U hU => vp_quiet (by (go_simp <;> exact rfl))⟩) ⟨_, by (simp only [Ent.val]; go_simp <;> exact rfl), ?_⟩
  refine Seg.step _ rfl (Or.inl ⟨by rfl, fun U hU => vp_quiet (by (go_simp <;> exact rfl))⟩) ⟨_, by (simp only [Ent.val]; go_simp <;> exact rfl), ?_⟩
  refine Seg.step _ rfl (Or.inl ⟨by rfl, fun U hU => vp_quiet (by (have h0 := held_cell (keep1 hU.1 df_p0_0_p1_0 r_p0_0) 0 _ rfl; go_simp <;> exact rfl))⟩) ⟨_, by (simp only [Ent.val]; go_simp <;> exact rfl), ?_⟩
  refine Seg.step _ rfl (Or.inl ⟨by rfl, fun U hU => vp_quiet (by (go_simp <;> exact rfl))⟩) ⟨_, by (simp only [Ent.val]; go_simp <;> exact rfl), ?_⟩
  refine Seg.step _ rfl (Or.inl ⟨by rfl, fun U hU => vp_quiet (by (go_simp <;> exact rfl))⟩) ⟨_, by (simp only [Ent.val]; go_simp <;> exact rfl), ?_⟩
  refine Seg.step _ rfl (Or.inl ⟨by rfl, fun U hU => vp_quiet (by (have h0 := held_cell (keep1 hU.1 (Ne.symm df_p1_0_p3_0) r_p3_0) 2 _ rfl; go_simp <;> exact rfl))⟩) ⟨_, by (simp only [Ent.val]; go_simp <;> exact rfl), ?_⟩
  refine Seg.step _ rfl (Or.inl ⟨by rfl, fun U hU => ?_⟩) ?_
  · go_simp
    refine vp_calld (j2.out _)
  refine ⟨_, by (simp only [Ent.val]; go_simp <;> exact rfl), ?_⟩
  refine Seg.step _ rfl (Or.inl ⟨by rfl, fun U hU => vp_quiet (by (go_simp <;> exact rfl))⟩) ⟨_, by (simp only [Ent.val]; go_simp <;> exact rfl), ?_⟩
  refine Seg.step _ rfl (Or.inl ⟨by rfl, fun U hU => vp_quiet (by (go_simp <;> exact rfl))⟩) ⟨_, by (simp only [Ent.val]; go_simp <;> exact rfl), ?_⟩
  refine Seg.step _ rfl (Or.inl ⟨by rfl, fun U hU => vp_quiet (by (go_simp <;> exact rfl))⟩) ⟨_, by (simp only [Ent.val]; go_simp <;> exact rfl), ?_⟩
  refine Seg.step _ rfl (Or.inl ⟨by rfl, fun U hU => ?_⟩) ?_
  · go_simp
    refine vp_call (k5.out pp2 qq2 _ (keep1 hU.1 hpp2 rpp2) (keep1 hU.1 hqq2 rqq2))
  refine ⟨_, by (simp only [Ent.val]; go_simp <;> exact rfl), ?_⟩
  refine Seg.step _ rfl (Or.inl ⟨by rfl, fun U hU => vp_quiet (by (go_simp <;> exact rfl))⟩) ⟨_, by (simp only [Ent.val]; go_simp <;> exact rfl), ?_⟩
  refine Seg.step _ rfl ⟨by rfl, fun U g0 o0 o1 hx hc hU hg => ?_⟩ ?_
  · have hx2 := Option.some.inj hx
    cases hx2
    have hc2 := Option.some.inj hc
    cases hc2
    clear hx hc
    go_simp
    exact vp_eff (c5.out p1_0 _ hg)
  refine ⟨_, by (simp only [Ent.val]; go_simp <;> exact rfl), ?_⟩
  refine Seg.step _ rfl (Or.inl ⟨by rfl, fun U hU => vp_quiet (by (go_simp <;> exact rfl))⟩) ⟨_, by (simp only [Ent.val]; go_simp <;> exact rfl), ?_⟩
  refine Seg.stop (fun U33 hU hk hX => ?_)
  have rx := Seg.end1 hX (S := [.q [], .q [], .q [], .q [], .q [], .q [], .q [], .q [], .q [], .q [], .q [], .q [], .q [], .q [], .q [], .q [], .ef 0 none, .q []]) rfl 0 16 (by rfl) rfl rfl
  clear hX
  clear hk hge hne
  replace r_p0_0 := keep1 hU df_p0_0_p1_0 r_p0_0
  replace r_p0_1 := keep1 hU df_p0_1_p1_0 r_p0_1
  replace r_p0_2 := keep1 hU df_p0_2_p1_0 r_p0_2
  clear r_p1_0
  have r_p1_0 := rx
  clear rx
  replace r_p2_14 := keep1 hU (Ne.symm df_p1_0_p2_14) r_p2_14
  replace r_p2_15 := keep1 hU (Ne.symm df_p1_0_p2_15) r_p2_15
  replace r_p3_0 := keep1 hU (Ne.symm df_p1_0_p3_0) r_p3_0
  replace r_p3_1 := keep1 hU (Ne.symm df_p1_0_p3_1) r_p3_1
  replace rpp2 := keep1 hU hpp2 rpp2
  replace rqq2 := keep1 hU hqq2 rqq2
  have sz33 := keep1_size hU
  replace hB := keep1_below hB hU nc hB.size
  clear hU
  obtain ⟨WN, hWN, rn, rO⟩ := one_set r_p3_1 2 (.int .i32 v2)
  have z0 := held_cell r_p3_1 2 _ rfl
  have z1 := held_free r_p3_1 2
  replace rn : Go.RowKit.Hid (WN.heap[p3_1]? = some (.cells #[.int .i32 v0, .int .i32 v1, .int .i32 v2] 51 (0, 0))) := rn
  replace r_p0_0 := hid (heldO rO df_p0_0_p3_1 r_p0_0)
  replace r_p0_1 := hid (heldO rO df_p0_1_p3_1 r_p0_1)
  replace r_p0_2 := hid (heldO rO df_p0_2_p3_1 r_p0_2)
  replace r_p1_0 := hid (heldO rO df_p1_0_p3_1 r_p1_0)
  replace r_p2_14 := hid (heldO rO df_p2_14_p3_1 r_p2_14)
  replace r_p2_15 := hid (heldO rO df_p2_15_p3_1 r_p2_15)
  replace r_p3_0 := hid (heldO rO d_p3_0_p3_1 r_p3_0)
  replace rpp2 := hid (heldO rO h4pp2 rpp2)
  replace rqq2 := hid (heldO rO h4qq2 rqq2)
  replace hB := hid (belowO hB rO no)
  clear rO r_p3_1
  refine Seg.only (m := 18) (k := 0) rfl (by kernel_rfl) (by rfl) (fun K hK => ?_)
  go_simp
  refine hK _ _ (Seg.finish ?_ _)
  clear hK
  go_wp2_with fail
  clear hWN z0 z1
  have r_p3_1 := rn.out
  clear rn
  replace r_p0_0 := r_p0_0.out
  replace r_p0_1 := r_p0_1.out
  replace r_p0_2 := r_p0_2.out
  replace r_p1_0 := r_p1_0.out
  replace r_p2_14 := r_p2_14.out
  replace r_p2_15 := r_p2_15.out
  replace r_p3_0 := r_p3_0.out
  replace rpp2 := rpp2.out
  replace rqq2 := rqq2.out
  replace hB := hB.out
  clear sz33 k5 c5 j2
  rw [rounds_succ]
  go_upto_region 16 with (fail)
  have cc0 := held_cell r_p3_1 0 _ rfl
  have cc1 := held_cell r_p3_1 1 _ rfl
  have cc2 := held_cell r_p3_1 2 _ rfl
  have cc3 := held_cell r_p1_0 0 _ rfl
  have neO : some p3_1 ≠ some p0_2 := fun e => df_p0_2_p3_1 (Option.some.inj e).symm
  have neC : some p1_0 ≠ some p0_2 := fun e => df_p0_2_p1_0 (Option.some.inj e).symm
  have z0 := held_cell r_p0_2 0 _ rfl
  have z1 := held_cell r_p0_2 1 _ rfl
  have z2 := held_cell r_p0_2 2 _ rfl
  have y0 := held_free r_p0_2 0
  have y1 := held_free r_p0_2 1
  have y2 := held_free r_p0_2 2
  obtain ⟨W5, hW5, x0, x1, x2, xO⟩ := three_set (u0 := .int .i32 v0) (u1 := .int .i32 v1) (u2 := .int .i32 v2) r_p0_2
  have hB5 := hid (belowO hB xO n_p0_2)
  have hR5 : RX (some p0_2) WN W5 := ⟨by rw [xO.size]; exact Nat.le_refl _, fun k _ hne => xO.block k (fun e => hne (by rw [e]))⟩
  clear xO hB rpp2 rqq2 r_p0_0 r_p0_1 r_p0_2 r_p1_0 r_p2_14 r_p2_15 r_p3_0 r_p3_1
  refine wp_region_T (some p0_2) 10 (by kernel_rfl) ?_
  refine wpAnyT_take 0 rfl (by kernel_rfl) (by kernel_rfl) (by kernel_rfl) (by kernel_rfl) (fun _ _ _ _ h => h) ⟨_, Or.inl ⟨by rfl, fun w2 hb2 => by (go_simp; try with_reducible rfl)⟩, _, by (go_simp; try rfl), ?_⟩
  refine wpAnyT_take 1 rfl (by kernel_rfl) (by kernel_rfl) (by kernel_rfl) (by kernel_rfl) (fun _ _ _ _ h => h) ⟨_, Or.inl ⟨by rfl, fun w2 hb2 => by (have hx := hb2.cell (show WN.drew.cell? _ = _ from cc0) neO; go_simp; try with_reducible rfl)⟩, _, by (go_simp; try rfl), ?_⟩
  refine wpAnyT_take 2 rfl (by kernel_rfl) (by kernel_rfl) (by kernel_rfl) (by kernel_rfl) (fun _ _ _ _ h => h) ⟨_, Or.inl ⟨by rfl, fun w2 hb2 => by (go_simp; try with_reducible rfl)⟩, _, by (go_simp; try rfl), ?_⟩
  refine wpAnyT_take 3 rfl (by kernel_rfl) (by kernel_rfl) (by kernel_rfl) (by kernel_rfl) (fun _ _ _ _ h => h) ⟨_, Or.inl ⟨by rfl, fun w2 hb2 => by (have hx := hb2.cell (show WN.drew.cell? _ = _ from cc1) neO; go_simp; try with_reducible rfl)⟩, _, by (go_simp; try rfl), ?_⟩
  refine wpAnyT_take 4 rfl (by kernel_rfl) (by kernel_rfl) (by kernel_rfl) (by kernel_rfl) (fun _ _ _ _ h => h) ⟨_, Or.inl ⟨by rfl, fun w2 hb2 => by (go_simp; try with_reducible rfl)⟩, _, by (go_simp; try rfl), ?_⟩
  refine wpAnyT_take 5 rfl (by kernel_rfl) (by kernel_rfl) (by kernel_rfl) (by kernel_rfl) (fun _ _ _ _ h => h) ⟨_, Or.inl ⟨by rfl, fun w2 hb2 => by (have hx := hb2.cell (show WN.drew.cell? _ = _ from cc2) neO; go_simp; try with_reducible rfl)⟩, _, by (go_simp; try rfl), ?_⟩
  refine wpAnyT_take 6 rfl (by kernel_rfl) (by kernel_rfl) (by kernel_rfl) (by kernel_rfl) (fun _ _ _ _ h => h) ⟨_, Or.inl ⟨by rfl, fun w2 hb2 => by (go_simp; try with_reducible rfl)⟩, _, by (go_simp; try rfl), ?_⟩
  refine wpAnyT_take 7 rfl (by kernel_rfl) (by kernel_rfl) (by kernel_rfl) (by kernel_rfl) (fun _ _ _ _ h => h) ⟨_, Or.inl ⟨by rfl, fun w2 hb2 => by (go_simp; try with_reducible rfl)⟩, _, by (go_simp; try rfl), ?_⟩
  refine wpAnyT_take 8 rfl (by kernel_rfl) (by kernel_rfl) (by kernel_rfl) (by kernel_rfl) (fun _ _ _ _ h => h) ⟨_, Or.inl ⟨by rfl, fun w2 hb2 => by (have hx := hb2.cell (show WN.drew.cell? _ = _ from cc3) neC; go_simp; try with_reducible rfl)⟩, _, by (go_simp; try rfl), ?_⟩
  refine wpAnyT_only 9 rfl (by kernel_rfl) (by rfl) (fun K hK => ?_)
  go_simp
  refine hK _ _ ⟨fun _ => ⟨hR5.size, fun k hk hne => hR5.block k hk hne⟩, ?_⟩
  clear hK hR5
  refine wpAnyT_only 10 rfl (by kernel_rfl) (by rfl) (fun K hK => ?_)
  go_simp
  refine hK _ _ ⟨fun _ => RX.refl _ _, wpAnyT_done (by kernel_rfl) ?_ _⟩
  clear hK
  go_wp2_with fail
  refine bodyPost_ret (v := .tuple #[.agg #[.int .i32 v0, .int .i32 v1, .int .i32 v2], .int .i64 (0 + o0 + o1 + o2 + o3 + o4 + o5)]) (by simp [results, Try.results9, go_sem, x0, x1, x2]) rfl ⟨rfl, hB5.out.drew⟩

end Go.Proofs.Yticfolcpnkkidaa
