/- Several texts in one: FuseR, FuseS, FuseL. -/
import Derived.Test.YtpdpcdifnlellaaGreatFZ4
import Derived.Deep.DeepCutAuto
import Derived.Test.YtpdpcdifnlellaaGreatVecMath
import Derived.Laws.StructEq

/- The papers' filter: Start, small, limited, Error, Word. -/
namespace Go.Proofs.YtpdpcdifnlellaaGreat
open Go.ChangeShapes Go.WideShapes Go.ChangeAt Go.RowKit
set_option maxRecDepth 100000
set_option linter.unusedVariables false
set_option linter.unusedSimpArgs false

set_option maxHeartbeats 4000000 in
theorem rsmall_any (a b c d : Int) (w : World) (h1 : B32 a) (h2 : B32 b) (h3 : B32 c) (h4 : B32 d) :
    Calls Tryz.prog 28 #[.int .i32 a, .int .i32 b, .int .i32 c, .int .i32 d] w fun e w' => e = .returned (.int .i64 (crE a b c d)) ∧ w' = w := by
  obtain ⟨⟨l1, l2⟩, l3, l4⟩ := crE_bd h1 h2 h3 h4
  have k1 := hid (fun (v : World) => times_any a b 30 v h1 h2)
  have k2 := hid (fun (v : World) => times_any c d 30 v h3 h4)
  clear h1 h2 h3 h4
  unfold crE at l3 l4 ⊢
  generalize roundS (a * b) 30 = x at *
  generalize roundS (c * d) 30 = y at *
  have f1 : IntKind.i64.wrap (x - y) = x - y := by rw [IntKind.wrap_i64]; omega
  have k3 := hid (fun (v : World) => rround_any (x - y) 14 v (by omega) (by omega))
  clear l1 l2 l3 l4
  generalize roundS (x - y) 14 = z at *
  go_enter Tryz.func28, Tryz.ntmps28
  go_wp2_with fail
  refine (k1.out _).mono ?_
  rintro e w1 ⟨rfl, rfl⟩
  go_wp2_with fail
  refine (k2.out _).mono ?_
  rintro e w2 ⟨rfl, rfl⟩
  go_wp2_with fail
  refine (k3.out _).mono ?_
  rintro e w3 ⟨rfl, rfl⟩
  go_wp2_with fail
  go_ret
  exact ⟨rfl, rfl⟩
set_option maxHeartbeats 2000000 in
theorem rlim_any (n : Int) (w : World) : Calls Tryz.prog 36 #[.int .i32 n] w fun e w' => e = .returned (.tuple #[.int .i32 (limS n), .int .i64 (limK n)]) ∧ w' = w := by
  by_cases c1 : n > 16384
  · have d1 : decide ((16384 : Int) < n) = true := by simp; omega
    have e1 : limS n = 16384 := by unfold limS; rw [if_pos c1]
    have e2 : limK n = 1 := by unfold limK; rw [if_pos c1]
    rw [e1, e2]
    clear e1 e2 c1
    go_enter Tryz.func36, Tryz.ntmps36
    go_wp2_with fail
    go_ret2
    exact ⟨rfl, rfl⟩
  have d1 : decide ((16384 : Int) < n) = false := by simp; omega
  by_cases c2 : n < -16384
  · have d2 : decide (n < -16384) = true := by simp; omega
    have e1 : limS n = -16384 := by unfold limS; rw [if_neg c1, if_pos c2]
    have e2 : limK n = 1 := by unfold limK; rw [if_neg c1, if_pos c2]
    rw [e1, e2]
    clear e1 e2 c1 c2
    go_enter Tryz.func36, Tryz.ntmps36
    go_wp2_with fail
    go_ret2
    exact ⟨rfl, rfl⟩
  have d2 : decide (n < -16384) = false := by simp; omega
  have e1 : limS n = n := by unfold limS; rw [if_neg c1, if_neg c2]
  have e2 : limK n = 0 := by unfold limK; rw [if_neg c1, if_neg c2]
  rw [e1, e2]
  clear e1 e2 c1 c2
  go_enter Tryz.func36, Tryz.ntmps36
  go_wp2_with fail
  go_ret2
  exact ⟨rfl, rfl⟩
set_option maxHeartbeats 8000000 in
theorem rerr_any (x y z t a b c : Int) (w : World) (p0 : B32 x) (p1 : B32 y) (p2 : B32 z) (p3 : B32 t) (s0 : B32 a) (s1 : B32 b) (s2 : B32 c) :
    Calls Tryz.prog 8 #[.agg #[.int .i32 x, .int .i32 y, .int .i32 z, .int .i32 t], .agg #[.int .i32 a, .int .i32 b, .int .i32 c]] w fun e w' => e = .returned (.tuple #[.agg #[.int .i32 (errS x y z t a b c).1, .int .i32 (errS x y z t a b c).2.1, .int .i32 (errS x y z t a b c).2.2.1], .bool (errS x y z t a b c).2.2.2]) ∧ Below w.heap.size w w' := by
  have kL := hid (fun (v : World) => rvlength_any a b c v s0 s1 s2)
  have hLt := lengthS_lt a b c
  by_cases hin : errIn a b c
  case neg =>
    have hE : errS x y z t a b c = (0, 0, 0, false) := if_neg hin
    rw [hE]
    dsimp only
    unfold errIn at hin
    clear hE p0 p1 p2 p3 s0 s1 s2
    generalize lengthS [a, b, c] = L at *
    by_cases hlo : L < 32768
    case pos =>
      have d1 : decide ((L : Int) < 32768) = true := by simp; omega
      clear hin
      go_enter Tryz.func8, Tryz.ntmps8
      go_upto_region 0 with (fail)
      apply wp_region_seg0 (w := w) (S := [.al 1000, .al 1000, .al 1000, .q []]) (E := [.al ((fun p => .pointer (some ⟨p, 0, none⟩)), _) 1000, .al ((fun p => .pointer (some ⟨p, 0, none⟩)), _) 1000, .al ((fun p => .pointer (some ⟨p, 0, none⟩)), _) 1000, .q0 _]) rfl (by kernel_rfl) rfl rfl
      intro th hge hne
      refine Seg.step _ rfl ⟨by rfl, fun U hU => ?_⟩ ?_
      · go_simp; exact vp_alloc rfl rfl rfl
      refine Seg.sa ?_
      refine Seg.step _ rfl ⟨by rfl, fun U hU => ?_⟩ ?_
      · go_simp; exact vp_alloc rfl rfl rfl
      refine Seg.sa ?_
      refine Seg.step _ rfl ⟨by rfl, fun U hU => ?_⟩ ?_
      · go_simp; exact vp_alloc rfl rfl rfl
      refine Seg.sa ?_
      refine Seg.sq ?_
      refine Seg.stop (fun U1 hU hk => ?_)
      have nb0 := hge 0 _ _ rfl
      have rb0 := (hk 0 _ _ rfl trivial).1.2 (by simp)
      have nb1 := hge 1 _ _ rfl
      have rb1 := (hk 1 _ _ rfl trivial).1.2 (by simp)
      have nb2 := hge 2 _ _ rfl
      have rb2 := (hk 2 _ _ rfl trivial).1.2 (by simp)
      have ne0_1 := hne 0 1 _ _ _ _ rfl rfl (by omega)
      have ne0_2 := hne 0 2 _ _ _ _ rfl rfl (by omega)
      have ne1_2 := hne 1 2 _ _ _ _ rfl rfl (by omega)
      clear hk hge hne
      generalize th (0 + 0) = p0_0 at *
      dsimp only at rb0
      generalize th (0 + 1) = p0_1 at *
      dsimp only at rb1
      generalize th (0 + 2) = p0_2 at *
      dsimp only at rb2
      have r_p0_0 := rb0
      clear rb0
      have n_p0_0 := nb0
      clear nb0
      have d_p0_0_p0_1 := ne0_1
      clear ne0_1
      have d_p0_0_p0_2 := ne0_2
      clear ne0_2
      have r_p0_1 := rb1
      clear rb1
      have n_p0_1 := nb1
      clear nb1
      have d_p0_1_p0_2 := ne1_2
      clear ne1_2
      have r_p0_2 := rb2
      clear rb2
      have n_p0_2 := nb2
      clear nb2
      have sz1 := hU.size
      have hB : Below w.heap.size w U1 := hU
      clear hU
      go_upto_region 1 with (fail)
      apply wp_region_seg0 (w := U1) (S := [.q [], .q [], .q []]) (E := [.q0 _, .c0 _, .q0 _]) rfl (by kernel_rfl) rfl rfl
      intro th hge hne
      refine Seg.sq ?_ (ht := Or.inl ⟨by rfl, fun U hU => vp_quiet (by (have h0 := held_cell (held_after hU.1 r_p0_1) 0 _ rfl; have h1 := held_cell (held_after hU.1 r_p0_1) 1 _ rfl; have h2 := held_cell (held_after hU.1 r_p0_1) 2 _ rfl; go_simp <;> exact rfl))⟩)
      refine Seg.step _ rfl (Or.inl ⟨by rfl, fun U hU => ?_⟩) ?_
      · go_simp
        refine vp_call (kL.out _)
      refine Seg.sa ?_
      refine Seg.sq ?_
      refine Seg.stop (fun U2 hU hk => ?_)
      clear hk hge hne
      replace r_p0_0 := held_after hU r_p0_0
      replace r_p0_1 := held_after hU r_p0_1
      replace r_p0_2 := held_after hU r_p0_2
      have sz2 := hU.size
      replace hB := bthen hB hU
      clear hU
      have z0 := held_cell r_p0_2 0 _ rfl
      have z1 := held_cell r_p0_2 1 _ rfl
      have z2 := held_cell r_p0_2 2 _ rfl
      have g0 := held_free r_p0_2 0
      have g1 := held_free r_p0_2 1
      have g2 := held_free r_p0_2 2
      obtain ⟨W9, hW9, ya, yO⟩ := st3 r_p0_2 (.int .i32 0) (.int .i32 0) (.int .i32 0)
      have hB9 := hid (belowS hB yO (by omega))
      have ez0 := held_cell ya 0 _ rfl
      have ez1 := held_cell ya 1 _ rfl
      have ez2 := held_cell ya 2 _ rfl
      clear ya yO hB
      go_wp2_with fail
      refine bodyPost_ret (v := .tuple #[.agg #[.int .i32 0, .int .i32 0, .int .i32 0], .bool false]) (by simp [results, Tryz.results8, go_sem, ez0, ez1, ez2]) rfl ⟨rfl, hB9.out⟩
    have d1 : decide ((L : Int) < 32768) = false := by simp; omega
    have d2 : decide ((98304 : Int) < (L : Int)) = true := by simp; omega
    clear hin
    go_enter Tryz.func8, Tryz.ntmps8
    go_upto_region 0 with (fail)
    apply wp_region_seg0 (w := w) (S := [.al 1000, .al 1000, .al 1000, .q []]) (E := [.al ((fun p => .pointer (some ⟨p, 0, none⟩)), _) 1000, .al ((fun p => .pointer (some ⟨p, 0, none⟩)), _) 1000, .al ((fun p => .pointer (some ⟨p, 0, none⟩)), _) 1000, .q0 _]) rfl (by kernel_rfl) rfl rfl
    intro th hge hne
    refine Seg.step _ rfl ⟨by rfl, fun U hU => ?_⟩ ?_
    · go_simp; exact vp_alloc rfl rfl rfl
    refine Seg.sa ?_
    refine Seg.step _ rfl ⟨by rfl, fun U hU => ?_⟩ ?_
    · go_simp; exact vp_alloc rfl rfl rfl
    refine Seg.sa ?_
    refine Seg.step _ rfl ⟨by rfl, fun U hU => ?_⟩ ?_
    · go_simp; exact vp_alloc rfl rfl rfl
    refine Seg.sa ?_
    refine Seg.sq ?_
    refine Seg.stop (fun U1 hU hk => ?_)
    have nb0 := hge 0 _ _ rfl
    have rb0 := (hk 0 _ _ rfl trivial).1.2 (by simp)
    have nb1 := hge 1 _ _ rfl
    have rb1 := (hk 1 _ _ rfl trivial).1.2 (by simp)
    have nb2 := hge 2 _ _ rfl
    have rb2 := (hk 2 _ _ rfl trivial).1.2 (by simp)
    have ne0_1 := hne 0 1 _ _ _ _ rfl rfl (by omega)
    have ne0_2 := hne 0 2 _ _ _ _ rfl rfl (by omega)
    have ne1_2 := hne 1 2 _ _ _ _ rfl rfl (by omega)
    clear hk hge hne
    generalize th (0 + 0) = p0_0 at *
    dsimp only at rb0
    generalize th (0 + 1) = p0_1 at *
    dsimp only at rb1
    generalize th (0 + 2) = p0_2 at *
    dsimp only at rb2
    have r_p0_0 := rb0
    clear rb0
    have n_p0_0 := nb0
    clear nb0
    have d_p0_0_p0_1 := ne0_1
    clear ne0_1
    have d_p0_0_p0_2 := ne0_2
    clear ne0_2
    have r_p0_1 := rb1
    clear rb1
    have n_p0_1 := nb1
    clear nb1
    have d_p0_1_p0_2 := ne1_2
    clear ne1_2
    have r_p0_2 := rb2
    clear rb2
    have n_p0_2 := nb2
    clear nb2
    have sz1 := hU.size
    have hB : Below w.heap.size w U1 := hU
    clear hU
    go_upto_region 1 with (fail)
    apply wp_region_seg0 (w := U1) (S := [.q [], .q [], .q []]) (E := [.q0 _, .c0 _, .q0 _]) rfl (by kernel_rfl) rfl rfl
    intro th hge hne
    refine Seg.sq ?_ (ht := Or.inl ⟨by rfl, fun U hU => vp_quiet (by (have h0 := held_cell (held_after hU.1 r_p0_1) 0 _ rfl; have h1 := held_cell (held_after hU.1 r_p0_1) 1 _ rfl; have h2 := held_cell (held_after hU.1 r_p0_1) 2 _ rfl; go_simp <;> exact rfl))⟩)
    refine Seg.step _ rfl (Or.inl ⟨by rfl, fun U hU => ?_⟩) ?_
    · go_simp
      refine vp_call (kL.out _)
    refine Seg.sa ?_
    refine Seg.sq ?_
    refine Seg.stop (fun U2 hU hk => ?_)
    clear hk hge hne
    replace r_p0_0 := held_after hU r_p0_0
    replace r_p0_1 := held_after hU r_p0_1
    replace r_p0_2 := held_after hU r_p0_2
    have sz2 := hU.size
    replace hB := bthen hB hU
    clear hU
    have z0 := held_cell r_p0_2 0 _ rfl
    have z1 := held_cell r_p0_2 1 _ rfl
    have z2 := held_cell r_p0_2 2 _ rfl
    have g0 := held_free r_p0_2 0
    have g1 := held_free r_p0_2 1
    have g2 := held_free r_p0_2 2
    obtain ⟨W9, hW9, ya, yO⟩ := st3 r_p0_2 (.int .i32 0) (.int .i32 0) (.int .i32 0)
    have hB9 := hid (belowS hB yO (by omega))
    have ez0 := held_cell ya 0 _ rfl
    have ez1 := held_cell ya 1 _ rfl
    have ez2 := held_cell ya 2 _ rfl
    clear ya yO hB
    go_wp2_with fail
    refine bodyPost_ret (v := .tuple #[.agg #[.int .i32 0, .int .i32 0, .int .i32 0], .bool false]) (by simp [results, Tryz.results8, go_sem, ez0, ez1, ez2]) rfl ⟨rfl, hB9.out⟩
  have hE : errS x y z t a b c = (clampS (crE (ueS a b c).2.1 (clampS (upZ x y z t)) (ueS a b c).2.2 (clampS (upY x y z t))), clampS (crE (ueS a b c).2.2 (clampS (upX x y z t)) (ueS a b c).1 (clampS (upZ x y z t))), clampS (crE (ueS a b c).1 (clampS (upY x y z t)) (ueS a b c).2.1 (clampS (upX x y z t))), true) := if_pos hin
  rw [hE]
  dsimp only
  clear hE
  have kU := hid (fun (v : World) => unit_in hin ▸ runit_any a b c v s0 s1 s2)
  have kV := hid (fun (v : World) => (show upV x y z t = Value.agg #[.int .i32 (clampS (upX x y z t)), .int .i32 (clampS (upY x y z t)), .int .i32 (clampS (upZ x y z t))] from rfl) ▸ rup_any x y z t v p0 p1 p2 p3)
  unfold errIn at hin
  have bu0 : B32 (ueS a b c).1 := b32_unit _ _
  have bu1 : B32 (ueS a b c).2.1 := b32_unit _ _
  have bu2 : B32 (ueS a b c).2.2 := b32_unit _ _
  have bv0 := b32_clamp (upX x y z t)
  have bv1 := b32_clamp (upY x y z t)
  have bv2 := b32_clamp (upZ x y z t)
  clear p0 p1 p2 p3 s0 s1 s2
  generalize lengthS [a, b, c] = L at *
  generalize (ueS a b c).1 = u0 at *
  generalize (ueS a b c).2.1 = u1 at *
  generalize (ueS a b c).2.2 = u2 at *
  generalize clampS (upX x y z t) = v0 at *
  generalize clampS (upY x y z t) = v1 at *
  generalize clampS (upZ x y z t) = v2 at *
  have d1 : decide ((L : Int) < 32768) = false := by simp; omega
  have d2 : decide ((98304 : Int) < (L : Int)) = false := by simp; omega
  have c0 := hid (fun (v : World) => rsmall_any u1 v2 u2 v1 v bu1 bv2 bu2 bv1)
  have c1 := hid (fun (v : World) => rsmall_any u2 v0 u0 v2 v bu2 bv0 bu0 bv2)
  have c2 := hid (fun (v : World) => rsmall_any u0 v1 u1 v0 v bu0 bv1 bu1 bv0)
  have i0 := (crE_bd bu1 bv2 bu2 bv1).2
  have i1 := (crE_bd bu2 bv0 bu0 bv2).2
  have i2 := (crE_bd bu0 bv1 bu1 bv0).2
  clear hin bu0 bu1 bu2 bv0 bv1 bv2
  generalize crE u1 v2 u2 v1 = x0 at *
  generalize crE u2 v0 u0 v2 = x1 at *
  generalize crE u0 v1 u1 v0 = x2 at *
  have c3 := hid (fun (v : World) => cutE x0 x1 x2 ▸ cut_any x0 x1 x2 v i0 i1 i2)
  generalize clampS x0 = e0 at *
  generalize clampS x1 = e1 at *
  generalize clampS x2 = e2 at *
  generalize oneIf (clampB x0) + oneIf (clampB x1) + oneIf (clampB x2) = nn at *
  clear i0 i1 i2
  go_enter Tryz.func8, Tryz.ntmps8
  go_upto_region 0 with (fail)
  apply wp_region_seg0 (w := w) (S := [.al 1000, .al 1000, .al 1000, .q []]) (E := [.al ((fun p => .pointer (some ⟨p, 0, none⟩)), _) 1000, .al ((fun p => .pointer (some ⟨p, 0, none⟩)), _) 1000, .al ((fun p => .pointer (some ⟨p, 0, none⟩)), _) 1000, .q0 _]) rfl (by kernel_rfl) rfl rfl
  intro th hge hne
  refine Seg.step _ rfl ⟨by rfl, fun U hU => ?_⟩ ?_
  · go_simp; exact vp_alloc rfl rfl rfl
  refine Seg.sa ?_
  refine Seg.step _ rfl ⟨by rfl, fun U hU => ?_⟩ ?_
  · go_simp; exact vp_alloc rfl rfl rfl
  refine Seg.sa ?_
  refine Seg.step _ rfl ⟨by rfl, fun U hU => ?_⟩ ?_
  · go_simp; exact vp_alloc rfl rfl rfl
  refine Seg.sa ?_
  refine Seg.sq ?_
  refine Seg.stop (fun U1 hU hk => ?_)
  have nb0 := hge 0 _ _ rfl
  have rb0 := (hk 0 _ _ rfl trivial).1.2 (by simp)
  have nb1 := hge 1 _ _ rfl
  have rb1 := (hk 1 _ _ rfl trivial).1.2 (by simp)
  have nb2 := hge 2 _ _ rfl
  have rb2 := (hk 2 _ _ rfl trivial).1.2 (by simp)
  have ne0_1 := hne 0 1 _ _ _ _ rfl rfl (by omega)
  have ne0_2 := hne 0 2 _ _ _ _ rfl rfl (by omega)
  have ne1_2 := hne 1 2 _ _ _ _ rfl rfl (by omega)
  clear hk hge hne
  generalize th (0 + 0) = p0_0 at *
  dsimp only at rb0
  generalize th (0 + 1) = p0_1 at *
  dsimp only at rb1
  generalize th (0 + 2) = p0_2 at *
  dsimp only at rb2
  have r_p0_0 := rb0
  clear rb0
  have n_p0_0 := nb0
  clear nb0
  have d_p0_0_p0_1 := ne0_1
  clear ne0_1
  have d_p0_0_p0_2 := ne0_2
  clear ne0_2
  have r_p0_1 := rb1
  clear rb1
  have n_p0_1 := nb1
  clear nb1
  have d_p0_1_p0_2 := ne1_2
  clear ne1_2
  have r_p0_2 := rb2
  clear rb2
  have n_p0_2 := nb2
  clear nb2
  have sz1 := hU.size
  have hB : Below w.heap.size w U1 := hU
  clear hU
  go_upto_region 1 with (fail)
  apply wp_region_seg0 (w := U1) (S := [.q [], .q [], .q []]) (E := [.q0 _, .c0 _, .q0 _]) rfl (by kernel_rfl) rfl rfl
  intro th hge hne
  refine Seg.sq ?_ (ht := Or.inl ⟨by rfl, fun U hU => vp_quiet (by (have h0 := held_cell (held_after hU.1 r_p0_1) 0 _ rfl; have h1 := held_cell (held_after hU.1 r_p0_1) 1 _ rfl; have h2 := held_cell (held_after hU.1 r_p0_1) 2 _ rfl; go_simp <;> exact rfl))⟩)
  refine Seg.step _ rfl (Or.inl ⟨by rfl, fun U hU => ?_⟩) ?_
  · go_simp
    refine vp_call (kL.out _)
  refine Seg.sa ?_
  refine Seg.sq ?_
  refine Seg.stop (fun U2 hU hk => ?_)
  clear hk hge hne
  replace r_p0_0 := held_after hU r_p0_0
  replace r_p0_1 := held_after hU r_p0_1
  replace r_p0_2 := held_after hU r_p0_2
  have sz2 := hU.size
  replace hB := bthen hB hU
  clear hU
  go_upto_region 4 with (fail)
  apply wp_region_seg0 (w := U2) (S := [.q [], .q [], .q [], .q [], .q [], .al 6, .st 5 [], .q []]) (E := [.q0 _, .c0 _, .q0 _, .q0 _, .q0 _, .al ((fun p => .pointer (some ⟨p, 0, none⟩)), _) 6, .s0 5 (.cells _ _), .q0 _]) rfl (by kernel_rfl) rfl rfl
  intro th hge hne
  refine Seg.sq ?_ (ht := Or.inl ⟨by rfl, fun U hU => vp_quiet (by (have h0 := held_cell (held_after hU.1 r_p0_1) 0 _ rfl; have h1 := held_cell (held_after hU.1 r_p0_1) 1 _ rfl; have h2 := held_cell (held_after hU.1 r_p0_1) 2 _ rfl; go_simp <;> exact rfl))⟩)
  refine Seg.step _ rfl (Or.inl ⟨by rfl, fun U hU => ?_⟩) ?_
  · go_simp
    refine vp_call (kU.out _)
  refine Seg.sa ?_
  iterate 3 refine Seg.sq ?_
  refine Seg.step _ rfl ⟨by rfl, fun U hU => ?_⟩ ?_
  · go_simp; exact vp_alloc rfl rfl rfl
  refine Seg.sa ?_
  refine Seg.step _ rfl ⟨by rfl, fun U z k hz hU hc => ?_⟩ ?_
  · have hz2 := Option.some.inj hz
    cases hz2; clear hz
    exact vp_store_agg _ _ _ rfl hc rfl rfl (by kernel_rfl) rfl (by rfl)
  refine Seg.sa ?_
  refine Seg.sq ?_
  refine Seg.stop (fun U3 hU hk => ?_)
  have nb5 := hge 5 _ _ rfl
  have rb5 := (hk 5 _ 6 rfl trivial).1.1 trivial _ (Nat.zero_le _) rfl
  clear hk hge hne
  generalize th (0 + 5) = p4_5 at *
  simp only [Ent.obj] at rb5
  replace r_p0_0 := held_after hU r_p0_0
  replace r_p0_1 := held_after hU r_p0_1
  replace r_p0_2 := held_after hU r_p0_2
  have r_p4_5 := rb5
  clear rb5
  have n_p4_5 := nb5
  clear nb5
  have sz3 := hU.size
  replace hB := bthen hB hU
  clear hU
  go_upto_region 5 with (fail)
  apply wp_region_seg0 (w := U3) (S := [.q [], .q [], .al 3, .st 2 []]) (E := [.q0 _, .c0 _, .al ((fun p => .pointer (some ⟨p, 0, none⟩)), _) 3, .s0 2 (.cells _ _)]) rfl (by kernel_rfl) rfl rfl
  intro th hge hne
  refine Seg.sq ?_ (ht := Or.inl ⟨by rfl, fun U hU => vp_quiet (by (have h0 := held_cell (held_after hU.1 r_p0_0) 0 _ rfl; have h1 := held_cell (held_after hU.1 r_p0_0) 1 _ rfl; have h2 := held_cell (held_after hU.1 r_p0_0) 2 _ rfl; have h3 := held_cell (held_after hU.1 r_p0_0) 3 _ rfl; go_simp <;> exact rfl))⟩)
  refine Seg.step _ rfl (Or.inl ⟨by rfl, fun U hU => ?_⟩) ?_
  · go_simp
    refine vp_call (kV.out _)
  refine Seg.sa ?_
  refine Seg.step _ rfl ⟨by rfl, fun U hU => ?_⟩ ?_
  · go_simp; exact vp_alloc rfl rfl rfl
  refine Seg.sa ?_
  refine Seg.step _ rfl ⟨by rfl, fun U z k hz hU hc => ?_⟩ ?_
  · have hz2 := Option.some.inj hz
    cases hz2; clear hz
    exact vp_store_agg _ _ _ rfl hc rfl rfl (by kernel_rfl) rfl (by rfl)
  refine Seg.sa ?_
  refine Seg.stop (fun U4 hU hk => ?_)
  have nb2 := hge 2 _ _ rfl
  have rb2 := (hk 2 _ 3 rfl trivial).1.1 trivial _ (Nat.zero_le _) rfl
  clear hk hge hne
  generalize th (0 + 2) = p5_2 at *
  simp only [Ent.obj] at rb2
  replace r_p0_0 := held_after hU r_p0_0
  replace r_p0_1 := held_after hU r_p0_1
  replace r_p0_2 := held_after hU r_p0_2
  replace r_p4_5 := held_after hU r_p4_5
  have r_p5_2 := rb2
  clear rb2
  have n_p5_2 := nb2
  clear nb2
  have sz4 := hU.size
  replace hB := bthen hB hU
  clear hU
  go_upto_region 6 with (fail)
  apply wp_region_seg (w := U4) (S := (.q [] :: .q [] :: .q [] :: .q [] :: .q [] :: .q [] :: .q [] :: .q [] :: .q [] :: .q [] :: .q [] :: .q [] :: .q [] :: .q [] :: .q [] :: .q [] :: .q [] :: .q [] :: .q [] :: .q [] :: .q [] :: .q [] :: .q [] :: .q [] :: .q [] :: .q [] :: .q [] :: .q [] :: .q [] :: .q [] :: .q [] :: .al 32 :: .st 31 [] :: .q [] :: [])) (E := (.q0 _ :: .q0 _ :: .q0 _ :: .q0 _ :: .q0 _ :: .q0 _ :: .q0 _ :: .q0 _ :: .c0 _ :: .q0 _ :: .q0 _ :: .q0 _ :: .q0 _ :: .q0 _ :: .q0 _ :: .q0 _ :: .q0 _ :: .c0 _ :: .q0 _ :: .q0 _ :: .q0 _ :: .q0 _ :: .q0 _ :: .q0 _ :: .q0 _ :: .q0 _ :: .c0 _ :: .c0 _ :: .q0 _ :: .q0 _ :: .q0 _ :: .al ((fun p => .pointer (some ⟨p, 0, none⟩)), _) 32 :: .s0 31 (.cells _ _) :: .q0 _ :: [])) (by kernel_rfl) rfl (by kernel_rfl) rfl rfl
  intro th hge hne
  refine Seg.sq ?_
  refine Seg.sq ?_ (ht := Or.inl ⟨by rfl, fun U hU => vp_quiet (by (have h0 := held_cell (held_after hU.1 r_p4_5) 1 _ rfl; go_simp <;> exact rfl))⟩)
  refine Seg.sq ?_
  refine Seg.sq ?_ (ht := Or.inl ⟨by rfl, fun U hU => vp_quiet (by (have h0 := held_cell (held_after hU.1 r_p5_2) 2 _ rfl; go_simp <;> exact rfl))⟩)
  refine Seg.sq ?_
  refine Seg.sq ?_ (ht := Or.inl ⟨by rfl, fun U hU => vp_quiet (by (have h0 := held_cell (held_after hU.1 r_p4_5) 2 _ rfl; go_simp <;> exact rfl))⟩)
  refine Seg.sq ?_
  refine Seg.sq ?_ (ht := Or.inl ⟨by rfl, fun U hU => vp_quiet (by (have h0 := held_cell (held_after hU.1 r_p5_2) 1 _ rfl; go_simp <;> exact rfl))⟩)
  refine Seg.step _ rfl (Or.inl ⟨by rfl, fun U hU => ?_⟩) ?_
  · go_simp
    refine vp_calls (c0.out _)
  refine Seg.sa ?_
  refine Seg.sq ?_
  refine Seg.sq ?_ (ht := Or.inl ⟨by rfl, fun U hU => vp_quiet (by (have h0 := held_cell (held_after hU.1 r_p4_5) 2 _ rfl; go_simp <;> exact rfl))⟩)
  refine Seg.sq ?_
  refine Seg.sq ?_ (ht := Or.inl ⟨by rfl, fun U hU => vp_quiet (by (have h0 := held_cell (held_after hU.1 r_p5_2) 0 _ rfl; go_simp <;> exact rfl))⟩)
  refine Seg.sq ?_
  refine Seg.sq ?_ (ht := Or.inl ⟨by rfl, fun U hU => vp_quiet (by (have h0 := held_cell (held_after hU.1 r_p4_5) 0 _ rfl; go_simp <;> exact rfl))⟩)
  refine Seg.sq ?_
  refine Seg.sq ?_ (ht := Or.inl ⟨by rfl, fun U hU => vp_quiet (by (have h0 := held_cell (held_after hU.1 r_p5_2) 2 _ rfl; go_simp <;> exact rfl))⟩)
  refine Seg.step _ rfl (Or.inl ⟨by rfl, fun U hU => ?_⟩) ?_
  · go_simp
    refine vp_calls (c1.out _)
  refine Seg.sa ?_
  refine Seg.sq ?_
  refine Seg.sq ?_ (ht := Or.inl ⟨by rfl, fun U hU => vp_quiet (by (have h0 := held_cell (held_after hU.1 r_p4_5) 0 _ rfl; go_simp <;> exact rfl))⟩)
  refine Seg.sq ?_
  refine Seg.sq ?_ (ht := Or.inl ⟨by rfl, fun U hU => vp_quiet (by (have h0 := held_cell (held_after hU.1 r_p5_2) 1 _ rfl; go_simp <;> exact rfl))⟩)
  refine Seg.sq ?_
  refine Seg.sq ?_ (ht := Or.inl ⟨by rfl, fun U hU => vp_quiet (by (have h0 := held_cell (held_after hU.1 r_p4_5) 1 _ rfl; go_simp <;> exact rfl))⟩)
  refine Seg.sq ?_
  refine Seg.sq ?_ (ht := Or.inl ⟨by rfl, fun U hU => vp_quiet (by (have h0 := held_cell (held_after hU.1 r_p5_2) 0 _ rfl; go_simp <;> exact rfl))⟩)
  refine Seg.step _ rfl (Or.inl ⟨by rfl, fun U hU => ?_⟩) ?_
  · go_simp
    refine vp_calls (c2.out _)
  refine Seg.sa ?_
  refine Seg.step _ rfl (Or.inl ⟨by rfl, fun U hU => ?_⟩) ?_
  · go_simp
    refine vp_call (c3.out _)
  refine Seg.sa ?_
  iterate 3 refine Seg.sq ?_
  refine Seg.step _ rfl ⟨by rfl, fun U hU => ?_⟩ ?_
  · go_simp; exact vp_alloc rfl rfl rfl
  refine Seg.sa ?_
  refine Seg.step _ rfl ⟨by rfl, fun U z k hz hU hc => ?_⟩ ?_
  · have hz2 := Option.some.inj hz
    cases hz2; clear hz
    exact vp_store_agg _ _ _ rfl hc rfl rfl (by kernel_rfl) rfl (by rfl)
  refine Seg.sa ?_
  refine Seg.sq ?_
  refine Seg.stop (fun U5 hU hk => ?_)
  have nb31 := hge 31 _ _ rfl
  have rb31 := (hk 31 _ 32 rfl trivial).1.1 trivial _ (Nat.zero_le _) rfl
  clear hk hge hne
  generalize th (0 + 31) = p6_31 at *
  simp only [Ent.obj] at rb31
  replace r_p0_0 := held_after hU r_p0_0
  replace r_p0_1 := held_after hU r_p0_1
  replace r_p0_2 := held_after hU r_p0_2
  replace r_p4_5 := held_after hU r_p4_5
  replace r_p5_2 := held_after hU r_p5_2
  have r_p6_31 := rb31
  clear rb31
  have n_p6_31 := nb31
  clear nb31
  have sz5 := hU.size
  replace hB := bthen hB hU
  clear hU
  have y0 := held_cell r_p6_31 0 _ rfl
  have y1 := held_cell r_p6_31 1 _ rfl
  have y2 := held_cell r_p6_31 2 _ rfl
  have z0 := held_cell r_p0_2 0 _ rfl
  have z1 := held_cell r_p0_2 1 _ rfl
  have z2 := held_cell r_p0_2 2 _ rfl
  have g0 := held_free r_p0_2 0
  have g1 := held_free r_p0_2 1
  have g2 := held_free r_p0_2 2
  obtain ⟨W9, hW9, ya, yO⟩ := st3 r_p0_2 (.int .i32 e0) (.int .i32 e1) (.int .i32 e2)
  have hB9 := hid (belowS hB yO (by omega))
  have ez0 := held_cell ya 0 _ rfl
  have ez1 := held_cell ya 1 _ rfl
  have ez2 := held_cell ya 2 _ rfl
  clear ya yO hB
  go_wp2_with fail
  refine bodyPost_ret (v := .tuple #[.agg #[.int .i32 e0, .int .i32 e1, .int .i32 e2], .bool true]) (by simp [results, Tryz.results8, go_sem, ez0, ez1, ez2]) rfl ⟨rfl, hB9.out⟩
set_option maxHeartbeats 4000000 in
theorem rfword_any (q0 q1 q2 q3 b0 b1 b2 st cu x : Int) (ok : Bool) (hP : packT q0 q1 q2 q3 = .tuple #[.int .u32 x, .bool ok]) (w : World) (p0 : B32 q0) (p1 : B32 q1) (p2 : B32 q2) (p3 : B32 q3) : Calls Tryz.prog 13 #[.agg #[.int .i32 q0, .int .i32 q1, .int .i32 q2, .int .i32 q3, .int .i32 b0, .int .i32 b1, .int .i32 b2, .int .i64 st, .int .i64 cu]] w fun e w' => e = .returned (.int .u32 x) ∧ Below w.heap.size w w' := by
  have k1 := hid (fun U => hP ▸ rpack_any q0 q1 q2 q3 U p0 p1 p2 p3)
  clear hP p0 p1 p2 p3
  go_enter Tryz.func13, Tryz.ntmps13
  go_upto_region 0 with (fail)
  apply wp_region_seg0 (w := w) (S := [.al 1000, .q []]) (E := [.al ((fun p => .pointer (some ⟨p, 0, none⟩)), _) 1000, .q0 _]) rfl (by kernel_rfl) rfl rfl
  intro th hge hne
  refine Seg.step _ rfl ⟨by rfl, fun U hU => ?_⟩ ?_
  · go_simp; exact vp_alloc rfl rfl rfl
  refine Seg.sa ?_
  refine Seg.sq ?_
  refine Seg.stop (fun U1 hU hk => ?_)
  have nb0 := hge 0 _ _ rfl
  have rb0 := (hk 0 _ _ rfl trivial).1.2 (by simp)
  clear hk hge hne
  generalize th (0 + 0) = p0_0 at *
  dsimp only at rb0
  have r_p0_0 := rb0
  clear rb0
  have n_p0_0 := nb0
  clear nb0
  have sz1 := hU.size
  have hB : Below w.heap.size w U1 := hU
  clear hU
  go_upto_region 1 with (fail)
  apply wp_region_seg0 (w := U1) (S := [.q [], .q [], .q [], .q [], .q [], .q [], .q [], .q []]) (E := [.q0 _, .q0 _, .c0 _, .q0 _, .q0 _, .q0 _, .q0 _, .q0 _]) rfl (by kernel_rfl) rfl rfl
  intro th hge hne
  refine Seg.sq ?_
  refine Seg.sq ?_ (ht := Or.inl ⟨by rfl, fun U hU => vp_quiet (by (have h0 := held_cell (held_after hU.1 r_p0_0) 0 _ rfl; have h1 := held_cell (held_after hU.1 r_p0_0) 1 _ rfl; have h2 := held_cell (held_after hU.1 r_p0_0) 2 _ rfl; have h3 := held_cell (held_after hU.1 r_p0_0) 3 _ rfl; go_simp <;> exact rfl))⟩)
  refine Seg.step _ rfl (Or.inl ⟨by rfl, fun U hU => ?_⟩) ?_
  · go_simp
    refine vp_call (k1.out _)
  refine Seg.sa ?_
  iterate 5 refine Seg.sq ?_
  refine Seg.stop (fun U2 hU hk => ?_)
  clear hk hge hne
  replace r_p0_0 := held_after hU r_p0_0
  have sz2 := hU.size
  replace hB := bthen hB hU
  clear hU
  go_wp2_with fail
  go_ret
  exact ⟨rfl, hB⟩
set_option maxHeartbeats 4000000 in
theorem rfstart_any (w : World) : Calls Tryz.prog 15 #[] w fun e w' => e = .returned (.agg #[.int .i32 1073741824, .int .i32 0, .int .i32 0, .int .i32 0, .int .i32 0, .int .i32 0, .int .i32 0, .int .i64 0, .int .i64 0]) ∧ Below w.heap.size w w' := by
  go_enter Tryz.func15, Tryz.ntmps15
  go_upto_region 0 with (fail)
  apply wp_region_seg0 (w := w) (S := [.al 1000]) (E := [.al ((fun p => .pointer (some ⟨p, 0, none⟩)), _) 1000]) rfl (by kernel_rfl) rfl rfl
  intro th hge hne
  refine Seg.step _ rfl ⟨by rfl, fun U hU => ?_⟩ ?_
  · go_simp; exact vp_alloc rfl rfl rfl
  refine Seg.sa ?_
  refine Seg.stop (fun U1 hU hk => ?_)
  have nb0 := hge 0 _ _ rfl
  have rb0 := (hk 0 _ _ rfl trivial).1.2 (by simp)
  clear hk hge hne
  generalize th (0 + 0) = p0_0 at *
  dsimp only at rb0
  have r_p0_0 := rb0
  clear rb0
  have n_p0_0 := nb0
  clear nb0
  have sz1 := hU.size
  have hB : Below w.heap.size w U1 := hU
  clear hU
  go_wp2_with fail
  refine (rqone_any _).mono ?_
  rintro r U2 ⟨rfl, hA⟩
  have r8 := held_after hA r_p0_0
  have hB2 := hid (bthen hB hA)
  have z0 := held_cell r8 0 _ rfl
  have z1 := held_cell r8 1 _ rfl
  have z2 := held_cell r8 2 _ rfl
  have z3 := held_cell r8 3 _ rfl
  have z4 := held_cell r8 4 _ rfl
  have z5 := held_cell r8 5 _ rfl
  have z6 := held_cell r8 6 _ rfl
  have z7 := held_cell r8 7 _ rfl
  have z8 := held_cell r8 8 _ rfl
  have f0 := held_free r8 0
  have f1 := held_free r8 1
  have f2 := held_free r8 2
  have f3 := held_free r8 3
  have f4 := held_free r8 4
  have f5 := held_free r8 5
  have f6 := held_free r8 6
  have f7 := held_free r8 7
  have f8 := held_free r8 8
  obtain ⟨W9, hW9, y9, o9⟩ := st9 r8 (.int .i32 1073741824) (.int .i32 0) (.int .i32 0) (.int .i32 0) (.int .i32 0) (.int .i32 0) (.int .i32 0) (.int .i64 0) (.int .i64 0)
  have hB9 := hid (belowS hB2.out o9 (by omega))
  have ez0 := held_cell y9 0 _ rfl
  have ez1 := held_cell y9 1 _ rfl
  have ez2 := held_cell y9 2 _ rfl
  have ez3 := held_cell y9 3 _ rfl
  have ez4 := held_cell y9 4 _ rfl
  have ez5 := held_cell y9 5 _ rfl
  have ez6 := held_cell y9 6 _ rfl
  have ez7 := held_cell y9 7 _ rfl
  have ez8 := held_cell y9 8 _ rfl
  clear o9 y9 r8 hB hA hB2 r_p0_0
  go_wp2_with fail
  refine bodyPost_ret (v := .agg #[.int .i32 1073741824, .int .i32 0, .int .i32 0, .int .i32 0, .int .i32 0, .int .i32 0, .int .i32 0, .int .i64 0, .int .i64 0]) (by simp [results, Tryz.results15, go_sem, ez0, ez1, ez2, ez3, ez4, ez5, ez6, ez7, ez8]) rfl ⟨rfl, hB9.out⟩
end Go.Proofs.YtpdpcdifnlellaaGreat

/- The papers' filter: Step. -/
namespace Go.Proofs.YtpdpcdifnlellaaGreat
open Go.ChangeShapes Go.WideShapes Go.ChangeAt Go.RowKit
set_option maxRecDepth 100000
set_option linter.unusedVariables false
set_option linter.unusedSimpArgs false

set_option maxHeartbeats 32000000 in
theorem rfstep_any (q0 q1 q2 q3 b0 b1 b2 g0 g1 g2 a0 a1 a2 d st cu : Int) (w : World) (t0 : B32 q0) (t1 : B32 q1) (t2 : B32 q2) (t3 : B32 q3) (p0 : B32 b0) (p1 : B32 b1) (p2 : B32 b2) (v0 : B32 g0) (v1 : B32 g1) (v2 : B32 g2) (s0 : B32 a0) (s1 : B32 a1) (s2 : B32 a2) (pd : B32 d) (hs1 : 0 ≤ st) (hs2 : st ≤ 1152921504606846976) (hc1 : 0 ≤ cu) (hc2 : cu ≤ 1152921504606846976) (Q0 Q1 Q2 Q3 B0 B1 B2 N : Int) (hS : StepL q0 q1 q2 q3 b0 b1 b2 g0 g1 g2 a0 a1 a2 d Q0 Q1 Q2 Q3 B0 B1 B2 N) : Calls Tryz.prog 11 #[.agg #[.int .i32 q0, .int .i32 q1, .int .i32 q2, .int .i32 q3, .int .i32 b0, .int .i32 b1, .int .i32 b2, .int .i64 st, .int .i64 cu], .agg #[.int .i32 g0, .int .i32 g1, .int .i32 g2], .agg #[.int .i32 a0, .int .i32 a1, .int .i32 a2], .int .i32 d] w fun e w' => e = .returned (.agg #[.int .i32 Q0, .int .i32 Q1, .int .i32 Q2, .int .i32 Q3, .int .i32 B0, .int .i32 B1, .int .i32 B2, .int .i64 (st + 1), .int .i64 (cu + N)]) ∧ Below w.heap.size w w' := by
  obtain ⟨r0, r1, r2, k1, C0, C1, C2, R0, R1, R2, K, kt, hr, ⟨br0, br1, br2⟩, ⟨k1a, k1b⟩, hL, ⟨bC0, bC1, bC2⟩, ⟨bR0, bR1, bR2⟩, ⟨hK1, hK2⟩, hT, ⟨kt1, kt2⟩, rfl, rfl, rfl, rfl⟩ := hS
  have l0 := lim_bd C0
  have l1 := lim_bd C1
  have l2 := lim_bd C2
  obtain ⟨e0, e1, e2, ok, hE, hL⟩ := hL
  have kE := fun U => rerr_any q0 q1 q2 q3 a0 a1 a2 U t0 t1 t2 t3 s0 s1 s2
  rw [hE] at kE
  dsimp only at kE
  replace kE := hid kE
  clear hE
  have c0 := hid (fun U => hr ▸ rsub3_any g0 g1 g2 b0 b1 b2 U v0 v1 v2 p0 p1 p2)
  have c9 := hid (fun U => turn_ref hT t0 t1 t2 t3 bR0 bR1 bR2 pd U)
  have ws : IntKind.i64.wrap (st + 1) = st + 1 := (by rw [IntKind.wrap_i64]; omega)
  rcases hL with ⟨rfl, rfl, rfl, rfl, rfl, rfl, rfl, rfl⟩ | ⟨rfl, f0, f1, f2, k2, k3, l0n, l1n, l2n, k4, y0, y1, y2, k5, k6, hL⟩
  · have wq0 : IntKind.i64.wrap (cu + k1) = cu + k1 := (by rw [IntKind.wrap_i64]; omega)
    have wq1 : IntKind.i64.wrap (cu + k1 + limK C0) = cu + k1 + limK C0 := (by rw [IntKind.wrap_i64]; omega)
    have wq2 : IntKind.i64.wrap (cu + k1 + limK C0 + limK C1) = cu + k1 + limK C0 + limK C1 := (by rw [IntKind.wrap_i64]; omega)
    have wq3 : IntKind.i64.wrap (cu + k1 + limK C0 + limK C1 + limK C2) = cu + k1 + limK C0 + limK C1 + limK C2 := (by rw [IntKind.wrap_i64]; omega)
    have wq4 : IntKind.i64.wrap (cu + k1 + limK C0 + limK C1 + limK C2 + kt) = cu + k1 + limK C0 + limK C1 + limK C2 + kt := (by rw [IntKind.wrap_i64]; omega)
    clear hr br0 br1 br2 k1a k1b bC0 bC1 bC2 bR0 bR1 bR2 hK1 hK2 hT kt1 kt2 l0 l1 l2 hs1 hs2 hc1 hc2 t0 t1 t2 t3 p0 p1 p2 v0 v1 v2 s0 s1 s2 pd
    go_enter Tryz.func11, Tryz.ntmps11
    go_upto_region 0 with (fail)
    apply wp_region_seg0 (w := w) (S := [.al 1000, .al 1000, .al 1000, .al 1000]) (E := [.al ((fun p => .pointer (some ⟨p, 0, none⟩)), _) 1000, .al ((fun p => .pointer (some ⟨p, 0, none⟩)), _) 1000, .al ((fun p => .pointer (some ⟨p, 0, none⟩)), _) 1000, .al ((fun p => .pointer (some ⟨p, 0, none⟩)), _) 1000]) rfl (by kernel_rfl) rfl rfl
    intro th hge hne
    refine Seg.step _ rfl ⟨by rfl, fun U hU => ?_⟩ ?_
    · go_simp; exact vp_alloc rfl rfl rfl
    refine Seg.sa ?_
    refine Seg.step _ rfl ⟨by rfl, fun U hU => ?_⟩ ?_
    · go_simp; exact vp_alloc rfl rfl rfl
    refine Seg.sa ?_
    refine Seg.step _ rfl ⟨by rfl, fun U hU => ?_⟩ ?_
    · go_simp; exact vp_alloc rfl rfl rfl
    refine Seg.sa ?_
    refine Seg.step _ rfl ⟨by rfl, fun U hU => ?_⟩ ?_
    · go_simp; exact vp_alloc rfl rfl rfl
    refine Seg.sa ?_
    refine Seg.stop (fun U1 hU hk => ?_)
    have nb0 := hge 0 _ _ rfl
    have rb0 := (hk 0 _ _ rfl trivial).1.2 (by simp)
    have nb1 := hge 1 _ _ rfl
    have rb1 := (hk 1 _ _ rfl trivial).1.2 (by simp)
    have nb2 := hge 2 _ _ rfl
    have rb2 := (hk 2 _ _ rfl trivial).1.2 (by simp)
    have nb3 := hge 3 _ _ rfl
    have rb3 := (hk 3 _ _ rfl trivial).1.2 (by simp)
    have ne0_1 := hne 0 1 _ _ _ _ rfl rfl (by omega)
    have ne0_2 := hne 0 2 _ _ _ _ rfl rfl (by omega)
    have ne1_2 := hne 1 2 _ _ _ _ rfl rfl (by omega)
    have ne0_3 := hne 0 3 _ _ _ _ rfl rfl (by omega)
    have ne1_3 := hne 1 3 _ _ _ _ rfl rfl (by omega)
    have ne2_3 := hne 2 3 _ _ _ _ rfl rfl (by omega)
    clear hk hge hne
    generalize th (0 + 0) = p0_0 at *
    dsimp only at rb0
    generalize th (0 + 1) = p0_1 at *
    dsimp only at rb1
    generalize th (0 + 2) = p0_2 at *
    dsimp only at rb2
    generalize th (0 + 3) = p0_3 at *
    dsimp only at rb3
    have r_p0_0 := rb0
    clear rb0
    have n_p0_0 := nb0
    clear nb0
    have d_p0_0_p0_1 := ne0_1
    clear ne0_1
    have d_p0_0_p0_2 := ne0_2
    clear ne0_2
    have d_p0_0_p0_3 := ne0_3
    clear ne0_3
    have r_p0_1 := rb1
    clear rb1
    have n_p0_1 := nb1
    clear nb1
    have d_p0_1_p0_2 := ne1_2
    clear ne1_2
    have d_p0_1_p0_3 := ne1_3
    clear ne1_3
    have r_p0_2 := rb2
    clear rb2
    have n_p0_2 := nb2
    clear nb2
    have d_p0_2_p0_3 := ne2_3
    clear ne2_3
    have r_p0_3 := rb3
    clear rb3
    have n_p0_3 := nb3
    clear nb3
    have sz1 := hU.size
    have hB : Below w.heap.size w U1 := hU
    clear hU
    go_upto_region 1 with (fail)
    apply wp_region_seg0 (w := U1) (S := [.q [], .q [], .q [], .q [], .q [], .q [], .q [], .al 8, .st 7 [], .q []]) (E := [.q0 _, .q0 _, .q0 _, .c0 _, .q0 _, .q0 _, .q0 _, .al ((fun p => .pointer (some ⟨p, 0, none⟩)), _) 8, .s0 7 (.cells _ _), .q0 _]) rfl (by kernel_rfl) rfl rfl
    intro th hge hne
    refine Seg.sq ?_ (ht := Or.inl ⟨by rfl, fun U hU => vp_quiet (by (have h0 := held_cell (held_after hU.1 r_p0_1) 0 _ rfl; have h1 := held_cell (held_after hU.1 r_p0_1) 1 _ rfl; have h2 := held_cell (held_after hU.1 r_p0_1) 2 _ rfl; go_simp <;> exact rfl))⟩)
    refine Seg.sq ?_
    refine Seg.sq ?_ (ht := Or.inl ⟨by rfl, fun U hU => vp_quiet (by (have h0 := held_cell (held_after hU.1 r_p0_0) 4 _ rfl; have h1 := held_cell (held_after hU.1 r_p0_0) 5 _ rfl; have h2 := held_cell (held_after hU.1 r_p0_0) 6 _ rfl; go_simp <;> exact rfl))⟩)
    refine Seg.step _ rfl (Or.inl ⟨by rfl, fun U hU => ?_⟩) ?_
    · go_simp
      refine vp_call (c0.out _)
    refine Seg.sa ?_
    iterate 3 refine Seg.sq ?_
    refine Seg.step _ rfl ⟨by rfl, fun U hU => ?_⟩ ?_
    · go_simp; exact vp_alloc rfl rfl rfl
    refine Seg.sa ?_
    refine Seg.step _ rfl ⟨by rfl, fun U z k hz hU hc => ?_⟩ ?_
    · have hz2 := Option.some.inj hz
      cases hz2; clear hz
      exact vp_store_agg _ _ _ rfl hc rfl rfl (by kernel_rfl) rfl (by rfl)
    refine Seg.sa ?_
    refine Seg.sq ?_
    refine Seg.stop (fun U2 hU hk => ?_)
    have nb7 := hge 7 _ _ rfl
    have rb7 := (hk 7 _ 8 rfl trivial).1.1 trivial _ (Nat.zero_le _) rfl
    clear hk hge hne
    generalize th (0 + 7) = p1_7 at *
    simp only [Ent.obj] at rb7
    have df_p0_0_p1_7 : p0_0 ≠ p1_7 := by have := held_lt r_p0_0; omega
    have df_p0_1_p1_7 : p0_1 ≠ p1_7 := by have := held_lt r_p0_1; omega
    have df_p0_2_p1_7 : p0_2 ≠ p1_7 := by have := held_lt r_p0_2; omega
    have df_p0_3_p1_7 : p0_3 ≠ p1_7 := by have := held_lt r_p0_3; omega
    replace r_p0_0 := held_after hU r_p0_0
    replace r_p0_1 := held_after hU r_p0_1
    replace r_p0_2 := held_after hU r_p0_2
    replace r_p0_3 := held_after hU r_p0_3
    have r_p1_7 := rb7
    clear rb7
    have n_p1_7 := nb7
    clear nb7
    have sz2 := hU.size
    replace hB := bthen hB hU
    clear hU
    go_upto_region 2 with (fail)
    apply wp_region_seg0 (w := U2) (S := [.q [], .q [], .q [], .q [], .q [], .q [], .q [], .al 8, .st 7 [], .q []]) (E := [.q0 _, .q0 _, .q0 _, .c0 _, .q0 _, .q0 _, .q0 _, .al ((fun p => .pointer (some ⟨p, 0, none⟩)), _) 8, .s0 7 (.cells _ _), .q0 _]) rfl (by kernel_rfl) rfl rfl
    intro th hge hne
    refine Seg.sq ?_
    refine Seg.sq ?_ (ht := Or.inl ⟨by rfl, fun U hU => vp_quiet (by (have h0 := held_cell (held_after hU.1 r_p0_0) 0 _ rfl; have h1 := held_cell (held_after hU.1 r_p0_0) 1 _ rfl; have h2 := held_cell (held_after hU.1 r_p0_0) 2 _ rfl; have h3 := held_cell (held_after hU.1 r_p0_0) 3 _ rfl; go_simp <;> exact rfl))⟩)
    refine Seg.sq ?_ (ht := Or.inl ⟨by rfl, fun U hU => vp_quiet (by (have h0 := held_cell (held_after hU.1 r_p0_2) 0 _ rfl; have h1 := held_cell (held_after hU.1 r_p0_2) 1 _ rfl; have h2 := held_cell (held_after hU.1 r_p0_2) 2 _ rfl; go_simp <;> exact rfl))⟩)
    refine Seg.step _ rfl (Or.inl ⟨by rfl, fun U hU => ?_⟩) ?_
    · go_simp
      refine vp_call (kE.out _)
    refine Seg.sa ?_
    iterate 3 refine Seg.sq ?_
    refine Seg.step _ rfl ⟨by rfl, fun U hU => ?_⟩ ?_
    · go_simp; exact vp_alloc rfl rfl rfl
    refine Seg.sa ?_
    refine Seg.step _ rfl ⟨by rfl, fun U z k hz hU hc => ?_⟩ ?_
    · have hz2 := Option.some.inj hz
      cases hz2; clear hz
      exact vp_store_agg _ _ _ rfl hc rfl rfl (by kernel_rfl) rfl (by rfl)
    refine Seg.sa ?_
    refine Seg.sq ?_
    refine Seg.stop (fun U3 hU hk => ?_)
    have nb7 := hge 7 _ _ rfl
    have rb7 := (hk 7 _ 8 rfl trivial).1.1 trivial _ (Nat.zero_le _) rfl
    clear hk hge hne
    generalize th (0 + 7) = p2_7 at *
    simp only [Ent.obj] at rb7
    have df_p0_0_p2_7 : p0_0 ≠ p2_7 := by have := held_lt r_p0_0; omega
    have df_p0_1_p2_7 : p0_1 ≠ p2_7 := by have := held_lt r_p0_1; omega
    have df_p0_2_p2_7 : p0_2 ≠ p2_7 := by have := held_lt r_p0_2; omega
    have df_p0_3_p2_7 : p0_3 ≠ p2_7 := by have := held_lt r_p0_3; omega
    have df_p1_7_p2_7 : p1_7 ≠ p2_7 := by have := held_lt r_p1_7; omega
    replace r_p0_0 := held_after hU r_p0_0
    replace r_p0_1 := held_after hU r_p0_1
    replace r_p0_2 := held_after hU r_p0_2
    replace r_p0_3 := held_after hU r_p0_3
    replace r_p1_7 := held_after hU r_p1_7
    have r_p2_7 := rb7
    clear rb7
    have n_p2_7 := nb7
    clear nb7
    have sz3 := hU.size
    replace hB := bthen hB hU
    clear hU
    go_upto_region 3 with (fail)
    apply wp_region_seg0 (w := U3) (S := [.q [], .q [], .al 3, .st 2 []]) (E := [.q0 _, .q0 _, .al ((fun p => .pointer (some ⟨p, 0, none⟩)), _) 3, .s0 2 (.cells _ _)]) rfl (by kernel_rfl) rfl rfl
    intro th hge hne
    refine Seg.sq ?_
    refine Seg.sq ?_ (ht := Or.inl ⟨by rfl, fun U hU => vp_quiet (by (have h0 := held_cell (held_after hU.1 r_p0_0) 4 _ rfl; have h1 := held_cell (held_after hU.1 r_p0_0) 5 _ rfl; have h2 := held_cell (held_after hU.1 r_p0_0) 6 _ rfl; go_simp <;> exact rfl))⟩)
    refine Seg.step _ rfl ⟨by rfl, fun U hU => ?_⟩ ?_
    · go_simp; exact vp_alloc rfl rfl rfl
    refine Seg.sa ?_
    refine Seg.step _ rfl ⟨by rfl, fun U z k hz hU hc => ?_⟩ ?_
    · have hz2 := Option.some.inj hz
      cases hz2; clear hz
      exact vp_store_agg _ _ _ rfl hc rfl rfl (by kernel_rfl) rfl (by rfl)
    refine Seg.sa ?_
    refine Seg.stop (fun U4 hU hk => ?_)
    have nb2 := hge 2 _ _ rfl
    have rb2 := (hk 2 _ 3 rfl trivial).1.1 trivial _ (Nat.zero_le _) rfl
    clear hk hge hne
    generalize th (0 + 2) = p3_2 at *
    simp only [Ent.obj] at rb2
    have df_p0_0_p3_2 : p0_0 ≠ p3_2 := by have := held_lt r_p0_0; omega
    have df_p0_1_p3_2 : p0_1 ≠ p3_2 := by have := held_lt r_p0_1; omega
    have df_p0_2_p3_2 : p0_2 ≠ p3_2 := by have := held_lt r_p0_2; omega
    have df_p0_3_p3_2 : p0_3 ≠ p3_2 := by have := held_lt r_p0_3; omega
    have df_p1_7_p3_2 : p1_7 ≠ p3_2 := by have := held_lt r_p1_7; omega
    have df_p2_7_p3_2 : p2_7 ≠ p3_2 := by have := held_lt r_p2_7; omega
    replace r_p0_0 := held_after hU r_p0_0
    replace r_p0_1 := held_after hU r_p0_1
    replace r_p0_2 := held_after hU r_p0_2
    replace r_p0_3 := held_after hU r_p0_3
    replace r_p1_7 := held_after hU r_p1_7
    replace r_p2_7 := held_after hU r_p2_7
    have r_p3_2 := rb2
    clear rb2
    have n_p3_2 := nb2
    clear nb2
    have sz4 := hU.size
    replace hB := bthen hB hU
    clear hU
    go_upto_region 13 with (fail)
    apply wp_region_seg0 (w := U4) (S := [.q [], .q [], .q [], .q [], .q [], .q [], .q [], .q []]) (E := [.q0 _, .q0 _, .c0 _, .q0 _, .q0 _, .q0 _, .q0 _, .q0 _]) rfl (by kernel_rfl) rfl rfl
    intro th hge hne
    refine Seg.sq ?_
    refine Seg.sq ?_ (ht := Or.inl ⟨by rfl, fun U hU => vp_quiet (by (have h0 := held_cell (held_after hU.1 r_p3_2) 0 _ rfl; go_simp <;> exact rfl))⟩)
    refine Seg.step _ rfl (Or.inl ⟨by rfl, fun U hU => ?_⟩) ?_
    · go_simp
      refine vp_calls (rlim_any C0 _)
    refine Seg.sa ?_
    iterate 5 refine Seg.sq ?_
    refine Seg.stop (fun U5 hU hk => ?_)
    clear hk hge hne
    replace r_p0_0 := held_after hU r_p0_0
    replace r_p0_1 := held_after hU r_p0_1
    replace r_p0_2 := held_after hU r_p0_2
    replace r_p0_3 := held_after hU r_p0_3
    replace r_p1_7 := held_after hU r_p1_7
    replace r_p2_7 := held_after hU r_p2_7
    replace r_p3_2 := held_after hU r_p3_2
    have sz5 := hU.size
    replace hB := bthen hB hU
    clear hU
    go_upto_region 14 with (fail)
    apply wp_region_seg0 (w := U5) (S := [.q [], .q [], .q [], .q [], .q [], .q [], .q [], .q []]) (E := [.q0 _, .q0 _, .c0 _, .q0 _, .q0 _, .q0 _, .q0 _, .q0 _]) rfl (by kernel_rfl) rfl rfl
    intro th hge hne
    refine Seg.sq ?_
    refine Seg.sq ?_ (ht := Or.inl ⟨by rfl, fun U hU => vp_quiet (by (have h0 := held_cell (held_after hU.1 r_p3_2) 1 _ rfl; go_simp <;> exact rfl))⟩)
    refine Seg.step _ rfl (Or.inl ⟨by rfl, fun U hU => ?_⟩) ?_
    · go_simp
      refine vp_calls (rlim_any C1 _)
    refine Seg.sa ?_
    iterate 5 refine Seg.sq ?_
    refine Seg.stop (fun U6 hU hk => ?_)
    clear hk hge hne
    replace r_p0_0 := held_after hU r_p0_0
    replace r_p0_1 := held_after hU r_p0_1
    replace r_p0_2 := held_after hU r_p0_2
    replace r_p0_3 := held_after hU r_p0_3
    replace r_p1_7 := held_after hU r_p1_7
    replace r_p2_7 := held_after hU r_p2_7
    replace r_p3_2 := held_after hU r_p3_2
    have sz6 := hU.size
    replace hB := bthen hB hU
    clear hU
    go_upto_region 15 with (fail)
    apply wp_region_seg0 (w := U6) (S := [.q [], .q [], .q [], .q [], .q [], .q [], .q [], .q []]) (E := [.q0 _, .q0 _, .c0 _, .q0 _, .q0 _, .q0 _, .q0 _, .q0 _]) rfl (by kernel_rfl) rfl rfl
    intro th hge hne
    refine Seg.sq ?_
    refine Seg.sq ?_ (ht := Or.inl ⟨by rfl, fun U hU => vp_quiet (by (have h0 := held_cell (held_after hU.1 r_p3_2) 2 _ rfl; go_simp <;> exact rfl))⟩)
    refine Seg.step _ rfl (Or.inl ⟨by rfl, fun U hU => ?_⟩) ?_
    · go_simp
      refine vp_calls (rlim_any C2 _)
    refine Seg.sa ?_
    iterate 5 refine Seg.sq ?_
    refine Seg.stop (fun U7 hU hk => ?_)
    clear hk hge hne
    replace r_p0_0 := held_after hU r_p0_0
    replace r_p0_1 := held_after hU r_p0_1
    replace r_p0_2 := held_after hU r_p0_2
    replace r_p0_3 := held_after hU r_p0_3
    replace r_p1_7 := held_after hU r_p1_7
    replace r_p2_7 := held_after hU r_p2_7
    replace r_p3_2 := held_after hU r_p3_2
    have sz7 := hU.size
    replace hB := bthen hB hU
    clear hU
    go_upto_region 16 with (fail)
    apply wp_region_seg0 (w := U7) (S := [.q [], .q [], .q [], .q [], .q [], .q [], .q [], .q [], .al 9, .st 8 [], .q []]) (E := [.q0 _, .q0 _, .q0 _, .q0 _, .c0 _, .q0 _, .q0 _, .q0 _, .al ((fun p => .pointer (some ⟨p, 0, none⟩)), _) 9, .s0 8 (.cells _ _), .q0 _]) rfl (by kernel_rfl) rfl rfl
    intro th hge hne
    refine Seg.sq ?_
    refine Seg.sq ?_ (ht := Or.inl ⟨by rfl, fun U hU => vp_quiet (by (have h0 := held_cell (held_after hU.1 r_p0_0) 0 _ rfl; have h1 := held_cell (held_after hU.1 r_p0_0) 1 _ rfl; have h2 := held_cell (held_after hU.1 r_p0_0) 2 _ rfl; have h3 := held_cell (held_after hU.1 r_p0_0) 3 _ rfl; go_simp <;> exact rfl))⟩)
    refine Seg.sq ?_ (ht := Or.inl ⟨by rfl, fun U hU => vp_quiet (by (have h0 := held_cell (held_after hU.1 r_p1_7) 0 _ rfl; have h1 := held_cell (held_after hU.1 r_p1_7) 1 _ rfl; have h2 := held_cell (held_after hU.1 r_p1_7) 2 _ rfl; go_simp <;> exact rfl))⟩)
    refine Seg.sq ?_
    refine Seg.step _ rfl (Or.inl ⟨by rfl, fun U hU => ?_⟩) ?_
    · go_simp
      refine vp_call (c9.out _)
    refine Seg.sa ?_
    iterate 3 refine Seg.sq ?_
    refine Seg.step _ rfl ⟨by rfl, fun U hU => ?_⟩ ?_
    · go_simp; exact vp_alloc rfl rfl rfl
    refine Seg.sa ?_
    refine Seg.step _ rfl ⟨by rfl, fun U z k hz hU hc => ?_⟩ ?_
    · have hz2 := Option.some.inj hz
      cases hz2; clear hz
      exact vp_store_agg _ _ _ rfl hc rfl rfl (by kernel_rfl) rfl (by rfl)
    refine Seg.sa ?_
    refine Seg.sq ?_
    refine Seg.stop (fun U8 hU hk => ?_)
    have nb8 := hge 8 _ _ rfl
    have rb8 := (hk 8 _ 9 rfl trivial).1.1 trivial _ (Nat.zero_le _) rfl
    clear hk hge hne
    generalize th (0 + 8) = p16_8 at *
    simp only [Ent.obj] at rb8
    have df_p0_0_p16_8 : p0_0 ≠ p16_8 := by have := held_lt r_p0_0; omega
    have df_p0_1_p16_8 : p0_1 ≠ p16_8 := by have := held_lt r_p0_1; omega
    have df_p0_2_p16_8 : p0_2 ≠ p16_8 := by have := held_lt r_p0_2; omega
    have df_p0_3_p16_8 : p0_3 ≠ p16_8 := by have := held_lt r_p0_3; omega
    have df_p1_7_p16_8 : p1_7 ≠ p16_8 := by have := held_lt r_p1_7; omega
    have df_p2_7_p16_8 : p2_7 ≠ p16_8 := by have := held_lt r_p2_7; omega
    have df_p3_2_p16_8 : p3_2 ≠ p16_8 := by have := held_lt r_p3_2; omega
    replace r_p0_0 := held_after hU r_p0_0
    replace r_p0_1 := held_after hU r_p0_1
    replace r_p0_2 := held_after hU r_p0_2
    replace r_p0_3 := held_after hU r_p0_3
    replace r_p1_7 := held_after hU r_p1_7
    replace r_p2_7 := held_after hU r_p2_7
    replace r_p3_2 := held_after hU r_p3_2
    have r_p16_8 := rb8
    clear rb8
    have n_p16_8 := nb8
    clear nb8
    have sz8 := hU.size
    replace hB := bthen hB hU
    clear hU
    have e0 := held_cell r_p16_8 0 _ rfl
    have e1 := held_cell r_p16_8 1 _ rfl
    have e2 := held_cell r_p16_8 2 _ rfl
    have e3 := held_cell r_p16_8 3 _ rfl
    have y7 := held_cell r_p0_0 7 _ rfl
    have y8 := held_cell r_p0_0 8 _ rfl
    have z0 := held_cell r_p0_3 0 _ rfl
    have z1 := held_cell r_p0_3 1 _ rfl
    have z2 := held_cell r_p0_3 2 _ rfl
    have z3 := held_cell r_p0_3 3 _ rfl
    have z4 := held_cell r_p0_3 4 _ rfl
    have z5 := held_cell r_p0_3 5 _ rfl
    have z6 := held_cell r_p0_3 6 _ rfl
    have z7 := held_cell r_p0_3 7 _ rfl
    have z8 := held_cell r_p0_3 8 _ rfl
    have f0 := held_free r_p0_3 0
    have f1 := held_free r_p0_3 1
    have f2 := held_free r_p0_3 2
    have f3 := held_free r_p0_3 3
    have f4 := held_free r_p0_3 4
    have f5 := held_free r_p0_3 5
    have f6 := held_free r_p0_3 6
    have f7 := held_free r_p0_3 7
    have f8 := held_free r_p0_3 8
    obtain ⟨W9, hW9, y9, o9⟩ := st9 r_p0_3 (.int .i32 Q0) (.int .i32 Q1) (.int .i32 Q2) (.int .i32 Q3) (.int .i32 (limS C0)) (.int .i32 (limS C1)) (.int .i32 (limS C2)) (.int .i64 (st + 1)) (.int .i64 (cu + k1 + limK C0 + limK C1 + limK C2 + kt))
    have hB9 := hid (belowS hB o9 (by omega))
    have ez0 := held_cell y9 0 _ rfl
    have ez1 := held_cell y9 1 _ rfl
    have ez2 := held_cell y9 2 _ rfl
    have ez3 := held_cell y9 3 _ rfl
    have ez4 := held_cell y9 4 _ rfl
    have ez5 := held_cell y9 5 _ rfl
    have ez6 := held_cell y9 6 _ rfl
    have ez7 := held_cell y9 7 _ rfl
    have ez8 := held_cell y9 8 _ rfl
    clear o9 y9 hB
    go_wp2_with fail
    refine bodyPost_ret (v := .agg #[.int .i32 Q0, .int .i32 Q1, .int .i32 Q2, .int .i32 Q3, .int .i32 (limS C0), .int .i32 (limS C1), .int .i32 (limS C2), .int .i64 (st + 1), .int .i64 (cu + k1 + limK C0 + limK C1 + limK C2 + kt)]) (by simp [results, Tryz.results11, go_sem, ez0, ez1, ez2, ez3, ez4, ez5, ez6, ez7, ez8]) rfl ⟨by rw [show cu + (k1 + 0 + limK C0 + limK C1 + limK C2 + kt) = cu + k1 + limK C0 + limK C1 + limK C2 + kt from by omega], hB9.out⟩
  obtain ⟨hF, hSS, hLL, hY, hC, rfl, ⟨be0, be1, be2⟩, ⟨bf0, bf1, bf2⟩, ⟨bl0, bl1, bl2⟩, ⟨by0, by1, by2⟩, -, -, ⟨m2, m2b⟩, ⟨m3, m3b⟩, ⟨m4, m4b⟩, ⟨m5, m5b⟩, ⟨m6, m6b⟩⟩ := hL
  have n65 : B32 65536 := by unfold B32; omega
  have n655 : B32 655 := by unfold B32; omega
  have c1 := hid (fun U => hF ▸ rscale_any e0 e1 e2 65536 U be0 be1 be2 n65)
  have c2 := hid (fun U => hSS ▸ radd3_any r0 r1 r2 f0 f1 f2 U br0 br1 br2 bf0 bf1 bf2)
  have c3 := hid (fun U => hLL ▸ rscale_any e0 e1 e2 655 U be0 be1 be2 n655)
  have c4 := hid (fun U => hY ▸ rscale_any l0n l1n l2n d U bl0 bl1 bl2 pd)
  have c5 := hid (fun U => hC ▸ rsub3_any b0 b1 b2 y0 y1 y2 U p0 p1 p2 by0 by1 by2)
  have wk0 : IntKind.i64.wrap (k1 + k2) = k1 + k2 := (by rw [IntKind.wrap_i64]; omega)
  have wk1 : IntKind.i64.wrap (k1 + k2 + k3) = k1 + k2 + k3 := (by rw [IntKind.wrap_i64]; omega)
  have wk2 : IntKind.i64.wrap (k1 + k2 + k3 + k4) = k1 + k2 + k3 + k4 := (by rw [IntKind.wrap_i64]; omega)
  have wk3 : IntKind.i64.wrap (k1 + k2 + k3 + k4 + k5) = k1 + k2 + k3 + k4 + k5 := (by rw [IntKind.wrap_i64]; omega)
  have wk4 : IntKind.i64.wrap (k1 + k2 + k3 + k4 + k5 + k6) = k1 + k2 + k3 + k4 + k5 + k6 := (by rw [IntKind.wrap_i64]; omega)
  obtain ⟨KK, hKK⟩ : ∃ X, k1 + k2 + k3 + k4 + k5 + k6 = X := ⟨_, rfl⟩
  have hKb : 0 ≤ KK ∧ KK ≤ 18 := by omega
  have wKK : IntKind.i64.wrap KK = KK := (by rw [IntKind.wrap_i64]; omega)
  have wq0 : IntKind.i64.wrap (cu + KK) = cu + KK := (by rw [IntKind.wrap_i64]; omega)
  have wq1 : IntKind.i64.wrap (cu + KK + limK C0) = cu + KK + limK C0 := (by rw [IntKind.wrap_i64]; omega)
  have wq2 : IntKind.i64.wrap (cu + KK + limK C0 + limK C1) = cu + KK + limK C0 + limK C1 := (by rw [IntKind.wrap_i64]; omega)
  have wq3 : IntKind.i64.wrap (cu + KK + limK C0 + limK C1 + limK C2) = cu + KK + limK C0 + limK C1 + limK C2 := (by rw [IntKind.wrap_i64]; omega)
  have wq4 : IntKind.i64.wrap (cu + KK + limK C0 + limK C1 + limK C2 + kt) = cu + KK + limK C0 + limK C1 + limK C2 + kt := (by rw [IntKind.wrap_i64]; omega)
  have hfin := hid (show cu + (k1 + (k2 + k3 + k4 + k5 + k6) + limK C0 + limK C1 + limK C2 + kt) = cu + KK + limK C0 + limK C1 + limK C2 + kt by omega)
  clear hr br0 br1 br2 k1a k1b bC0 bC1 bC2 bR0 bR1 bR2 hK1 hK2 hT kt1 kt2 l0 l1 l2 hs1 hs2 hc1 hc2 t0 t1 t2 t3 p0 p1 p2 v0 v1 v2 s0 s1 s2 pd hF hSS hLL hY hC be0 be1 be2 bf0 bf1 bf2 bl0 bl1 bl2 by0 by1 by2 m2 m2b m3 m3b m4 m4b m5 m5b m6 m6b n65 n655 hKb
  go_enter Tryz.func11, Tryz.ntmps11
  go_upto_region 0 with (fail)
  apply wp_region_seg0 (w := w) (S := [.al 1000, .al 1000, .al 1000, .al 1000]) (E := [.al ((fun p => .pointer (some ⟨p, 0, none⟩)), _) 1000, .al ((fun p => .pointer (some ⟨p, 0, none⟩)), _) 1000, .al ((fun p => .pointer (some ⟨p, 0, none⟩)), _) 1000, .al ((fun p => .pointer (some ⟨p, 0, none⟩)), _) 1000]) rfl (by kernel_rfl) rfl rfl
  intro th hge hne
  refine Seg.step _ rfl ⟨by rfl, fun U hU => ?_⟩ ?_
  · go_simp; exact vp_alloc rfl rfl rfl
  refine Seg.sa ?_
  refine Seg.step _ rfl ⟨by rfl, fun U hU => ?_⟩ ?_
  · go_simp; exact vp_alloc rfl rfl rfl
  refine Seg.sa ?_
  refine Seg.step _ rfl ⟨by rfl, fun U hU => ?_⟩ ?_
  · go_simp; exact vp_alloc rfl rfl rfl
  refine Seg.sa ?_
  refine Seg.step _ rfl ⟨by rfl, fun U hU => ?_⟩ ?_
  · go_simp; exact vp_alloc rfl rfl rfl
  refine Seg.sa ?_
  refine Seg.stop (fun U1 hU hk => ?_)
  have nb0 := hge 0 _ _ rfl
  have rb0 := (hk 0 _ _ rfl trivial).1.2 (by simp)
  have nb1 := hge 1 _ _ rfl
  have rb1 := (hk 1 _ _ rfl trivial).1.2 (by simp)
  have nb2 := hge 2 _ _ rfl
  have rb2 := (hk 2 _ _ rfl trivial).1.2 (by simp)
  have nb3 := hge 3 _ _ rfl
  have rb3 := (hk 3 _ _ rfl trivial).1.2 (by simp)
  have ne0_1 := hne 0 1 _ _ _ _ rfl rfl (by omega)
  have ne0_2 := hne 0 2 _ _ _ _ rfl rfl (by omega)
  have ne1_2 := hne 1 2 _ _ _ _ rfl rfl (by omega)
  have ne0_3 := hne 0 3 _ _ _ _ rfl rfl (by omega)
  have ne1_3 := hne 1 3 _ _ _ _ rfl rfl (by omega)
  have ne2_3 := hne 2 3 _ _ _ _ rfl rfl (by omega)
  clear hk hge hne
  generalize th (0 + 0) = p0_0 at *
  dsimp only at rb0
  generalize th (0 + 1) = p0_1 at *
  dsimp only at rb1
  generalize th (0 + 2) = p0_2 at *
  dsimp only at rb2
  generalize th (0 + 3) = p0_3 at *
  dsimp only at rb3
  have r_p0_0 := rb0
  clear rb0
  have n_p0_0 := nb0
  clear nb0
  have d_p0_0_p0_1 := ne0_1
  clear ne0_1
  have d_p0_0_p0_2 := ne0_2
  clear ne0_2
  have d_p0_0_p0_3 := ne0_3
  clear ne0_3
  have r_p0_1 := rb1
  clear rb1
  have n_p0_1 := nb1
  clear nb1
  have d_p0_1_p0_2 := ne1_2
  clear ne1_2
  have d_p0_1_p0_3 := ne1_3
  clear ne1_3
  have r_p0_2 := rb2
  clear rb2
  have n_p0_2 := nb2
  clear nb2
  have d_p0_2_p0_3 := ne2_3
  clear ne2_3
  have r_p0_3 := rb3
  clear rb3
  have n_p0_3 := nb3
  clear nb3
  have sz1 := hU.size
  have hB : Below w.heap.size w U1 := hU
  clear hU
  go_upto_region 1 with (fail)
  apply wp_region_seg0 (w := U1) (S := [.q [], .q [], .q [], .q [], .q [], .q [], .q [], .al 8, .st 7 [], .q []]) (E := [.q0 _, .q0 _, .q0 _, .c0 _, .q0 _, .q0 _, .q0 _, .al ((fun p => .pointer (some ⟨p, 0, none⟩)), _) 8, .s0 7 (.cells _ _), .q0 _]) rfl (by kernel_rfl) rfl rfl
  intro th hge hne
  refine Seg.sq ?_ (ht := Or.inl ⟨by rfl, fun U hU => vp_quiet (by (have h0 := held_cell (held_after hU.1 r_p0_1) 0 _ rfl; have h1 := held_cell (held_after hU.1 r_p0_1) 1 _ rfl; have h2 := held_cell (held_after hU.1 r_p0_1) 2 _ rfl; go_simp <;> exact rfl))⟩)
  refine Seg.sq ?_
  refine Seg.sq ?_ (ht := Or.inl ⟨by rfl, fun U hU => vp_quiet (by (have h0 := held_cell (held_after hU.1 r_p0_0) 4 _ rfl; have h1 := held_cell (held_after hU.1 r_p0_0) 5 _ rfl; have h2 := held_cell (held_after hU.1 r_p0_0) 6 _ rfl; go_simp <;> exact rfl))⟩)
  refine Seg.step _ rfl (Or.inl ⟨by rfl, fun U hU => ?_⟩) ?_
  · go_simp
    refine vp_call (c0.out _)
  refine Seg.sa ?_
  iterate 3 refine Seg.sq ?_
  refine Seg.step _ rfl ⟨by rfl, fun U hU => ?_⟩ ?_
  · go_simp; exact vp_alloc rfl rfl rfl
  refine Seg.sa ?_
  refine Seg.step _ rfl ⟨by rfl, fun U z k hz hU hc => ?_⟩ ?_
  · have hz2 := Option.some.inj hz
    cases hz2; clear hz
    exact vp_store_agg _ _ _ rfl hc rfl rfl (by kernel_rfl) rfl (by rfl)
  refine Seg.sa ?_
  refine Seg.sq ?_
  refine Seg.stop (fun U2 hU hk => ?_)
  have nb7 := hge 7 _ _ rfl
  have rb7 := (hk 7 _ 8 rfl trivial).1.1 trivial _ (Nat.zero_le _) rfl
  clear hk hge hne
  generalize th (0 + 7) = p1_7 at *
  simp only [Ent.obj] at rb7
  have df_p0_0_p1_7 : p0_0 ≠ p1_7 := by have := held_lt r_p0_0; omega
  have df_p0_1_p1_7 : p0_1 ≠ p1_7 := by have := held_lt r_p0_1; omega
  have df_p0_2_p1_7 : p0_2 ≠ p1_7 := by have := held_lt r_p0_2; omega
  have df_p0_3_p1_7 : p0_3 ≠ p1_7 := by have := held_lt r_p0_3; omega
  replace r_p0_0 := held_after hU r_p0_0
  replace r_p0_1 := held_after hU r_p0_1
  replace r_p0_2 := held_after hU r_p0_2
  replace r_p0_3 := held_after hU r_p0_3
  have r_p1_7 := rb7
  clear rb7
  have n_p1_7 := nb7
  clear nb7
  have sz2 := hU.size
  replace hB := bthen hB hU
  clear hU
  go_upto_region 2 with (fail)
  apply wp_region_seg0 (w := U2) (S := [.q [], .q [], .q [], .q [], .q [], .q [], .q [], .al 8, .st 7 [], .q []]) (E := [.q0 _, .q0 _, .q0 _, .c0 _, .q0 _, .q0 _, .q0 _, .al ((fun p => .pointer (some ⟨p, 0, none⟩)), _) 8, .s0 7 (.cells _ _), .q0 _]) rfl (by kernel_rfl) rfl rfl
  intro th hge hne
  refine Seg.sq ?_
  refine Seg.sq ?_ (ht := Or.inl ⟨by rfl, fun U hU => vp_quiet (by (have h0 := held_cell (held_after hU.1 r_p0_0) 0 _ rfl; have h1 := held_cell (held_after hU.1 r_p0_0) 1 _ rfl; have h2 := held_cell (held_after hU.1 r_p0_0) 2 _ rfl; have h3 := held_cell (held_after hU.1 r_p0_0) 3 _ rfl; go_simp <;> exact rfl))⟩)
  refine Seg.sq ?_ (ht := Or.inl ⟨by rfl, fun U hU => vp_quiet (by (have h0 := held_cell (held_after hU.1 r_p0_2) 0 _ rfl; have h1 := held_cell (held_after hU.1 r_p0_2) 1 _ rfl; have h2 := held_cell (held_after hU.1 r_p0_2) 2 _ rfl; go_simp <;> exact rfl))⟩)
  refine Seg.step _ rfl (Or.inl ⟨by rfl, fun U hU => ?_⟩) ?_
  · go_simp
    refine vp_call (kE.out _)
  refine Seg.sa ?_
  iterate 3 refine Seg.sq ?_
  refine Seg.step _ rfl ⟨by rfl, fun U hU => ?_⟩ ?_
  · go_simp; exact vp_alloc rfl rfl rfl
  refine Seg.sa ?_
  refine Seg.step _ rfl ⟨by rfl, fun U z k hz hU hc => ?_⟩ ?_
  · have hz2 := Option.some.inj hz
    cases hz2; clear hz
    exact vp_store_agg _ _ _ rfl hc rfl rfl (by kernel_rfl) rfl (by rfl)
  refine Seg.sa ?_
  refine Seg.sq ?_
  refine Seg.stop (fun U3 hU hk => ?_)
  have nb7 := hge 7 _ _ rfl
  have rb7 := (hk 7 _ 8 rfl trivial).1.1 trivial _ (Nat.zero_le _) rfl
  clear hk hge hne
  generalize th (0 + 7) = p2_7 at *
  simp only [Ent.obj] at rb7
  have df_p0_0_p2_7 : p0_0 ≠ p2_7 := by have := held_lt r_p0_0; omega
  have df_p0_1_p2_7 : p0_1 ≠ p2_7 := by have := held_lt r_p0_1; omega
  have df_p0_2_p2_7 : p0_2 ≠ p2_7 := by have := held_lt r_p0_2; omega
  have df_p0_3_p2_7 : p0_3 ≠ p2_7 := by have := held_lt r_p0_3; omega
  have df_p1_7_p2_7 : p1_7 ≠ p2_7 := by have := held_lt r_p1_7; omega
  replace r_p0_0 := held_after hU r_p0_0
  replace r_p0_1 := held_after hU r_p0_1
  replace r_p0_2 := held_after hU r_p0_2
  replace r_p0_3 := held_after hU r_p0_3
  replace r_p1_7 := held_after hU r_p1_7
  have r_p2_7 := rb7
  clear rb7
  have n_p2_7 := nb7
  clear nb7
  have sz3 := hU.size
  replace hB := bthen hB hU
  clear hU
  go_upto_region 3 with (fail)
  apply wp_region_seg0 (w := U3) (S := [.q [], .q [], .al 3, .st 2 []]) (E := [.q0 _, .q0 _, .al ((fun p => .pointer (some ⟨p, 0, none⟩)), _) 3, .s0 2 (.cells _ _)]) rfl (by kernel_rfl) rfl rfl
  intro th hge hne
  refine Seg.sq ?_
  refine Seg.sq ?_ (ht := Or.inl ⟨by rfl, fun U hU => vp_quiet (by (have h0 := held_cell (held_after hU.1 r_p0_0) 4 _ rfl; have h1 := held_cell (held_after hU.1 r_p0_0) 5 _ rfl; have h2 := held_cell (held_after hU.1 r_p0_0) 6 _ rfl; go_simp <;> exact rfl))⟩)
  refine Seg.step _ rfl ⟨by rfl, fun U hU => ?_⟩ ?_
  · go_simp; exact vp_alloc rfl rfl rfl
  refine Seg.sa ?_
  refine Seg.step _ rfl ⟨by rfl, fun U z k hz hU hc => ?_⟩ ?_
  · have hz2 := Option.some.inj hz
    cases hz2; clear hz
    exact vp_store_agg _ _ _ rfl hc rfl rfl (by kernel_rfl) rfl (by rfl)
  refine Seg.sa ?_
  refine Seg.stop (fun U4 hU hk => ?_)
  have nb2 := hge 2 _ _ rfl
  have rb2 := (hk 2 _ 3 rfl trivial).1.1 trivial _ (Nat.zero_le _) rfl
  clear hk hge hne
  generalize th (0 + 2) = p3_2 at *
  simp only [Ent.obj] at rb2
  have df_p0_0_p3_2 : p0_0 ≠ p3_2 := by have := held_lt r_p0_0; omega
  have df_p0_1_p3_2 : p0_1 ≠ p3_2 := by have := held_lt r_p0_1; omega
  have df_p0_2_p3_2 : p0_2 ≠ p3_2 := by have := held_lt r_p0_2; omega
  have df_p0_3_p3_2 : p0_3 ≠ p3_2 := by have := held_lt r_p0_3; omega
  have df_p1_7_p3_2 : p1_7 ≠ p3_2 := by have := held_lt r_p1_7; omega
  have df_p2_7_p3_2 : p2_7 ≠ p3_2 := by have := held_lt r_p2_7; omega
  replace r_p0_0 := held_after hU r_p0_0
  replace r_p0_1 := held_after hU r_p0_1
  replace r_p0_2 := held_after hU r_p0_2
  replace r_p0_3 := held_after hU r_p0_3
  replace r_p1_7 := held_after hU r_p1_7
  replace r_p2_7 := held_after hU r_p2_7
  have r_p3_2 := rb2
  clear rb2
  have n_p3_2 := nb2
  clear nb2
  have sz4 := hU.size
  replace hB := bthen hB hU
  clear hU
  go_upto_region 5 with (fail)
  apply wp_region_seg0 (w := U4) (S := [.q [], .q [], .q [], .q [], .q [], .al 6, .st 5 [], .q []]) (E := [.q0 _, .c0 _, .q0 _, .q0 _, .q0 _, .al ((fun p => .pointer (some ⟨p, 0, none⟩)), _) 6, .s0 5 (.cells _ _), .q0 _]) rfl (by kernel_rfl) rfl rfl
  intro th hge hne
  refine Seg.sq ?_ (ht := Or.inl ⟨by rfl, fun U hU => vp_quiet (by (have h0 := held_cell (held_after hU.1 r_p2_7) 0 _ rfl; have h1 := held_cell (held_after hU.1 r_p2_7) 1 _ rfl; have h2 := held_cell (held_after hU.1 r_p2_7) 2 _ rfl; go_simp <;> exact rfl))⟩)
  refine Seg.step _ rfl (Or.inl ⟨by rfl, fun U hU => ?_⟩) ?_
  · go_simp
    refine vp_call (c1.out _)
  refine Seg.sa ?_
  iterate 3 refine Seg.sq ?_
  refine Seg.step _ rfl ⟨by rfl, fun U hU => ?_⟩ ?_
  · go_simp; exact vp_alloc rfl rfl rfl
  refine Seg.sa ?_
  refine Seg.step _ rfl ⟨by rfl, fun U z k hz hU hc => ?_⟩ ?_
  · have hz2 := Option.some.inj hz
    cases hz2; clear hz
    exact vp_store_agg _ _ _ rfl hc rfl rfl (by kernel_rfl) rfl (by rfl)
  refine Seg.sa ?_
  refine Seg.sq ?_
  refine Seg.stop (fun U5 hU hk => ?_)
  have nb5 := hge 5 _ _ rfl
  have rb5 := (hk 5 _ 6 rfl trivial).1.1 trivial _ (Nat.zero_le _) rfl
  clear hk hge hne
  generalize th (0 + 5) = p5_5 at *
  simp only [Ent.obj] at rb5
  have df_p0_0_p5_5 : p0_0 ≠ p5_5 := by have := held_lt r_p0_0; omega
  have df_p0_1_p5_5 : p0_1 ≠ p5_5 := by have := held_lt r_p0_1; omega
  have df_p0_2_p5_5 : p0_2 ≠ p5_5 := by have := held_lt r_p0_2; omega
  have df_p0_3_p5_5 : p0_3 ≠ p5_5 := by have := held_lt r_p0_3; omega
  have df_p1_7_p5_5 : p1_7 ≠ p5_5 := by have := held_lt r_p1_7; omega
  have df_p2_7_p5_5 : p2_7 ≠ p5_5 := by have := held_lt r_p2_7; omega
  have df_p3_2_p5_5 : p3_2 ≠ p5_5 := by have := held_lt r_p3_2; omega
  replace r_p0_0 := held_after hU r_p0_0
  replace r_p0_1 := held_after hU r_p0_1
  replace r_p0_2 := held_after hU r_p0_2
  replace r_p0_3 := held_after hU r_p0_3
  replace r_p1_7 := held_after hU r_p1_7
  replace r_p2_7 := held_after hU r_p2_7
  replace r_p3_2 := held_after hU r_p3_2
  have r_p5_5 := rb5
  clear rb5
  have n_p5_5 := nb5
  clear nb5
  have sz5 := hU.size
  replace hB := bthen hB hU
  clear hU
  go_upto_region 6 with (fail)
  apply wp_region_seg0 (w := U5) (S := [.q [], .q [], .q [], .q [], .q [], .q [], .al 7, .st 6 [], .q []]) (E := [.q0 _, .q0 _, .c0 _, .q0 _, .q0 _, .q0 _, .al ((fun p => .pointer (some ⟨p, 0, none⟩)), _) 7, .s0 6 (.cells _ _), .q0 _]) rfl (by kernel_rfl) rfl rfl
  intro th hge hne
  refine Seg.sq ?_ (ht := Or.inl ⟨by rfl, fun U hU => vp_quiet (by (have h0 := held_cell (held_after hU.1 r_p1_7) 0 _ rfl; have h1 := held_cell (held_after hU.1 r_p1_7) 1 _ rfl; have h2 := held_cell (held_after hU.1 r_p1_7) 2 _ rfl; go_simp <;> exact rfl))⟩)
  refine Seg.sq ?_ (ht := Or.inl ⟨by rfl, fun U hU => vp_quiet (by (have h0 := held_cell (held_after hU.1 r_p5_5) 0 _ rfl; have h1 := held_cell (held_after hU.1 r_p5_5) 1 _ rfl; have h2 := held_cell (held_after hU.1 r_p5_5) 2 _ rfl; go_simp <;> exact rfl))⟩)
  refine Seg.step _ rfl (Or.inl ⟨by rfl, fun U hU => ?_⟩) ?_
  · go_simp
    refine vp_call (c2.out _)
  refine Seg.sa ?_
  iterate 3 refine Seg.sq ?_
  refine Seg.step _ rfl ⟨by rfl, fun U hU => ?_⟩ ?_
  · go_simp; exact vp_alloc rfl rfl rfl
  refine Seg.sa ?_
  refine Seg.step _ rfl ⟨by rfl, fun U z k hz hU hc => ?_⟩ ?_
  · have hz2 := Option.some.inj hz
    cases hz2; clear hz
    exact vp_store_agg _ _ _ rfl hc rfl rfl (by kernel_rfl) rfl (by rfl)
  refine Seg.sa ?_
  refine Seg.sq ?_
  refine Seg.stop (fun U6 hU hk => ?_)
  have nb6 := hge 6 _ _ rfl
  have rb6 := (hk 6 _ 7 rfl trivial).1.1 trivial _ (Nat.zero_le _) rfl
  clear hk hge hne
  generalize th (0 + 6) = p6_6 at *
  simp only [Ent.obj] at rb6
  have df_p0_0_p6_6 : p0_0 ≠ p6_6 := by have := held_lt r_p0_0; omega
  have df_p0_1_p6_6 : p0_1 ≠ p6_6 := by have := held_lt r_p0_1; omega
  have df_p0_2_p6_6 : p0_2 ≠ p6_6 := by have := held_lt r_p0_2; omega
  have df_p0_3_p6_6 : p0_3 ≠ p6_6 := by have := held_lt r_p0_3; omega
  have df_p1_7_p6_6 : p1_7 ≠ p6_6 := by have := held_lt r_p1_7; omega
  have df_p2_7_p6_6 : p2_7 ≠ p6_6 := by have := held_lt r_p2_7; omega
  have df_p3_2_p6_6 : p3_2 ≠ p6_6 := by have := held_lt r_p3_2; omega
  have df_p5_5_p6_6 : p5_5 ≠ p6_6 := by have := held_lt r_p5_5; omega
  replace r_p0_0 := held_after hU r_p0_0
  replace r_p0_1 := held_after hU r_p0_1
  replace r_p0_2 := held_after hU r_p0_2
  replace r_p0_3 := held_after hU r_p0_3
  replace r_p1_7 := held_after hU r_p1_7
  replace r_p2_7 := held_after hU r_p2_7
  replace r_p3_2 := held_after hU r_p3_2
  replace r_p5_5 := held_after hU r_p5_5
  have r_p6_6 := rb6
  clear rb6
  have n_p6_6 := nb6
  clear nb6
  have sz6 := hU.size
  replace hB := bthen hB hU
  clear hU
  go_upto_region 7 with (fail)
  apply wp_region_seg0 (w := U6) (S := [.q [], .q [], .q [], .q [], .q [], .al 6, .st 5 [], .q []]) (E := [.q0 _, .c0 _, .q0 _, .q0 _, .q0 _, .al ((fun p => .pointer (some ⟨p, 0, none⟩)), _) 6, .s0 5 (.cells _ _), .q0 _]) rfl (by kernel_rfl) rfl rfl
  intro th hge hne
  refine Seg.sq ?_ (ht := Or.inl ⟨by rfl, fun U hU => vp_quiet (by (have h0 := held_cell (held_after hU.1 r_p2_7) 0 _ rfl; have h1 := held_cell (held_after hU.1 r_p2_7) 1 _ rfl; have h2 := held_cell (held_after hU.1 r_p2_7) 2 _ rfl; go_simp <;> exact rfl))⟩)
  refine Seg.step _ rfl (Or.inl ⟨by rfl, fun U hU => ?_⟩) ?_
  · go_simp
    refine vp_call (c3.out _)
  refine Seg.sa ?_
  iterate 3 refine Seg.sq ?_
  refine Seg.step _ rfl ⟨by rfl, fun U hU => ?_⟩ ?_
  · go_simp; exact vp_alloc rfl rfl rfl
  refine Seg.sa ?_
  refine Seg.step _ rfl ⟨by rfl, fun U z k hz hU hc => ?_⟩ ?_
  · have hz2 := Option.some.inj hz
    cases hz2; clear hz
    exact vp_store_agg _ _ _ rfl hc rfl rfl (by kernel_rfl) rfl (by rfl)
  refine Seg.sa ?_
  refine Seg.sq ?_
  refine Seg.stop (fun U7 hU hk => ?_)
  have nb5 := hge 5 _ _ rfl
  have rb5 := (hk 5 _ 6 rfl trivial).1.1 trivial _ (Nat.zero_le _) rfl
  clear hk hge hne
  generalize th (0 + 5) = p7_5 at *
  simp only [Ent.obj] at rb5
  have df_p0_0_p7_5 : p0_0 ≠ p7_5 := by have := held_lt r_p0_0; omega
  have df_p0_1_p7_5 : p0_1 ≠ p7_5 := by have := held_lt r_p0_1; omega
  have df_p0_2_p7_5 : p0_2 ≠ p7_5 := by have := held_lt r_p0_2; omega
  have df_p0_3_p7_5 : p0_3 ≠ p7_5 := by have := held_lt r_p0_3; omega
  have df_p1_7_p7_5 : p1_7 ≠ p7_5 := by have := held_lt r_p1_7; omega
  have df_p2_7_p7_5 : p2_7 ≠ p7_5 := by have := held_lt r_p2_7; omega
  have df_p3_2_p7_5 : p3_2 ≠ p7_5 := by have := held_lt r_p3_2; omega
  have df_p5_5_p7_5 : p5_5 ≠ p7_5 := by have := held_lt r_p5_5; omega
  have df_p6_6_p7_5 : p6_6 ≠ p7_5 := by have := held_lt r_p6_6; omega
  replace r_p0_0 := held_after hU r_p0_0
  replace r_p0_1 := held_after hU r_p0_1
  replace r_p0_2 := held_after hU r_p0_2
  replace r_p0_3 := held_after hU r_p0_3
  replace r_p1_7 := held_after hU r_p1_7
  replace r_p2_7 := held_after hU r_p2_7
  replace r_p3_2 := held_after hU r_p3_2
  replace r_p5_5 := held_after hU r_p5_5
  replace r_p6_6 := held_after hU r_p6_6
  have r_p7_5 := rb5
  clear rb5
  have n_p7_5 := nb5
  clear nb5
  have sz7 := hU.size
  replace hB := bthen hB hU
  clear hU
  go_upto_region 8 with (fail)
  apply wp_region_seg0 (w := U7) (S := [.q [], .q [], .q [], .q [], .q [], .q [], .al 7, .st 6 [], .q []]) (E := [.q0 _, .q0 _, .c0 _, .q0 _, .q0 _, .q0 _, .al ((fun p => .pointer (some ⟨p, 0, none⟩)), _) 7, .s0 6 (.cells _ _), .q0 _]) rfl (by kernel_rfl) rfl rfl
  intro th hge hne
  refine Seg.sq ?_ (ht := Or.inl ⟨by rfl, fun U hU => vp_quiet (by (have h0 := held_cell (held_after hU.1 r_p7_5) 0 _ rfl; have h1 := held_cell (held_after hU.1 r_p7_5) 1 _ rfl; have h2 := held_cell (held_after hU.1 r_p7_5) 2 _ rfl; go_simp <;> exact rfl))⟩)
  refine Seg.sq ?_
  refine Seg.step _ rfl (Or.inl ⟨by rfl, fun U hU => ?_⟩) ?_
  · go_simp
    refine vp_call (c4.out _)
  refine Seg.sa ?_
  iterate 3 refine Seg.sq ?_
  refine Seg.step _ rfl ⟨by rfl, fun U hU => ?_⟩ ?_
  · go_simp; exact vp_alloc rfl rfl rfl
  refine Seg.sa ?_
  refine Seg.step _ rfl ⟨by rfl, fun U z k hz hU hc => ?_⟩ ?_
  · have hz2 := Option.some.inj hz
    cases hz2; clear hz
    exact vp_store_agg _ _ _ rfl hc rfl rfl (by kernel_rfl) rfl (by rfl)
  refine Seg.sa ?_
  refine Seg.sq ?_
  refine Seg.stop (fun U8 hU hk => ?_)
  have nb6 := hge 6 _ _ rfl
  have rb6 := (hk 6 _ 7 rfl trivial).1.1 trivial _ (Nat.zero_le _) rfl
  clear hk hge hne
  generalize th (0 + 6) = p8_6 at *
  simp only [Ent.obj] at rb6
  have df_p0_0_p8_6 : p0_0 ≠ p8_6 := by have := held_lt r_p0_0; omega
  have df_p0_1_p8_6 : p0_1 ≠ p8_6 := by have := held_lt r_p0_1; omega
  have df_p0_2_p8_6 : p0_2 ≠ p8_6 := by have := held_lt r_p0_2; omega
  have df_p0_3_p8_6 : p0_3 ≠ p8_6 := by have := held_lt r_p0_3; omega
  have df_p1_7_p8_6 : p1_7 ≠ p8_6 := by have := held_lt r_p1_7; omega
  have df_p2_7_p8_6 : p2_7 ≠ p8_6 := by have := held_lt r_p2_7; omega
  have df_p3_2_p8_6 : p3_2 ≠ p8_6 := by have := held_lt r_p3_2; omega
  have df_p5_5_p8_6 : p5_5 ≠ p8_6 := by have := held_lt r_p5_5; omega
  have df_p6_6_p8_6 : p6_6 ≠ p8_6 := by have := held_lt r_p6_6; omega
  have df_p7_5_p8_6 : p7_5 ≠ p8_6 := by have := held_lt r_p7_5; omega
  replace r_p0_0 := held_after hU r_p0_0
  replace r_p0_1 := held_after hU r_p0_1
  replace r_p0_2 := held_after hU r_p0_2
  replace r_p0_3 := held_after hU r_p0_3
  replace r_p1_7 := held_after hU r_p1_7
  replace r_p2_7 := held_after hU r_p2_7
  replace r_p3_2 := held_after hU r_p3_2
  replace r_p5_5 := held_after hU r_p5_5
  replace r_p6_6 := held_after hU r_p6_6
  replace r_p7_5 := held_after hU r_p7_5
  have r_p8_6 := rb6
  clear rb6
  have n_p8_6 := nb6
  clear nb6
  have sz8 := hU.size
  replace hB := bthen hB hU
  clear hU
  go_upto_region 9 with (fail)
  apply wp_region_seg0 (w := U8) (S := [.q [], .q [], .q [], .q [], .q [], .q [], .al 7, .st 6 [], .q []]) (E := [.q0 _, .q0 _, .c0 _, .q0 _, .q0 _, .q0 _, .al ((fun p => .pointer (some ⟨p, 0, none⟩)), _) 7, .s0 6 (.cells _ _), .q0 _]) rfl (by kernel_rfl) rfl rfl
  intro th hge hne
  refine Seg.sq ?_ (ht := Or.inl ⟨by rfl, fun U hU => vp_quiet (by (have h0 := held_cell (held_after hU.1 r_p3_2) 0 _ rfl; have h1 := held_cell (held_after hU.1 r_p3_2) 1 _ rfl; have h2 := held_cell (held_after hU.1 r_p3_2) 2 _ rfl; go_simp <;> exact rfl))⟩)
  refine Seg.sq ?_ (ht := Or.inl ⟨by rfl, fun U hU => vp_quiet (by (have h0 := held_cell (held_after hU.1 r_p8_6) 0 _ rfl; have h1 := held_cell (held_after hU.1 r_p8_6) 1 _ rfl; have h2 := held_cell (held_after hU.1 r_p8_6) 2 _ rfl; go_simp <;> exact rfl))⟩)
  refine Seg.step _ rfl (Or.inl ⟨by rfl, fun U hU => ?_⟩) ?_
  · go_simp
    refine vp_call (c5.out _)
  refine Seg.sa ?_
  iterate 3 refine Seg.sq ?_
  refine Seg.step _ rfl ⟨by rfl, fun U hU => ?_⟩ ?_
  · go_simp; exact vp_alloc rfl rfl rfl
  refine Seg.sa ?_
  refine Seg.step _ rfl ⟨by rfl, fun U z k hz hU hc => ?_⟩ ?_
  · have hz2 := Option.some.inj hz
    cases hz2; clear hz
    exact vp_store_agg _ _ _ rfl hc rfl rfl (by kernel_rfl) rfl (by rfl)
  refine Seg.sa ?_
  refine Seg.sq ?_
  refine Seg.stop (fun U9 hU hk => ?_)
  have nb6 := hge 6 _ _ rfl
  have rb6 := (hk 6 _ 7 rfl trivial).1.1 trivial _ (Nat.zero_le _) rfl
  clear hk hge hne
  generalize th (0 + 6) = p9_6 at *
  simp only [Ent.obj] at rb6
  have df_p0_0_p9_6 : p0_0 ≠ p9_6 := by have := held_lt r_p0_0; omega
  have df_p0_1_p9_6 : p0_1 ≠ p9_6 := by have := held_lt r_p0_1; omega
  have df_p0_2_p9_6 : p0_2 ≠ p9_6 := by have := held_lt r_p0_2; omega
  have df_p0_3_p9_6 : p0_3 ≠ p9_6 := by have := held_lt r_p0_3; omega
  have df_p1_7_p9_6 : p1_7 ≠ p9_6 := by have := held_lt r_p1_7; omega
  have df_p2_7_p9_6 : p2_7 ≠ p9_6 := by have := held_lt r_p2_7; omega
  have df_p3_2_p9_6 : p3_2 ≠ p9_6 := by have := held_lt r_p3_2; omega
  have df_p5_5_p9_6 : p5_5 ≠ p9_6 := by have := held_lt r_p5_5; omega
  have df_p6_6_p9_6 : p6_6 ≠ p9_6 := by have := held_lt r_p6_6; omega
  have df_p7_5_p9_6 : p7_5 ≠ p9_6 := by have := held_lt r_p7_5; omega
  have df_p8_6_p9_6 : p8_6 ≠ p9_6 := by have := held_lt r_p8_6; omega
  replace r_p0_0 := held_after hU r_p0_0
  replace r_p0_1 := held_after hU r_p0_1
  replace r_p0_2 := held_after hU r_p0_2
  replace r_p0_3 := held_after hU r_p0_3
  replace r_p1_7 := held_after hU r_p1_7
  replace r_p2_7 := held_after hU r_p2_7
  replace r_p3_2 := held_after hU r_p3_2
  replace r_p5_5 := held_after hU r_p5_5
  replace r_p6_6 := held_after hU r_p6_6
  replace r_p7_5 := held_after hU r_p7_5
  replace r_p8_6 := held_after hU r_p8_6
  have r_p9_6 := rb6
  clear rb6
  have n_p9_6 := nb6
  clear nb6
  have sz9 := hU.size
  replace hB := bthen hB hU
  clear hU
  have dA := df_p1_7_p3_2
  have dB := df_p1_7_p9_6
  have dC := df_p0_0_p1_7
  have dD := df_p0_3_p1_7
  have dE := df_p0_0_p3_2
  have dF := df_p0_3_p3_2
  have x0 := held_cell r_p6_6 0 _ rfl
  have x1 := held_cell r_p6_6 1 _ rfl
  have x2 := held_cell r_p6_6 2 _ rfl
  have z0 := held_cell r_p1_7 0 _ rfl
  have z1 := held_cell r_p1_7 1 _ rfl
  have z2 := held_cell r_p1_7 2 _ rfl
  have g0f := held_free r_p1_7 0
  have g1f := held_free r_p1_7 1
  have g2f := held_free r_p1_7 2
  obtain ⟨W1, hW1, ya, yO⟩ := st3 r_p1_7 (.int .i32 R0) (.int .i32 R1) (.int .i32 R2)
  have rC := (yO.block _ (Ne.symm dB)).trans r_p9_6
  have rB := (yO.block _ (Ne.symm dA)).trans r_p3_2
  have rS := (yO.block _ dC).trans r_p0_0
  have rT := (yO.block _ dD).trans r_p0_3
  have hB1 := belowS hB yO (by omega)
  have xc0 := held_cell rC 0 _ rfl
  have xc1 := held_cell rC 1 _ rfl
  have xc2 := held_cell rC 2 _ rfl
  have zc0 := held_cell rB 0 _ rfl
  have zc1 := held_cell rB 1 _ rfl
  have zc2 := held_cell rB 2 _ rfl
  have gc0 := held_free rB 0
  have gc1 := held_free rB 1
  have gc2 := held_free rB 2
  obtain ⟨W2, hW2, yb, yP⟩ := st3 rB (.int .i32 C0) (.int .i32 C1) (.int .i32 C2)
  have ya2 := (yP.block _ dA).trans ya
  have rS2 := (yP.block _ dE).trans rS
  have rT2 := (yP.block _ dF).trans rT
  have hB2 := belowS hB1 yP (by omega)
  have sW : W1.heap.size = U9.heap.size := yO.size
  have sW2 : W2.heap.size = W1.heap.size := yP.size
  clear r_p0_1 r_p0_2 r_p2_7 r_p5_5 r_p6_6 r_p7_5 r_p8_6 r_p9_6
  clear r_p0_0 r_p0_3 r_p1_7 r_p3_2 hB yO yP rC rB rS rT hB1 ya
  have r_p0_0 := rS2
  have r_p0_3 := rT2
  have r_p1_7 := ya2
  have r_p3_2 := yb
  have hB := hB2
  clear rS2 rT2 ya2 yb hB2
  clear dA dB dC dD dE dF
  go_upto_region 13 with (fail)
  clear hW1 hW2 x0 x1 x2 z0 z1 z2 g0f g1f g2f xc0 xc1 xc2 zc0 zc1 zc2 gc0 gc1 gc2 hKK wk0 wk1 wk2 wk3 wk4 wKK sz1 sz2 sz3 sz4 sz5 sz6 sz7 sz8
  clear d_p0_0_p0_1 d_p0_0_p0_2 d_p0_0_p0_3 d_p0_1_p0_2 d_p0_1_p0_3 d_p0_2_p0_3 df_p0_0_p1_7 df_p0_0_p2_7 df_p0_0_p3_2 df_p0_0_p5_5 df_p0_0_p6_6 df_p0_0_p7_5 df_p0_0_p8_6 df_p0_0_p9_6 df_p0_1_p1_7 df_p0_1_p2_7 df_p0_1_p3_2 df_p0_1_p5_5 df_p0_1_p6_6 df_p0_1_p7_5 df_p0_1_p8_6 df_p0_1_p9_6 df_p0_2_p1_7 df_p0_2_p2_7 df_p0_2_p3_2 df_p0_2_p5_5 df_p0_2_p6_6 df_p0_2_p7_5 df_p0_2_p8_6 df_p0_2_p9_6 df_p0_3_p1_7 df_p0_3_p2_7 df_p0_3_p3_2 df_p0_3_p5_5 df_p0_3_p6_6 df_p0_3_p7_5 df_p0_3_p8_6 df_p0_3_p9_6 df_p1_7_p2_7 df_p1_7_p3_2 df_p1_7_p5_5 df_p1_7_p6_6 df_p1_7_p7_5 df_p1_7_p8_6 df_p1_7_p9_6 df_p2_7_p3_2 df_p2_7_p5_5 df_p2_7_p6_6 df_p2_7_p7_5 df_p2_7_p8_6 df_p2_7_p9_6 df_p3_2_p5_5 df_p3_2_p6_6 df_p3_2_p7_5 df_p3_2_p8_6 df_p3_2_p9_6 df_p5_5_p6_6 df_p5_5_p7_5 df_p5_5_p8_6 df_p5_5_p9_6 df_p6_6_p7_5 df_p6_6_p8_6 df_p6_6_p9_6 df_p7_5_p8_6 df_p7_5_p9_6 df_p8_6_p9_6
  have sQ : w.heap.size ≤ W2.heap.size := hB.size
  clear sW sW2
  apply wp_region_seg0 (w := W2) (S := [.q [], .q [], .q [], .q [], .q [], .q [], .q [], .q []]) (E := [.q0 _, .q0 _, .c0 _, .q0 _, .q0 _, .q0 _, .q0 _, .q0 _]) rfl (by kernel_rfl) rfl rfl
  intro th hge hne
  refine Seg.sq ?_
  refine Seg.sq ?_ (ht := Or.inl ⟨by rfl, fun U hU => vp_quiet (by (have h0 := held_cell (held_after hU.1 r_p3_2) 0 _ rfl; go_simp <;> exact rfl))⟩)
  refine Seg.step _ rfl (Or.inl ⟨by rfl, fun U hU => ?_⟩) ?_
  · go_simp
    refine vp_calls (rlim_any C0 _)
  refine Seg.sa ?_
  iterate 5 refine Seg.sq ?_
  refine Seg.stop (fun U10 hU hk => ?_)
  clear hk hge hne
  replace r_p0_0 := held_after hU r_p0_0
  replace r_p0_3 := held_after hU r_p0_3
  replace r_p1_7 := held_after hU r_p1_7
  replace r_p3_2 := held_after hU r_p3_2
  have sz10 := hU.size
  replace hB := bthen hB hU
  clear hU
  go_upto_region 14 with (fail)
  apply wp_region_seg0 (w := U10) (S := [.q [], .q [], .q [], .q [], .q [], .q [], .q [], .q []]) (E := [.q0 _, .q0 _, .c0 _, .q0 _, .q0 _, .q0 _, .q0 _, .q0 _]) rfl (by kernel_rfl) rfl rfl
  intro th hge hne
  refine Seg.sq ?_
  refine Seg.sq ?_ (ht := Or.inl ⟨by rfl, fun U hU => vp_quiet (by (have h0 := held_cell (held_after hU.1 r_p3_2) 1 _ rfl; go_simp <;> exact rfl))⟩)
  refine Seg.step _ rfl (Or.inl ⟨by rfl, fun U hU => ?_⟩) ?_
  · go_simp
    refine vp_calls (rlim_any C1 _)
  refine Seg.sa ?_
  iterate 5 refine Seg.sq ?_
  refine Seg.stop (fun U11 hU hk => ?_)
  clear hk hge hne
  replace r_p0_0 := held_after hU r_p0_0
  replace r_p0_3 := held_after hU r_p0_3
  replace r_p1_7 := held_after hU r_p1_7
  replace r_p3_2 := held_after hU r_p3_2
  have sz11 := hU.size
  replace hB := bthen hB hU
  clear hU
  go_upto_region 15 with (fail)
  apply wp_region_seg0 (w := U11) (S := [.q [], .q [], .q [], .q [], .q [], .q [], .q [], .q []]) (E := [.q0 _, .q0 _, .c0 _, .q0 _, .q0 _, .q0 _, .q0 _, .q0 _]) rfl (by kernel_rfl) rfl rfl
  intro th hge hne
  refine Seg.sq ?_
  refine Seg.sq ?_ (ht := Or.inl ⟨by rfl, fun U hU => vp_quiet (by (have h0 := held_cell (held_after hU.1 r_p3_2) 2 _ rfl; go_simp <;> exact rfl))⟩)
  refine Seg.step _ rfl (Or.inl ⟨by rfl, fun U hU => ?_⟩) ?_
  · go_simp
    refine vp_calls (rlim_any C2 _)
  refine Seg.sa ?_
  iterate 5 refine Seg.sq ?_
  refine Seg.stop (fun U12 hU hk => ?_)
  clear hk hge hne
  replace r_p0_0 := held_after hU r_p0_0
  replace r_p0_3 := held_after hU r_p0_3
  replace r_p1_7 := held_after hU r_p1_7
  replace r_p3_2 := held_after hU r_p3_2
  have sz12 := hU.size
  replace hB := bthen hB hU
  clear hU
  go_upto_region 16 with (fail)
  apply wp_region_seg0 (w := U12) (S := [.q [], .q [], .q [], .q [], .q [], .q [], .q [], .q [], .al 9, .st 8 [], .q []]) (E := [.q0 _, .q0 _, .q0 _, .q0 _, .c0 _, .q0 _, .q0 _, .q0 _, .al ((fun p => .pointer (some ⟨p, 0, none⟩)), _) 9, .s0 8 (.cells _ _), .q0 _]) rfl (by kernel_rfl) rfl rfl
  intro th hge hne
  refine Seg.sq ?_
  refine Seg.sq ?_ (ht := Or.inl ⟨by rfl, fun U hU => vp_quiet (by (have h0 := held_cell (held_after hU.1 r_p0_0) 0 _ rfl; have h1 := held_cell (held_after hU.1 r_p0_0) 1 _ rfl; have h2 := held_cell (held_after hU.1 r_p0_0) 2 _ rfl; have h3 := held_cell (held_after hU.1 r_p0_0) 3 _ rfl; go_simp <;> exact rfl))⟩)
  refine Seg.sq ?_ (ht := Or.inl ⟨by rfl, fun U hU => vp_quiet (by (have h0 := held_cell (held_after hU.1 r_p1_7) 0 _ rfl; have h1 := held_cell (held_after hU.1 r_p1_7) 1 _ rfl; have h2 := held_cell (held_after hU.1 r_p1_7) 2 _ rfl; go_simp <;> exact rfl))⟩)
  refine Seg.sq ?_
  refine Seg.step _ rfl (Or.inl ⟨by rfl, fun U hU => ?_⟩) ?_
  · go_simp
    refine vp_call (c9.out _)
  refine Seg.sa ?_
  iterate 3 refine Seg.sq ?_
  refine Seg.step _ rfl ⟨by rfl, fun U hU => ?_⟩ ?_
  · go_simp; exact vp_alloc rfl rfl rfl
  refine Seg.sa ?_
  refine Seg.step _ rfl ⟨by rfl, fun U z k hz hU hc => ?_⟩ ?_
  · have hz2 := Option.some.inj hz
    cases hz2; clear hz
    exact vp_store_agg _ _ _ rfl hc rfl rfl (by kernel_rfl) rfl (by rfl)
  refine Seg.sa ?_
  refine Seg.sq ?_
  refine Seg.stop (fun U13 hU hk => ?_)
  have nb8 := hge 8 _ _ rfl
  have rb8 := (hk 8 _ 9 rfl trivial).1.1 trivial _ (Nat.zero_le _) rfl
  clear hk hge hne
  generalize th (0 + 8) = p16_8 at *
  simp only [Ent.obj] at rb8
  replace r_p0_0 := held_after hU r_p0_0
  replace r_p0_3 := held_after hU r_p0_3
  replace r_p1_7 := held_after hU r_p1_7
  replace r_p3_2 := held_after hU r_p3_2
  have r_p16_8 := rb8
  clear rb8
  have n_p16_8 := nb8
  clear nb8
  have sz13 := hU.size
  replace hB := bthen hB hU
  clear hU
  have e0 := held_cell r_p16_8 0 _ rfl
  have e1 := held_cell r_p16_8 1 _ rfl
  have e2 := held_cell r_p16_8 2 _ rfl
  have e3 := held_cell r_p16_8 3 _ rfl
  have y7 := held_cell r_p0_0 7 _ rfl
  have y8 := held_cell r_p0_0 8 _ rfl
  have z0 := held_cell r_p0_3 0 _ rfl
  have z1 := held_cell r_p0_3 1 _ rfl
  have z2 := held_cell r_p0_3 2 _ rfl
  have z3 := held_cell r_p0_3 3 _ rfl
  have z4 := held_cell r_p0_3 4 _ rfl
  have z5 := held_cell r_p0_3 5 _ rfl
  have z6 := held_cell r_p0_3 6 _ rfl
  have z7 := held_cell r_p0_3 7 _ rfl
  have z8 := held_cell r_p0_3 8 _ rfl
  have f0 := held_free r_p0_3 0
  have f1 := held_free r_p0_3 1
  have f2 := held_free r_p0_3 2
  have f3 := held_free r_p0_3 3
  have f4 := held_free r_p0_3 4
  have f5 := held_free r_p0_3 5
  have f6 := held_free r_p0_3 6
  have f7 := held_free r_p0_3 7
  have f8 := held_free r_p0_3 8
  obtain ⟨W9, hW9, y9, o9⟩ := st9 r_p0_3 (.int .i32 Q0) (.int .i32 Q1) (.int .i32 Q2) (.int .i32 Q3) (.int .i32 (limS C0)) (.int .i32 (limS C1)) (.int .i32 (limS C2)) (.int .i64 (st + 1)) (.int .i64 (cu + KK + limK C0 + limK C1 + limK C2 + kt))
  have hB9 := hid (belowS hB o9 (by omega))
  have ez0 := held_cell y9 0 _ rfl
  have ez1 := held_cell y9 1 _ rfl
  have ez2 := held_cell y9 2 _ rfl
  have ez3 := held_cell y9 3 _ rfl
  have ez4 := held_cell y9 4 _ rfl
  have ez5 := held_cell y9 5 _ rfl
  have ez6 := held_cell y9 6 _ rfl
  have ez7 := held_cell y9 7 _ rfl
  have ez8 := held_cell y9 8 _ rfl
  clear o9 y9 hB
  go_wp2_with fail
  refine bodyPost_ret (v := .agg #[.int .i32 Q0, .int .i32 Q1, .int .i32 Q2, .int .i32 Q3, .int .i32 (limS C0), .int .i32 (limS C1), .int .i32 (limS C2), .int .i64 (st + 1), .int .i64 (cu + KK + limK C0 + limK C1 + limK C2 + kt)]) (by simp [results, Tryz.results11, go_sem, ez0, ez1, ez2, ez3, ez4, ez5, ez6, ez7, ez8]) rfl ⟨by rw [hfin.out], hB9.out⟩
end Go.Proofs.YtpdpcdifnlellaaGreat

/- Stage 42: what the laws want: one at rest, the word of a unit, knows, may. -/
namespace Go.Proofs.YtpdpcdifnlellaaGreat
open Go.ChangeShapes Go.WideShapes Go.ChangeAt Go.RowKit
set_option maxRecDepth 100000
set_option linter.unusedVariables false
set_option linter.unusedSimpArgs false

theorem pack_pos (x y z t : Int) : 0 < joinV [2, 10, 10, 10] (packL x y z t) := by
  have hP : joinP [2, 10, 10, 10] (packL x y z t) := of_decide_eq_true (pack_fits x y z t)
  rw [(join_yes hP).1]
  have hl := packL_len x y z t
  have e : joinR [2, 10, 10, 10] (packL x y z t) ([2, 10, 10, 10] : List Int).length = joinR [2, 10, 10, 10] (packL x y z t) 3 * 2 ^ (([2, 10, 10, 10] : List Int).getD 3 0).toNat + ((packL x y z t).getD 3 0).toNat := rfl
  have h3 : 1 ≤ (packL x y z t).getD 3 0 := by
    rw [List.getD_eq_getElem?_getD, List.getElem?_eq_getElem (show 3 < (packL x y z t).length by omega), Option.getD_some]
    have hm : (packL x y z t)[3]'(by omega) ∈ (oth (best4 x y z t) 4).map (packG x y z t) := by
      simp only [packL, List.getElem_cons_succ]
      exact List.getElem_mem _
    obtain ⟨i, -, hi⟩ := List.mem_map.1 hm
    rw [← hi]; unfold packG numS; exact (numC_b _).1
  rw [e]
  have : 1 ≤ ((packL x y z t).getD 3 0).toNat := by omega
  omega
theorem pack_word {x y z t : Int} (h : offS (sqs [x, y, z, t] 0) ≤ 8589934592) : ∃ n : Int, packT x y z t = .tuple #[.int .u32 n, .bool true] ∧ 0 < n := by
  refine ⟨(joinV [2, 10, 10, 10] (packL x y z t) : Nat), ?_, by have := pack_pos x y z t; omega⟩
  unfold packT isU
  rw [if_pos (by simp; omega)]
theorem pack_form42 (x y z t : Int) : ∃ (n : Int) (b : Bool), packT x y z t = .tuple #[.int .u32 n, .bool b] := by
  unfold packT; split
  · exact ⟨_, _, rfl⟩
  · exact ⟨_, _, rfl⟩
theorem lim_in {n : Int} (h : -16384 ≤ n ∧ n ≤ 16384) : n = limS n ∧ limK n = 0 := by
  unfold limS limK; rw [if_neg (by omega), if_neg (by omega), if_neg (by omega), if_neg (by omega)]; exact ⟨rfl, rfl⟩
theorem over0_42 (d : Int) : overS 0 d = 0 := by
  unfold overS
  split
  · rfl
  · rename_i h
    have hq : qn (0 : Int).natAbs d.natAbs = 0 := by
      have : 0 < d.natAbs := by omega
      unfold qn; simp; omega
    rw [hq]; simp
theorem unit0_42 (L : Int) : unitN L 0 = 0 := by
  unfold unitN; rw [Int.mul_zero, over0_42]; unfold wrap32; omega
theorem crE_0 {a b c d : Int} (h1 : a * b = 0) (h2 : c * d = 0) : clampS (crE a b c d) = 0 := by
  unfold crE; rw [h1, h2, round_0_t]; decide +kernel
theorem err_up (up : Int) : ∃ ok, errS 1073741824 0 0 0 0 0 up = (0, 0, 0, ok) := by
  have u0 : clampS (upX 1073741824 0 0 0) = 0 := by decide +kernel
  have u1 : clampS (upY 1073741824 0 0 0) = 0 := by decide +kernel
  obtain ⟨c, -, hd⟩ := dbl_scale 33 0 0 up
  have x0 : (ueS 0 0 up).1 = 0 := by unfold ueS; rw [hd, Int.mul_zero]; exact unit0_42 _
  have x1 : (ueS 0 0 up).2.1 = 0 := by unfold ueS; rw [hd, Int.mul_zero]; exact unit0_42 _
  unfold errS
  split
  · refine ⟨true, ?_⟩
    rw [u0, u1, x0, x1, crE_0 (Int.zero_mul _) (Int.mul_zero _), crE_0 (Int.mul_zero _) (Int.zero_mul _), crE_0 (Int.zero_mul _) (Int.zero_mul _)]
  · exact ⟨false, rfl⟩
theorem rest_step (b0 b1 b2 a0 a1 a2 d : Int) (l0 : -16384 ≤ b0 ∧ b0 ≤ 16384) (l1 : -16384 ≤ b1 ∧ b1 ≤ 16384) (l2 : -16384 ≤ b2 ∧ b2 ≤ 16384) (hE : ∃ ok, errS 1073741824 0 0 0 a0 a1 a2 = (0, 0, 0, ok)) : StepL 1073741824 0 0 0 b0 b1 b2 b0 b1 b2 a0 a1 a2 d 1073741824 0 0 0 b0 b1 b2 0 := by
  have hb : B32 b0 ∧ B32 b1 ∧ B32 b2 := by unfold B32; omega
  have one : B32 1073741824 := by unfold B32; omega
  obtain ⟨ok, hE⟩ := hE
  refine ⟨0, 0, 0, 0, b0, b1, b2, 0, 0, 0, 0, 0, ?_, ⟨b32_0, b32_0, b32_0⟩, by omega, ⟨0, 0, 0, ok, hE, ?_⟩, hb, ⟨b32_0, b32_0, b32_0⟩, by omega, ?_, by omega, (lim_in l0).1, (lim_in l1).1, (lim_in l2).1, by rw [(lim_in l0).2, (lim_in l1).2, (lim_in l2).2]; rfl⟩
  · rw [show (fun i => sel i b0 b1 b2 - sel i b0 b1 b2) = fun _ => 0 from by funext i; omega]
    exact cut3_in (fun _ => 0) b32_0 b32_0 b32_0
  · cases ok
    · exact .inl ⟨rfl, rfl, rfl, rfl, rfl, rfl, rfl, rfl⟩
    · obtain ⟨f0, f1, f2, k2, k3, l0, l1, l2, k4, y0, y1, y2, k5, k6, C0, C1, C2, R0, R1, R2, K, h⟩ := ly_form 0 0 0 b0 b1 b2 d 0 0 0 ⟨b32_0, b32_0, b32_0⟩
      obtain ⟨⟨h1, h2, h3⟩, ⟨h4, h5, h6⟩, h7⟩ := ly_zero h ⟨rfl, rfl, rfl⟩ hb ⟨b32_0, b32_0, b32_0⟩
      rw [h1, h2, h3, h4, h5, h6, h7] at h
      exact .inr ⟨rfl, f0, f1, f2, k2, k3, l0, l1, l2, k4, y0, y1, y2, k5, k6, h⟩
  · refine ⟨1073741824, 0, 0, 0, 0, 1073741824, 0, 0, 0, true, mul_none one b32_0 b32_0 b32_0 (Int.zero_mul d) (Int.zero_mul d) (Int.zero_mul d), one, b32_0, b32_0, b32_0, by omega, by kernel_rfl, ?_⟩
    rw [Int.zero_mul, rnd_none.2]
    rfl
theorem b32_42 {n : Int} (h : (Lit.int .i32 n).wf = true) : B32 n := by have := bounds_i32 h; unfold B32; omega
theorem eqQeqS9 (q0 q1 q2 q3 : Int) (w : World) : (Op.equalIn 9999 23 (.agg #[.int .i32 q0, .int .i32 q1, .int .i32 q2, .int .i32 q3]) (.agg #[.int .i32 q0, .int .i32 q1, .int .i32 q2, .int .i32 q3])).run Tryz.prog w = .ok true w := by
  rw [show (9999 : Nat) = 9998 + 1 from rfl, run_equalIn_struct w 9998 _ _ _ (by rfl) (by kernel_rfl)]
  go_simp
theorem eqBeqS9 (b0 b1 b2 : Int) (w : World) : (Op.equalIn 9999 25 (.agg #[.int .i32 b0, .int .i32 b1, .int .i32 b2]) (.agg #[.int .i32 b0, .int .i32 b1, .int .i32 b2])).run Tryz.prog w = .ok true w := by
  rw [show (9999 : Nat) = 9998 + 1 from rfl, run_equalIn_struct w 9998 _ _ _ (by rfl) (by kernel_rfl)]
  go_simp
theorem eqS9 (q0 q1 q2 q3 b0 b1 b2 st cu : Int) (w : World) : (Op.equalIn 10000 34 (.agg #[.int .i32 q0, .int .i32 q1, .int .i32 q2, .int .i32 q3, .int .i32 b0, .int .i32 b1, .int .i32 b2, .int .i64 st, .int .i64 cu]) (.agg #[.int .i32 q0, .int .i32 q1, .int .i32 q2, .int .i32 q3, .int .i32 b0, .int .i32 b1, .int .i32 b2, .int .i64 st, .int .i64 cu])).run Tryz.prog w = .ok true w := by
  have e1 := fun W => eqQeqS9 q0 q1 q2 q3 W
  have e2 := fun W => eqBeqS9 b0 b1 b2 W
  rw [show (10000 : Nat) = 9999 + 1 from rfl, run_equalIn_struct w 9999 _ _ _ (by rfl) (by kernel_rfl)]
  go_simp
theorem eqQ10 (q0 q1 q2 q3 : Int) (w : World) : (Op.equalIn 10000 23 (.agg #[.int .i32 q0, .int .i32 q1, .int .i32 q2, .int .i32 q3]) (.agg #[.int .i32 q0, .int .i32 q1, .int .i32 q2, .int .i32 q3])).run Tryz.prog w = .ok true w := by
  rw [show (10000 : Nat) = 9999 + 1 from rfl, run_equalIn_struct w 9999 _ _ _ (by rfl) (by kernel_rfl)]
  go_simp
set_option maxHeartbeats 8000000 in
theorem knows42_any (w : World) : Calls Tryz.prog 6 #[] w fun e w' => e = .returned (.bool true) ∧ Below w.heap.size w w' := by
  have one : B32 1073741824 := by unfold B32; omega
  have n6 : B32 65536 := by unfold B32; omega
  have n5 : B32 655 := by unfold B32; omega
  have hV : packT 1073741824 0 0 0 = .tuple #[.int .u32 537395712, .bool true] := by kernel_rfl
  have k1 := hid (fun U => fstep_any 1073741824 0 0 0 0 0 0 0 0 0 0 0 65536 655 0 0 U one b32_0 b32_0 b32_0 b32_0 b32_0 b32_0 b32_0 b32_0 b32_0 b32_0 b32_0 n6 n5 (by omega) (by omega) (by omega) (by omega) 1073741824 0 0 0 0 0 0 0 (rest_step 0 0 0 0 0 65536 655 (by omega) (by omega) (by omega) (err_up 65536)))
  have k2 := hid (fun U => fword_any 1073741824 0 0 0 0 0 0 0 0 537395712 true hV U one b32_0 b32_0 b32_0)
  have eQ := fun W => eqQ10 1073741824 0 0 0 W
  clear hV one n6 n5
  go_enter Tryz.func6, Tryz.ntmps6
  go_upto_region 0 with (fail)
  apply wp_region_seg0 (w := w) (S := [.q []]) (E := [.q0 _]) rfl (by kernel_rfl) rfl rfl
  intro th hge hne
  refine Seg.sq ?_
  refine Seg.stop (fun U1 hU hk => ?_)
  clear hk hge hne
  have sz1 := hU.size
  have hB : Below w.heap.size w U1 := hU
  clear hU
  go_upto_region 1 with (fail)
  apply wp_region_seg0 (w := U1) (S := [.q [], .q [], .q [], .q [], .al 5, .st 4 []]) (E := [.c0 _, .q0 _, .q0 _, .c0 _, .al ((fun p => .pointer (some ⟨p, 0, none⟩)), _) 5, .s0 4 (.cells _ _)]) rfl (by kernel_rfl) rfl rfl
  intro th hge hne
  refine Seg.step _ rfl (Or.inl ⟨by rfl, fun U hU => ?_⟩) ?_
  · go_simp
    refine vp_call (fstart_any _)
  refine Seg.sa ?_
  refine Seg.sq ?_
  refine Seg.sq ?_
  refine Seg.step _ rfl (Or.inl ⟨by rfl, fun U hU => ?_⟩) ?_
  · go_simp
    refine vp_call (k1.out _)
  refine Seg.sa ?_
  refine Seg.step _ rfl ⟨by rfl, fun U hU => ?_⟩ ?_
  · go_simp; exact vp_alloc rfl rfl rfl
  refine Seg.sa ?_
  refine Seg.step _ rfl ⟨by rfl, fun U z k hz hU hc => ?_⟩ ?_
  · have hz2 := Option.some.inj hz
    cases hz2; clear hz
    exact vp_store_agg _ _ _ rfl hc rfl rfl (by kernel_rfl) rfl (by rfl)
  refine Seg.sa ?_
  refine Seg.stop (fun U2 hU hk => ?_)
  have nb4 := hge 4 _ _ rfl
  have rb4 := (hk 4 _ 5 rfl trivial).1.1 trivial _ (Nat.zero_le _) rfl
  clear hk hge hne
  generalize th (0 + 4) = p1_4 at *
  simp only [Ent.obj] at rb4
  have r_p1_4 := rb4
  clear rb4
  have n_p1_4 := nb4
  clear nb4
  have sz2 := hU.size
  replace hB := bthen hB hU
  clear hU
  go_upto_region 2 with (fail)
  apply wp_region_seg (w := U2) (S := [.q [], .q [], .q [], .q [], .q [], .q [], .q [], .q [], .q [], .q [], .q [], .q [], .q [], .q [], .q [], .q [], .q [], .q [], .q [], .q [], .q [], .q [], .q [], .q [], .q [], .q [], .q [], .q [], .q [], .q []]) (E := [.c0 _, .c0 _, .q0 _, .q0 _, .q0 _, .q0 _, .c0 _, .q0 _, .q0 _, .q0 _, .q0 _, .q0 _, .q0 _, .q0 _, .q0 _, .q0 _, .q0 _, .q0 _, .q0 _, .q0 _, .q0 _, .q0 _, .q0 _, .q0 _, .q0 _, .q0 _, .q0 _, .q0 _, .q0 _, .q0 _]) (by kernel_rfl) rfl (by kernel_rfl) rfl rfl
  intro th hge hne
  refine Seg.step _ rfl (Or.inl ⟨by rfl, fun U hU => ?_⟩) ?_
  · go_simp
    refine vp_call (fstart_any _)
  refine Seg.sa ?_
  refine Seg.step _ rfl (Or.inl ⟨by rfl, fun U hU => ?_⟩) ?_
  · go_simp
    refine vp_call (k2.out _)
  refine Seg.sa ?_
  iterate 3 refine Seg.sq ?_
  refine Seg.sq ?_ (ht := Or.inl ⟨by rfl, fun U hU => vp_quiet (by (have h0 := held_cell (held_after hU.1 r_p1_4) 0 _ rfl; have h1 := held_cell (held_after hU.1 r_p1_4) 1 _ rfl; have h2 := held_cell (held_after hU.1 r_p1_4) 2 _ rfl; have h3 := held_cell (held_after hU.1 r_p1_4) 3 _ rfl; go_simp <;> exact rfl))⟩)
  refine Seg.step _ rfl (Or.inl ⟨by rfl, fun U hU => ?_⟩) ?_
  · go_simp
    refine vp_call (rqone_any _)
  refine Seg.sa ?_
  iterate 4 refine Seg.sq ?_
  refine Seg.sq ?_ (ht := Or.inl ⟨by rfl, fun U hU => vp_quiet (by (have h0 := held_cell (held_after hU.1 r_p1_4) 7 _ rfl; go_simp <;> exact rfl))⟩)
  iterate 4 refine Seg.sq ?_
  refine Seg.sq ?_ (ht := Or.inl ⟨by rfl, fun U hU => vp_quiet (by (have h0 := held_cell (held_after hU.1 r_p1_4) 8 _ rfl; go_simp <;> exact rfl))⟩)
  iterate 13 refine Seg.sq ?_
  refine Seg.stop (fun U3 hU hk => ?_)
  clear hk hge hne
  replace r_p1_4 := held_after hU r_p1_4
  have sz3 := hU.size
  replace hB := bthen hB hU
  clear hU
  go_wp2_with fail
  go_ret
  exact ⟨rfl, hB⟩
set_option maxHeartbeats 4000000 in
theorem may_any (q0 q1 q2 q3 b0 b1 b2 st cu : Int) (w : World) : Calls Tryz.prog 5 #[.agg #[.int .i32 q0, .int .i32 q1, .int .i32 q2, .int .i32 q3, .int .i32 b0, .int .i32 b1, .int .i32 b2, .int .i64 st, .int .i64 cu]] w fun e w' => e = .returned (.bool (decide (0 ≤ st ∧ st ≤ 1099511627776 ∧ 0 ≤ cu ∧ cu ≤ 1099511627776))) ∧ Below w.heap.size w w' := by
  by_cases c0 : 0 ≤ st
  case neg =>
    have d0 : decide (0 ≤ st) = false := by simpa using c0
    rw [show decide (0 ≤ st ∧ st ≤ 1099511627776 ∧ 0 ≤ cu ∧ cu ≤ 1099511627776) = false from by simp; omega]
    clear c0
    go_enter Tryz.func5, Tryz.ntmps5
    go_upto_region 0 with (fail)
    apply wp_region_seg0 (w := w) (S := [.al 1000, .q []]) (E := [.al ((fun p => .pointer (some ⟨p, 0, none⟩)), _) 1000, .q0 _]) rfl (by kernel_rfl) rfl rfl
    intro th hge hne
    refine Seg.step _ rfl ⟨by rfl, fun U hU => ?_⟩ ?_
    · go_simp; exact vp_alloc rfl rfl rfl
    refine Seg.sa ?_
    refine Seg.sq ?_
    refine Seg.stop (fun U1 hU hk => ?_)
    have nb0 := hge 0 _ _ rfl
    have rb0 := (hk 0 _ _ rfl trivial).1.2 (by simp)
    clear hk hge hne
    generalize th (0 + 0) = p0_0 at *
    dsimp only at rb0
    have r_p0_0 := rb0
    clear rb0
    have n_p0_0 := nb0
    clear nb0
    have sz1 := hU.size
    have hB : Below w.heap.size w U1 := hU
    clear hU
    have z7 := held_cell r_p0_0 7 _ rfl
    have z8 := held_cell r_p0_0 8 _ rfl
    go_wp2_with fail
    go_ret
    exact ⟨rfl, hB⟩
  have d0 : decide (0 ≤ st) = true := by simpa using c0
  by_cases c1 : st ≤ 1099511627776
  case neg =>
    have d1 : decide (st ≤ 1099511627776) = false := by simpa using c1
    rw [show decide (0 ≤ st ∧ st ≤ 1099511627776 ∧ 0 ≤ cu ∧ cu ≤ 1099511627776) = false from by simp; omega]
    clear c0 c1
    go_enter Tryz.func5, Tryz.ntmps5
    go_upto_region 0 with (fail)
    apply wp_region_seg0 (w := w) (S := [.al 1000, .q []]) (E := [.al ((fun p => .pointer (some ⟨p, 0, none⟩)), _) 1000, .q0 _]) rfl (by kernel_rfl) rfl rfl
    intro th hge hne
    refine Seg.step _ rfl ⟨by rfl, fun U hU => ?_⟩ ?_
    · go_simp; exact vp_alloc rfl rfl rfl
    refine Seg.sa ?_
    refine Seg.sq ?_
    refine Seg.stop (fun U1 hU hk => ?_)
    have nb0 := hge 0 _ _ rfl
    have rb0 := (hk 0 _ _ rfl trivial).1.2 (by simp)
    clear hk hge hne
    generalize th (0 + 0) = p0_0 at *
    dsimp only at rb0
    have r_p0_0 := rb0
    clear rb0
    have n_p0_0 := nb0
    clear nb0
    have sz1 := hU.size
    have hB : Below w.heap.size w U1 := hU
    clear hU
    have z7 := held_cell r_p0_0 7 _ rfl
    have z8 := held_cell r_p0_0 8 _ rfl
    go_wp2_with fail
    go_ret
    exact ⟨rfl, hB⟩
  have d1 : decide (st ≤ 1099511627776) = true := by simpa using c1
  by_cases c2 : 0 ≤ cu
  case neg =>
    have d2 : decide (0 ≤ cu) = false := by simpa using c2
    rw [show decide (0 ≤ st ∧ st ≤ 1099511627776 ∧ 0 ≤ cu ∧ cu ≤ 1099511627776) = false from by simp; omega]
    clear c0 c1 c2
    go_enter Tryz.func5, Tryz.ntmps5
    go_upto_region 0 with (fail)
    apply wp_region_seg0 (w := w) (S := [.al 1000, .q []]) (E := [.al ((fun p => .pointer (some ⟨p, 0, none⟩)), _) 1000, .q0 _]) rfl (by kernel_rfl) rfl rfl
    intro th hge hne
    refine Seg.step _ rfl ⟨by rfl, fun U hU => ?_⟩ ?_
    · go_simp; exact vp_alloc rfl rfl rfl
    refine Seg.sa ?_
    refine Seg.sq ?_
    refine Seg.stop (fun U1 hU hk => ?_)
    have nb0 := hge 0 _ _ rfl
    have rb0 := (hk 0 _ _ rfl trivial).1.2 (by simp)
    clear hk hge hne
    generalize th (0 + 0) = p0_0 at *
    dsimp only at rb0
    have r_p0_0 := rb0
    clear rb0
    have n_p0_0 := nb0
    clear nb0
    have sz1 := hU.size
    have hB : Below w.heap.size w U1 := hU
    clear hU
    have z7 := held_cell r_p0_0 7 _ rfl
    have z8 := held_cell r_p0_0 8 _ rfl
    go_wp2_with fail
    go_ret
    exact ⟨rfl, hB⟩
  have d2 : decide (0 ≤ cu) = true := by simpa using c2
  by_cases c3 : cu ≤ 1099511627776
  case neg =>
    have d3 : decide (cu ≤ 1099511627776) = false := by simpa using c3
    rw [show decide (0 ≤ st ∧ st ≤ 1099511627776 ∧ 0 ≤ cu ∧ cu ≤ 1099511627776) = false from by simp; omega]
    clear c0 c1 c2 c3
    go_enter Tryz.func5, Tryz.ntmps5
    go_upto_region 0 with (fail)
    apply wp_region_seg0 (w := w) (S := [.al 1000, .q []]) (E := [.al ((fun p => .pointer (some ⟨p, 0, none⟩)), _) 1000, .q0 _]) rfl (by kernel_rfl) rfl rfl
    intro th hge hne
    refine Seg.step _ rfl ⟨by rfl, fun U hU => ?_⟩ ?_
    · go_simp; exact vp_alloc rfl rfl rfl
    refine Seg.sa ?_
    refine Seg.sq ?_
    refine Seg.stop (fun U1 hU hk => ?_)
    have nb0 := hge 0 _ _ rfl
    have rb0 := (hk 0 _ _ rfl trivial).1.2 (by simp)
    clear hk hge hne
    generalize th (0 + 0) = p0_0 at *
    dsimp only at rb0
    have r_p0_0 := rb0
    clear rb0
    have n_p0_0 := nb0
    clear nb0
    have sz1 := hU.size
    have hB : Below w.heap.size w U1 := hU
    clear hU
    have z7 := held_cell r_p0_0 7 _ rfl
    have z8 := held_cell r_p0_0 8 _ rfl
    go_wp2_with fail
    go_ret
    exact ⟨rfl, hB⟩
  have d3 : decide (cu ≤ 1099511627776) = true := by simpa using c3
  rw [show decide (0 ≤ st ∧ st ≤ 1099511627776 ∧ 0 ≤ cu ∧ cu ≤ 1099511627776) = true from by simp; omega]
  clear c0 c1 c2 c3
  go_enter Tryz.func5, Tryz.ntmps5
  go_upto_region 0 with (fail)
  apply wp_region_seg0 (w := w) (S := [.al 1000, .q []]) (E := [.al ((fun p => .pointer (some ⟨p, 0, none⟩)), _) 1000, .q0 _]) rfl (by kernel_rfl) rfl rfl
  intro th hge hne
  refine Seg.step _ rfl ⟨by rfl, fun U hU => ?_⟩ ?_
  · go_simp; exact vp_alloc rfl rfl rfl
  refine Seg.sa ?_
  refine Seg.sq ?_
  refine Seg.stop (fun U1 hU hk => ?_)
  have nb0 := hge 0 _ _ rfl
  have rb0 := (hk 0 _ _ rfl trivial).1.2 (by simp)
  clear hk hge hne
  generalize th (0 + 0) = p0_0 at *
  dsimp only at rb0
  have r_p0_0 := rb0
  clear rb0
  have n_p0_0 := nb0
  clear nb0
  have sz1 := hU.size
  have hB : Below w.heap.size w U1 := hU
  clear hU
  have z7 := held_cell r_p0_0 7 _ rfl
  have z8 := held_cell r_p0_0 8 _ rfl
  go_wp2_with fail
  go_ret
  exact ⟨rfl, hB⟩
end Go.Proofs.YtpdpcdifnlellaaGreat
