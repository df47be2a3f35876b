/- Package turn: Up. -/
import Derived.Test.YtpdpcdifnlellaaGreatTurn
import Derived.Deep.DeepCutAuto
namespace Go.Proofs.YtpdpcdifnlellaaGreat
open Go.ChangeShapes Go.WideShapes Go.ChangeAt Go.RowKit
set_option linter.unusedVariables false

def upX (x y z t : Int) : Int := 2 * (roundS (y * t) 30 - roundS (x * z) 30)
def upY (x y z t : Int) : Int := 2 * (roundS (z * t) 30 + roundS (x * y) 30)
def upZ (x y z t : Int) : Int := roundS (x * x) 30 - roundS (y * y) 30 - roundS (z * z) 30 + roundS (t * t) 30
def upV (x y z t : Int) : Value := .agg #[.int .i32 (clampS (upX x y z t)), .int .i32 (clampS (upY x y z t)), .int .i32 (clampS (upZ x y z t))]
theorem oneIf_b (b : Bool) : 0 ≤ oneIf b ∧ oneIf b ≤ 1 := by cases b <;> simp [oneIf]
set_option maxRecDepth 100000 in
set_option maxHeartbeats 8000000 in
theorem up_any (x y z t : Int) (w : World) (p0 : B32 x) (p1 : B32 y) (p2 : B32 z) (p3 : B32 t) :
    Calls Tryz.prog 19 #[.agg #[.int .i32 x, .int .i32 y, .int .i32 z, .int .i32 t]] w fun e w' => e = .returned (upV x y z t) ∧ Below w.heap.size w w' := by
  have m0 := hid (fun (v : World) => tprod_any y t v p1 p3)
  have b0 := rnd30_bd y t p1 p3
  have m1 := hid (fun (v : World) => tprod_any x z v p0 p2)
  have b1 := rnd30_bd x z p0 p2
  have m2 := hid (fun (v : World) => tprod_any z t v p2 p3)
  have b2 := rnd30_bd z t p2 p3
  have m3 := hid (fun (v : World) => tprod_any x y v p0 p1)
  have b3 := rnd30_bd x y p0 p1
  have m4 := hid (fun (v : World) => tprod_any x x v p0 p0)
  have b4 := rnd30_bd x x p0 p0
  have m5 := hid (fun (v : World) => tprod_any y y v p1 p1)
  have b5 := rnd30_bd y y p1 p1
  have m6 := hid (fun (v : World) => tprod_any z z v p2 p2)
  have b6 := rnd30_bd z z p2 p2
  have m7 := hid (fun (v : World) => tprod_any t t v p3 p3)
  have b7 := rnd30_bd t t p3 p3
  have hV : upV x y z t = .agg #[.int .i32 (clampS (2 * (roundS (y * t) 30 - roundS (x * z) 30))), .int .i32 (clampS (2 * (roundS (z * t) 30 + roundS (x * y) 30))), .int .i32 (clampS (roundS (x * x) 30 - roundS (y * y) 30 - roundS (z * z) 30 + roundS (t * t) 30))] := rfl
  rw [hV]
  clear hV
  generalize roundS (y * t) 30 = r0 at *
  generalize roundS (x * z) 30 = r1 at *
  generalize roundS (z * t) 30 = r2 at *
  generalize roundS (x * y) 30 = r3 at *
  generalize roundS (x * x) 30 = r4 at *
  generalize roundS (y * y) 30 = r5 at *
  generalize roundS (z * z) 30 = r6 at *
  generalize roundS (t * t) 30 = r7 at *
  have f0 : IntKind.i64.wrap (r0 - r1) = r0 - r1 := by rw [IntKind.wrap_i64]; omega
  have f1 : IntKind.i64.wrap (2 * (r0 - r1)) = 2 * (r0 - r1) := by rw [IntKind.wrap_i64]; omega
  have f2 : IntKind.i64.wrap (r2 + r3) = r2 + r3 := by rw [IntKind.wrap_i64]; omega
  have f3 : IntKind.i64.wrap (2 * (r2 + r3)) = 2 * (r2 + r3) := by rw [IntKind.wrap_i64]; omega
  have f4 : IntKind.i64.wrap (r4 - r5) = r4 - r5 := by rw [IntKind.wrap_i64]; omega
  have f5 : IntKind.i64.wrap (r4 - r5 - r6) = r4 - r5 - r6 := by rw [IntKind.wrap_i64]; omega
  have f6 : IntKind.i64.wrap (r4 - r5 - r6 + r7) = r4 - r5 - r6 + r7 := by rw [IntKind.wrap_i64]; omega
  have u0 := oneIf_b (clampB (2 * (r0 - r1)))
  have u1 := oneIf_b (clampB (2 * (r2 + r3)))
  have u2 := oneIf_b (clampB (r4 - r5 - r6 + r7))
  have k0 := hid (fun (p : Nat) (v : World) (h : v.heap[p]? = some (ctr 0)) => ccut_any (2 * (r0 - r1)) 0 p v h (by omega) (by omega) (by omega) (by omega))
  have k1 := hid (fun (p : Nat) (v : World) (h : v.heap[p]? = some (ctr (0 + oneIf (clampB (2 * (r0 - r1)))))) => ccut_any (2 * (r2 + r3)) _ p v h (by omega) (by omega) (by omega) (by omega))
  have k2 := hid (fun (p : Nat) (v : World) (h : v.heap[p]? = some (ctr (0 + oneIf (clampB (2 * (r0 - r1))) + oneIf (clampB (2 * (r2 + r3)))))) => ccut_any (r4 - r5 - r6 + r7) _ p v h (by omega) (by omega) (by omega) (by omega))
  generalize clampS (2 * (r0 - r1)) = s0 at *
  generalize oneIf (clampB (2 * (r0 - r1))) = o0 at *
  generalize clampS (2 * (r2 + r3)) = s1 at *
  generalize oneIf (clampB (2 * (r2 + r3))) = o1 at *
  generalize clampS (r4 - r5 - r6 + r7) = s2 at *
  generalize oneIf (clampB (r4 - r5 - r6 + r7)) = o2 at *
  clear p0 p1 p2 p3 b0 b1 b2 b3 b4 b5 b6 b7 u0 u1 u2
  go_enter Tryz.func19, Tryz.ntmps19
  go_upto_region 0 with (fail)
  apply wp_region_seg0 (w := w) (S := [.al 1000, .al 1000]) (E := [.al ((fun p => .pointer (some ⟨p, 0, none⟩)), _) 1000, .al ((fun p => .pointer (some ⟨p, 0, none⟩)), _) 1000]) rfl (by kernel_rfl) rfl rfl
  intro th hge hne
  refine Seg.step _ rfl ⟨by rfl, fun U hU => ?_⟩ ?_
  · go_simp; exact vp_alloc rfl rfl rfl
  refine Seg.sa ?_
  refine Seg.step _ rfl ⟨by rfl, fun U hU => ?_⟩ ?_
  · go_simp; exact vp_alloc rfl rfl rfl
  refine Seg.sa ?_
  refine Seg.stop (fun U1 hU hk => ?_)
  have nb0 := hge 0 _ _ rfl
  have rb0 := (hk 0 _ _ rfl trivial).1.2 (by simp)
  have nb1 := hge 1 _ _ rfl
  have rb1 := (hk 1 _ _ rfl trivial).1.2 (by simp)
  have ne0_1 := hne 0 1 _ _ _ _ rfl rfl (by omega)
  clear hk hge hne
  generalize th (0 + 0) = p0_0 at *
  dsimp only at rb0
  generalize th (0 + 1) = p0_1 at *
  dsimp only at rb1
  have r_p0_0 := rb0
  clear rb0
  have n_p0_0 := nb0
  clear nb0
  have d_p0_0_p0_1 := ne0_1
  clear ne0_1
  have r_p0_1 := rb1
  clear rb1
  have n_p0_1 := nb1
  clear nb1
  have sz1 := hU.size
  have hB : Below w.heap.size w U1 := hU
  clear hU
  go_upto_region 1 with (fail)
  apply wp_region_seg0 (w := U1) (S := [.al 1000]) (E := [.al ((fun p => .pointer (some ⟨p, 0, none⟩)), _) 1000]) rfl (by kernel_rfl) rfl rfl
  intro th hge hne
  refine Seg.step _ rfl ⟨by rfl, fun U hU => ?_⟩ ?_
  · go_simp; exact vp_alloc rfl rfl rfl
  refine Seg.sa ?_
  refine Seg.stop (fun U2 hU hk => ?_)
  have nb0 := hge 0 _ _ rfl
  have rb0 := (hk 0 _ _ rfl trivial).1.2 (by simp)
  clear hk hge hne
  generalize th (0 + 0) = p1_0 at *
  dsimp only at rb0
  have df_p0_0_p1_0 : p0_0 ≠ p1_0 := by have := held_lt r_p0_0; omega
  have df_p0_1_p1_0 : p0_1 ≠ p1_0 := by have := held_lt r_p0_1; omega
  replace r_p0_0 := held_after hU r_p0_0
  replace r_p0_1 := held_after hU r_p0_1
  have r_p1_0 := rb0
  clear rb0
  have n_p1_0 := nb0
  clear nb0
  have sz2 := hU.size
  replace hB := bthen hB hU
  clear hU
  go_upto_region 2 with (fail)
  have dA : p0_0 ≠ p1_0 := df_p0_0_p1_0
  have dB : p0_1 ≠ p1_0 := df_p0_1_p1_0
  apply wp_region_partX (w := U2) (S := (.q [] :: .q [] :: .q [] :: .q [] :: .q [] :: .q [] :: .q [] :: .q [] :: .q [] :: .q [] :: .q [] :: .q [] :: .ef 0 none :: .q [] :: .q [] :: .q [] :: .q [] :: .q [] :: .q [] :: .q [] :: .q [] :: .q [] :: .q [] :: .q [] :: .q [] :: .ef 0 (some 12) :: .q [] :: .q [] :: .q [] :: .q [] :: .q [] :: .q [] :: .q [] :: .q [] :: .q [] :: .q [] :: .q [] :: .q [] :: .q [] :: .q [] :: .q [] :: .q [] :: .q [] :: .q [] :: .q [] :: .q [] :: .q [] :: .q [] :: .q [] :: .ef 0 (some 25) :: .q [] :: [])) (E := (.q0 _ :: .q0 _ :: .q0 _ :: .q0 _ :: .c0 _ :: .q0 _ :: .q0 _ :: .q0 _ :: .q0 _ :: .c0 _ :: .q0 _ :: .q0 _ :: .ef 0 none _ _ :: .q0 _ :: .q0 _ :: .q0 _ :: .q0 _ :: .c0 _ :: .q0 _ :: .q0 _ :: .q0 _ :: .q0 _ :: .c0 _ :: .q0 _ :: .q0 _ :: .ef 0 (some 12) _ _ :: .q0 _ :: .q0 _ :: .q0 _ :: .q0 _ :: .c0 _ :: .q0 _ :: .q0 _ :: .q0 _ :: .q0 _ :: .c0 _ :: .q0 _ :: .q0 _ :: .q0 _ :: .q0 _ :: .q0 _ :: .c0 _ :: .q0 _ :: .q0 _ :: .q0 _ :: .q0 _ :: .q0 _ :: .c0 _ :: .q0 _ :: .ef 0 (some 25) _ _ :: .q0 _ :: [])) [(p1_0, _)] 51 1 (by kernel_rfl) rfl (by kernel_rfl) rfl rfl (x1_w r_p1_0) x1_d (x1_e (S := (.q [] :: .q [] :: .q [] :: .q [] :: .q [] :: .q [] :: .q [] :: .q [] :: .q [] :: .q [] :: .q [] :: .q [] :: .ef 0 none :: .q [] :: .q [] :: .q [] :: .q [] :: .q [] :: .q [] :: .q [] :: .q [] :: .q [] :: .q [] :: .q [] :: .q [] :: .ef 0 (some 12) :: .q [] :: .q [] :: .q [] :: .q [] :: .q [] :: .q [] :: .q [] :: .q [] :: .q [] :: .q [] :: .q [] :: .q [] :: .q [] :: .q [] :: .q [] :: .q [] :: .q [] :: .q [] :: .q [] :: .q [] :: .q [] :: .q [] :: .q [] :: .ef 0 (some 25) :: .q [] :: [])) rfl rfl)
  intro th hge hne
  refine Seg.sq ?_
  refine Seg.sq ?_ (ht := Or.inl ⟨by rfl, fun U hU => vp_quiet (by (have h0 := held_cell (keep1 hU.1 (by omega) r_p0_0) 1 _ rfl; go_simp <;> exact rfl))⟩)
  refine Seg.sq ?_
  refine Seg.sq ?_ (ht := Or.inl ⟨by rfl, fun U hU => vp_quiet (by (have h0 := held_cell (keep1 hU.1 (by omega) r_p0_0) 3 _ rfl; go_simp <;> exact rfl))⟩)
  refine Seg.step _ rfl (Or.inl ⟨by rfl, fun U hU => ?_⟩) ?_
  · go_simp
    refine vp_calld (m0.out _)
  refine Seg.sa ?_
  refine Seg.sq ?_
  refine Seg.sq ?_ (ht := Or.inl ⟨by rfl, fun U hU => vp_quiet (by (have h0 := held_cell (keep1 hU.1 (by omega) r_p0_0) 0 _ rfl; go_simp <;> exact rfl))⟩)
  refine Seg.sq ?_
  refine Seg.sq ?_ (ht := Or.inl ⟨by rfl, fun U hU => vp_quiet (by (have h0 := held_cell (keep1 hU.1 (by omega) r_p0_0) 2 _ rfl; go_simp <;> exact rfl))⟩)
  refine Seg.step _ rfl (Or.inl ⟨by rfl, fun U hU => ?_⟩) ?_
  · go_simp
    refine vp_calld (m1.out _)
  refine Seg.sa ?_
  refine Seg.sq ?_
  refine Seg.sq ?_
  refine Seg.step _ rfl ⟨by rfl, fun U g0 o0 o1 hx hc hU hg => ?_⟩ ?_
  · have hx2 := Option.some.inj hx
    cases hx2
    have hc2 := Option.some.inj hc
    cases hc2
    clear hx hc
    go_simp
    exact vp_eff (k0.out _ _ hg)
  refine Seg.sa ?_
  refine Seg.sq ?_
  refine Seg.sq ?_ (ht := Or.inl ⟨by rfl, fun U hU => vp_quiet (by (have h0 := held_cell (keep1 hU.1 (by omega) r_p0_0) 2 _ rfl; go_simp <;> exact rfl))⟩)
  refine Seg.sq ?_
  refine Seg.sq ?_ (ht := Or.inl ⟨by rfl, fun U hU => vp_quiet (by (have h0 := held_cell (keep1 hU.1 (by omega) r_p0_0) 3 _ rfl; go_simp <;> exact rfl))⟩)
  refine Seg.step _ rfl (Or.inl ⟨by rfl, fun U hU => ?_⟩) ?_
  · go_simp
    refine vp_calld (m2.out _)
  refine Seg.sa ?_
  refine Seg.sq ?_
  refine Seg.sq ?_ (ht := Or.inl ⟨by rfl, fun U hU => vp_quiet (by (have h0 := held_cell (keep1 hU.1 (by omega) r_p0_0) 0 _ rfl; go_simp <;> exact rfl))⟩)
  refine Seg.sq ?_
  refine Seg.sq ?_ (ht := Or.inl ⟨by rfl, fun U hU => vp_quiet (by (have h0 := held_cell (keep1 hU.1 (by omega) r_p0_0) 1 _ rfl; go_simp <;> exact rfl))⟩)
  refine Seg.step _ rfl (Or.inl ⟨by rfl, fun U hU => ?_⟩) ?_
  · go_simp
    refine vp_calld (m3.out _)
  refine Seg.sa ?_
  refine Seg.sq ?_
  refine Seg.sq ?_
  refine Seg.step _ rfl ⟨by rfl, fun U g0 o0 o1 hx hc hU hg => ?_⟩ ?_
  · have hx2 := Option.some.inj hx
    cases hx2
    have hc2 := Option.some.inj hc
    cases hc2
    clear hx hc
    go_simp
    exact vp_eff (k1.out _ _ hg)
  refine Seg.sa ?_
  refine Seg.sq ?_
  refine Seg.sq ?_ (ht := Or.inl ⟨by rfl, fun U hU => vp_quiet (by (have h0 := held_cell (keep1 hU.1 (by omega) r_p0_0) 0 _ rfl; go_simp <;> exact rfl))⟩)
  refine Seg.sq ?_
  refine Seg.sq ?_ (ht := Or.inl ⟨by rfl, fun U hU => vp_quiet (by (have h0 := held_cell (keep1 hU.1 (by omega) r_p0_0) 0 _ rfl; go_simp <;> exact rfl))⟩)
  refine Seg.step _ rfl (Or.inl ⟨by rfl, fun U hU => ?_⟩) ?_
  · go_simp
    refine vp_calld (m4.out _)
  refine Seg.sa ?_
  refine Seg.sq ?_
  refine Seg.sq ?_ (ht := Or.inl ⟨by rfl, fun U hU => vp_quiet (by (have h0 := held_cell (keep1 hU.1 (by omega) r_p0_0) 1 _ rfl; go_simp <;> exact rfl))⟩)
  refine Seg.sq ?_
  refine Seg.sq ?_ (ht := Or.inl ⟨by rfl, fun U hU => vp_quiet (by (have h0 := held_cell (keep1 hU.1 (by omega) r_p0_0) 1 _ rfl; go_simp <;> exact rfl))⟩)
  refine Seg.step _ rfl (Or.inl ⟨by rfl, fun U hU => ?_⟩) ?_
  · go_simp
    refine vp_calld (m5.out _)
  refine Seg.sa ?_
  refine Seg.sq ?_
  refine Seg.sq ?_
  refine Seg.sq ?_ (ht := Or.inl ⟨by rfl, fun U hU => vp_quiet (by (have h0 := held_cell (keep1 hU.1 (by omega) r_p0_0) 2 _ rfl; go_simp <;> exact rfl))⟩)
  refine Seg.sq ?_
  refine Seg.sq ?_ (ht := Or.inl ⟨by rfl, fun U hU => vp_quiet (by (have h0 := held_cell (keep1 hU.1 (by omega) r_p0_0) 2 _ rfl; go_simp <;> exact rfl))⟩)
  refine Seg.step _ rfl (Or.inl ⟨by rfl, fun U hU => ?_⟩) ?_
  · go_simp
    refine vp_calld (m6.out _)
  refine Seg.sa ?_
  refine Seg.sq ?_
  refine Seg.sq ?_
  refine Seg.sq ?_ (ht := Or.inl ⟨by rfl, fun U hU => vp_quiet (by (have h0 := held_cell (keep1 hU.1 (by omega) r_p0_0) 3 _ rfl; go_simp <;> exact rfl))⟩)
  refine Seg.sq ?_
  refine Seg.sq ?_ (ht := Or.inl ⟨by rfl, fun U hU => vp_quiet (by (have h0 := held_cell (keep1 hU.1 (by omega) r_p0_0) 3 _ rfl; go_simp <;> exact rfl))⟩)
  refine Seg.step _ rfl (Or.inl ⟨by rfl, fun U hU => ?_⟩) ?_
  · go_simp
    refine vp_calld (m7.out _)
  refine Seg.sa ?_
  refine Seg.sq ?_
  refine Seg.step _ rfl ⟨by rfl, fun U g0 o0 o1 hx hc hU hg => ?_⟩ ?_
  · have hx2 := Option.some.inj hx
    cases hx2
    have hc2 := Option.some.inj hc
    cases hc2
    clear hx hc
    go_simp
    exact vp_eff (k2.out _ _ hg)
  refine Seg.sa ?_
  refine Seg.sq ?_
  refine Seg.stop (fun U3 hU hk hX => ?_)
  have rx := Seg.end1 hX (S := (.q [] :: .q [] :: .q [] :: .q [] :: .q [] :: .q [] :: .q [] :: .q [] :: .q [] :: .q [] :: .q [] :: .q [] :: .ef 0 none :: .q [] :: .q [] :: .q [] :: .q [] :: .q [] :: .q [] :: .q [] :: .q [] :: .q [] :: .q [] :: .q [] :: .q [] :: .ef 0 (some 12) :: .q [] :: .q [] :: .q [] :: .q [] :: .q [] :: .q [] :: .q [] :: .q [] :: .q [] :: .q [] :: .q [] :: .q [] :: .q [] :: .q [] :: .q [] :: .q [] :: .q [] :: .q [] :: .q [] :: .q [] :: .q [] :: .q [] :: .q [] :: .ef 0 (some 25) :: .q [] :: [])) rfl 0 49 (by rfl) rfl rfl
  clear hX
  clear hk hge hne
  replace r_p0_0 := keep1 hU (by omega) r_p0_0
  replace r_p0_1 := keep1 hU (by omega) r_p0_1
  clear r_p1_0
  have r_p1_0 := rx
  clear rx
  have sz3 := keep1_size hU
  replace hB := keep1_below hB hU (by omega) (by omega)
  clear hU
  have rr : Row .i32 25 U3 p0_1 [0, 0, 0] := r_p0_1
  obtain ⟨z0, z1, z2, h0, h1, h2⟩ := rr.three
  have sR : w.heap.size ≤ p0_1 := n_p0_1
  clear rr
  refine Seg.only (m := 51) (k := 0) rfl (by kernel_rfl) (by rfl) (fun K hK => ?_)
  go_simp
  refine hK _ _ (Seg.finish ?_ _)
  clear hK
  go_wp2_with fail
  refine bodyPost_ret (v := .agg #[.int .i32 s0, .int .i32 s1, .int .i32 s2]) (by simp [results, Tryz.results19, go_sem, z0, z1, z2]) rfl ⟨rfl, ?_⟩
  exact below3 hB _ _ _ _ sR

end Go.Proofs.YtpdpcdifnlellaaGreat
