/- Package turn: the papers' Up. -/
import Derived.Test.YtpdpcdifnlellaaGreatTurn2
import Derived.Deep.DeepCutAuto
namespace Go.Proofs.YtpdpcdifnlellaaGreat
open Go.ChangeShapes Go.WideShapes Go.ChangeAt Go.RowKit
set_option linter.unusedVariables false

theorem rby_any (a b : Int) (w : World) (h1 : B32 a) (h2 : B32 b) :
    Calls Tryz.prog 54 #[.int .i32 a, .int .i32 b] w fun e w' => e = .returned (.int .i64 (roundS (a * b) 30)) ∧ w' = w := by
  have k := hid (fun (v : World) => times_any a b 30 v h1 h2)
  clear h1 h2
  generalize roundS (a * b) 30 = r at *
  go_enter Tryz.func54, Tryz.ntmps54
  go_wp2_with fail
  refine (k.out _).mono ?_
  rintro e w1 ⟨rfl, rfl⟩
  go_wp2_with fail
  go_ret
  exact ⟨rfl, rfl⟩

set_option maxRecDepth 100000 in
set_option maxHeartbeats 8000000 in
theorem rup_any (x y z t : Int) (w : World) (p0 : B32 x) (p1 : B32 y) (p2 : B32 z) (p3 : B32 t) :
    Calls Tryz.prog 26 #[.agg #[.int .i32 x, .int .i32 y, .int .i32 z, .int .i32 t]] w fun e w' => e = .returned (upV x y z t) ∧ Below w.heap.size w w' := by
  have m0 := hid (fun (v : World) => rby_any y t v p1 p3)
  have b0 := rnd30_bd y t p1 p3
  have m1 := hid (fun (v : World) => rby_any x z v p0 p2)
  have b1 := rnd30_bd x z p0 p2
  have m2 := hid (fun (v : World) => rby_any z t v p2 p3)
  have b2 := rnd30_bd z t p2 p3
  have m3 := hid (fun (v : World) => rby_any x y v p0 p1)
  have b3 := rnd30_bd x y p0 p1
  have m4 := hid (fun (v : World) => rby_any x x v p0 p0)
  have b4 := rnd30_bd x x p0 p0
  have m5 := hid (fun (v : World) => rby_any y y v p1 p1)
  have b5 := rnd30_bd y y p1 p1
  have m6 := hid (fun (v : World) => rby_any z z v p2 p2)
  have b6 := rnd30_bd z z p2 p2
  have m7 := hid (fun (v : World) => rby_any t t v p3 p3)
  have b7 := rnd30_bd t t p3 p3
  have hV : upV x y z t = .agg #[.int .i32 (clampS (2 * (roundS (y * t) 30 - roundS (x * z) 30))), .int .i32 (clampS (2 * (roundS (z * t) 30 + roundS (x * y) 30))), .int .i32 (clampS (roundS (x * x) 30 - roundS (y * y) 30 - roundS (z * z) 30 + roundS (t * t) 30))] := rfl
  rw [hV]
  clear hV
  generalize roundS (y * t) 30 = r0 at *
  generalize roundS (x * z) 30 = r1 at *
  generalize roundS (z * t) 30 = r2 at *
  generalize roundS (x * y) 30 = r3 at *
  generalize roundS (x * x) 30 = r4 at *
  generalize roundS (y * y) 30 = r5 at *
  generalize roundS (z * z) 30 = r6 at *
  generalize roundS (t * t) 30 = r7 at *
  have f0 : IntKind.i64.wrap (r0 - r1) = r0 - r1 := by rw [IntKind.wrap_i64]; omega
  have f1 : IntKind.i64.wrap (2 * (r0 - r1)) = 2 * (r0 - r1) := by rw [IntKind.wrap_i64]; omega
  have f2 : IntKind.i64.wrap (r2 + r3) = r2 + r3 := by rw [IntKind.wrap_i64]; omega
  have f3 : IntKind.i64.wrap (2 * (r2 + r3)) = 2 * (r2 + r3) := by rw [IntKind.wrap_i64]; omega
  have f4 : IntKind.i64.wrap (r4 - r5) = r4 - r5 := by rw [IntKind.wrap_i64]; omega
  have f5 : IntKind.i64.wrap (r4 - r5 - r6) = r4 - r5 - r6 := by rw [IntKind.wrap_i64]; omega
  have f6 : IntKind.i64.wrap (r4 - r5 - r6 + r7) = r4 - r5 - r6 + r7 := by rw [IntKind.wrap_i64]; omega
  have k0 := hid (fun (v : World) => cut_any (2 * (r0 - r1)) (2 * (r2 + r3)) (r4 - r5 - r6 + r7) v (by omega) (by omega) (by omega))
  have hc : cut3 (fun i => sel i (2 * (r0 - r1)) (2 * (r2 + r3)) (r4 - r5 - r6 + r7)) = .tuple #[.agg #[.int .i32 (clampS (2 * (r0 - r1))), .int .i32 (clampS (2 * (r2 + r3))), .int .i32 (clampS (r4 - r5 - r6 + r7))], .int .i64 (cuts (fun i => sel i (2 * (r0 - r1)) (2 * (r2 + r3)) (r4 - r5 - r6 + r7)) 3)] := rfl
  rw [hc] at k0
  clear hc
  generalize ((cuts (fun i => sel i (2 * (r0 - r1)) (2 * (r2 + r3)) (r4 - r5 - r6 + r7)) 3 : Nat) : Int) = cn at *
  generalize clampS (2 * (r0 - r1)) = s0 at *
  generalize clampS (2 * (r2 + r3)) = s1 at *
  generalize clampS (r4 - r5 - r6 + r7) = s2 at *
  clear p0 p1 p2 p3 b0 b1 b2 b3 b4 b5 b6 b7
  go_enter Tryz.func26, Tryz.ntmps26
  go_upto_region 0 with (fail)
  apply wp_region_seg0 (w := w) (S := [.al 1000, .al 1000]) (E := [.al ((fun p => .pointer (some ⟨p, 0, none⟩)), _) 1000, .al ((fun p => .pointer (some ⟨p, 0, none⟩)), _) 1000]) rfl (by kernel_rfl) rfl rfl
  intro th hge hne
  refine Seg.step _ rfl ⟨by rfl, fun U hU => ?_⟩ ?_
  · go_simp; exact vp_alloc rfl rfl rfl
  refine Seg.sa ?_
  refine Seg.step _ rfl ⟨by rfl, fun U hU => ?_⟩ ?_
  · go_simp; exact vp_alloc rfl rfl rfl
  refine Seg.sa ?_
  refine Seg.stop (fun U1 hU hk => ?_)
  have nb0 := hge 0 _ _ rfl
  have rb0 := (hk 0 _ _ rfl trivial).1.2 (by simp)
  have nb1 := hge 1 _ _ rfl
  have rb1 := (hk 1 _ _ rfl trivial).1.2 (by simp)
  have ne0_1 := hne 0 1 _ _ _ _ rfl rfl (by omega)
  clear hk hge hne
  generalize th (0 + 0) = p0_0 at *
  dsimp only at rb0
  generalize th (0 + 1) = p0_1 at *
  dsimp only at rb1
  have r_p0_0 := rb0
  clear rb0
  have n_p0_0 := nb0
  clear nb0
  have d_p0_0_p0_1 := ne0_1
  clear ne0_1
  have r_p0_1 := rb1
  clear rb1
  have n_p0_1 := nb1
  clear nb1
  have sz1 := hU.size
  have hB : Below w.heap.size w U1 := hU
  clear hU
  go_upto_region 1 with (fail)
  apply wp_region_seg (w := U1) (S := (.q [] :: .q [] :: .q [] :: .q [] :: .q [] :: .q [] :: .q [] :: .q [] :: .q [] :: .q [] :: .q [] :: .q [] :: .q [] :: .q [] :: .q [] :: .q [] :: .q [] :: .q [] :: .q [] :: .q [] :: .q [] :: .q [] :: .q [] :: .q [] :: .q [] :: .q [] :: .q [] :: .q [] :: .q [] :: .q [] :: .q [] :: .q [] :: .q [] :: .q [] :: .q [] :: .q [] :: .q [] :: .q [] :: .q [] :: .q [] :: .q [] :: .q [] :: .q [] :: .q [] :: .q [] :: .q [] :: .q [] :: .q [] :: .q [] :: .q [] :: .q [] :: .al 52 :: .st 51 [] :: .q [] :: [])) (E := (.q0 _ :: .q0 _ :: .q0 _ :: .q0 _ :: .c0 _ :: .q0 _ :: .q0 _ :: .q0 _ :: .q0 _ :: .c0 _ :: .q0 _ :: .q0 _ :: .q0 _ :: .q0 _ :: .q0 _ :: .q0 _ :: .c0 _ :: .q0 _ :: .q0 _ :: .q0 _ :: .q0 _ :: .c0 _ :: .q0 _ :: .q0 _ :: .q0 _ :: .q0 _ :: .q0 _ :: .q0 _ :: .c0 _ :: .q0 _ :: .q0 _ :: .q0 _ :: .q0 _ :: .c0 _ :: .q0 _ :: .q0 _ :: .q0 _ :: .q0 _ :: .q0 _ :: .c0 _ :: .q0 _ :: .q0 _ :: .q0 _ :: .q0 _ :: .q0 _ :: .c0 _ :: .q0 _ :: .c0 _ :: .q0 _ :: .q0 _ :: .q0 _ :: .al ((fun p => .pointer (some ⟨p, 0, none⟩)), _) 52 :: .s0 51 (.cells _ _) :: .q0 _ :: [])) (by kernel_rfl) rfl (by kernel_rfl) rfl rfl
  intro th hge hne
  refine Seg.sq ?_
  refine Seg.sq ?_ (ht := Or.inl ⟨by rfl, fun U hU => vp_quiet (by (have h0 := held_cell (held_after hU.1 r_p0_0) 1 _ rfl; go_simp <;> exact rfl))⟩)
  refine Seg.sq ?_
  refine Seg.sq ?_ (ht := Or.inl ⟨by rfl, fun U hU => vp_quiet (by (have h0 := held_cell (held_after hU.1 r_p0_0) 3 _ rfl; go_simp <;> exact rfl))⟩)
  refine Seg.step _ rfl (Or.inl ⟨by rfl, fun U hU => ?_⟩) ?_
  · go_simp
    refine vp_calls (m0.out _)
  refine Seg.sa ?_
  refine Seg.sq ?_
  refine Seg.sq ?_ (ht := Or.inl ⟨by rfl, fun U hU => vp_quiet (by (have h0 := held_cell (held_after hU.1 r_p0_0) 0 _ rfl; go_simp <;> exact rfl))⟩)
  refine Seg.sq ?_
  refine Seg.sq ?_ (ht := Or.inl ⟨by rfl, fun U hU => vp_quiet (by (have h0 := held_cell (held_after hU.1 r_p0_0) 2 _ rfl; go_simp <;> exact rfl))⟩)
  refine Seg.step _ rfl (Or.inl ⟨by rfl, fun U hU => ?_⟩) ?_
  · go_simp
    refine vp_calls (m1.out _)
  refine Seg.sa ?_
  iterate 3 refine Seg.sq ?_
  refine Seg.sq ?_ (ht := Or.inl ⟨by rfl, fun U hU => vp_quiet (by (have h0 := held_cell (held_after hU.1 r_p0_0) 2 _ rfl; go_simp <;> exact rfl))⟩)
  refine Seg.sq ?_
  refine Seg.sq ?_ (ht := Or.inl ⟨by rfl, fun U hU => vp_quiet (by (have h0 := held_cell (held_after hU.1 r_p0_0) 3 _ rfl; go_simp <;> exact rfl))⟩)
  refine Seg.step _ rfl (Or.inl ⟨by rfl, fun U hU => ?_⟩) ?_
  · go_simp
    refine vp_calls (m2.out _)
  refine Seg.sa ?_
  refine Seg.sq ?_
  refine Seg.sq ?_ (ht := Or.inl ⟨by rfl, fun U hU => vp_quiet (by (have h0 := held_cell (held_after hU.1 r_p0_0) 0 _ rfl; go_simp <;> exact rfl))⟩)
  refine Seg.sq ?_
  refine Seg.sq ?_ (ht := Or.inl ⟨by rfl, fun U hU => vp_quiet (by (have h0 := held_cell (held_after hU.1 r_p0_0) 1 _ rfl; go_simp <;> exact rfl))⟩)
  refine Seg.step _ rfl (Or.inl ⟨by rfl, fun U hU => ?_⟩) ?_
  · go_simp
    refine vp_calls (m3.out _)
  refine Seg.sa ?_
  iterate 3 refine Seg.sq ?_
  refine Seg.sq ?_ (ht := Or.inl ⟨by rfl, fun U hU => vp_quiet (by (have h0 := held_cell (held_after hU.1 r_p0_0) 0 _ rfl; go_simp <;> exact rfl))⟩)
  refine Seg.sq ?_
  refine Seg.sq ?_ (ht := Or.inl ⟨by rfl, fun U hU => vp_quiet (by (have h0 := held_cell (held_after hU.1 r_p0_0) 0 _ rfl; go_simp <;> exact rfl))⟩)
  refine Seg.step _ rfl (Or.inl ⟨by rfl, fun U hU => ?_⟩) ?_
  · go_simp
    refine vp_calls (m4.out _)
  refine Seg.sa ?_
  refine Seg.sq ?_
  refine Seg.sq ?_ (ht := Or.inl ⟨by rfl, fun U hU => vp_quiet (by (have h0 := held_cell (held_after hU.1 r_p0_0) 1 _ rfl; go_simp <;> exact rfl))⟩)
  refine Seg.sq ?_
  refine Seg.sq ?_ (ht := Or.inl ⟨by rfl, fun U hU => vp_quiet (by (have h0 := held_cell (held_after hU.1 r_p0_0) 1 _ rfl; go_simp <;> exact rfl))⟩)
  refine Seg.step _ rfl (Or.inl ⟨by rfl, fun U hU => ?_⟩) ?_
  · go_simp
    refine vp_calls (m5.out _)
  refine Seg.sa ?_
  refine Seg.sq ?_
  refine Seg.sq ?_
  refine Seg.sq ?_ (ht := Or.inl ⟨by rfl, fun U hU => vp_quiet (by (have h0 := held_cell (held_after hU.1 r_p0_0) 2 _ rfl; go_simp <;> exact rfl))⟩)
  refine Seg.sq ?_
  refine Seg.sq ?_ (ht := Or.inl ⟨by rfl, fun U hU => vp_quiet (by (have h0 := held_cell (held_after hU.1 r_p0_0) 2 _ rfl; go_simp <;> exact rfl))⟩)
  refine Seg.step _ rfl (Or.inl ⟨by rfl, fun U hU => ?_⟩) ?_
  · go_simp
    refine vp_calls (m6.out _)
  refine Seg.sa ?_
  refine Seg.sq ?_
  refine Seg.sq ?_
  refine Seg.sq ?_ (ht := Or.inl ⟨by rfl, fun U hU => vp_quiet (by (have h0 := held_cell (held_after hU.1 r_p0_0) 3 _ rfl; go_simp <;> exact rfl))⟩)
  refine Seg.sq ?_
  refine Seg.sq ?_ (ht := Or.inl ⟨by rfl, fun U hU => vp_quiet (by (have h0 := held_cell (held_after hU.1 r_p0_0) 3 _ rfl; go_simp <;> exact rfl))⟩)
  refine Seg.step _ rfl (Or.inl ⟨by rfl, fun U hU => ?_⟩) ?_
  · go_simp
    refine vp_calls (m7.out _)
  refine Seg.sa ?_
  refine Seg.sq ?_
  refine Seg.step _ rfl (Or.inl ⟨by rfl, fun U hU => ?_⟩) ?_
  · go_simp
    refine vp_call (k0.out _)
  refine Seg.sa ?_
  iterate 3 refine Seg.sq ?_
  refine Seg.step _ rfl ⟨by rfl, fun U hU => ?_⟩ ?_
  · go_simp; exact vp_alloc rfl rfl rfl
  refine Seg.sa ?_
  refine Seg.step _ rfl ⟨by rfl, fun U z k hz hU hc => ?_⟩ ?_
  · have hz2 := Option.some.inj hz
    cases hz2; clear hz
    exact vp_store_agg _ _ _ rfl hc rfl rfl (by kernel_rfl) rfl (by rfl)
  refine Seg.sa ?_
  refine Seg.sq ?_
  refine Seg.stop (fun U2 hU hk => ?_)
  have nb51 := hge 51 _ _ rfl
  have rb51 := (hk 51 _ 52 rfl trivial).1.1 trivial _ (Nat.zero_le _) rfl
  clear hk hge hne
  generalize th (0 + 51) = p1_51 at *
  simp only [Ent.obj] at rb51
  replace r_p0_0 := held_after hU r_p0_0
  replace r_p0_1 := held_after hU r_p0_1
  have r_p1_51 := rb51
  clear rb51
  have n_p1_51 := nb51
  clear nb51
  have sz2 := hU.size
  replace hB := bthen hB hU
  clear hU
  go_upto_region 2 with (fail)
  have c0 := held_cell r_p1_51 0 _ rfl
  have c1 := held_cell r_p1_51 1 _ rfl
  have c2 := held_cell r_p1_51 2 _ rfl
  have rr : Row .i32 25 U2 p0_1 [0, 0, 0] := r_p0_1
  obtain ⟨z0, z1, z2, h0, h1, h2⟩ := rr.three
  have sR : w.heap.size ≤ p0_1 := n_p0_1
  clear rr
  go_wp2_with fail
  refine bodyPost_ret (v := .agg #[.int .i32 s0, .int .i32 s1, .int .i32 s2]) (by simp [results, Tryz.results26, go_sem, z0, z1, z2]) rfl ⟨rfl, ?_⟩
  exact below3 hB _ _ _ _ sR

end Go.Proofs.YtpdpcdifnlellaaGreat
