/- Stage 12: what comes back: the norm -/
import Derived.Test.YtnabfimammojhaaLaw12
import Derived.Test.YtnabfimammojhaaSmallMath
namespace Go.Proofs.Ytnabfimammojhaa
open Go.ChangeShapes Go.WideShapes Go.ChangeAt Go.RowKit
set_option linter.unusedVariables false

theorem nonneg_sq (n : Int) : 0 ≤ n * n := sq_0 n
theorem isU_of (x y z t : Int) (p0 : B32 x) (p1 : B32 y) (p2 : B32 z) (p3 : B32 t) (h1 : 1152921504606846976 - 1099511627776 ≤ x * x + y * y + z * z + t * t) (h2 : x * x + y * y + z * z + t * t ≤ 1152921504606846976 + 1099511627776) : isU x y z t = true := by
  have hs := (sqs4 x y z t p0 p1 p2 p3).1
  rw [if_pos (by omega)] at hs
  unfold isU offS
  refine decide_eq_true ?_
  split <;> omega
theorem of_isU (x y z t : Int) (p0 : B32 x) (p1 : B32 y) (p2 : B32 z) (p3 : B32 t) (h : isU x y z t = true) : 1152921504606846976 - 1099511627776 ≤ x * x + y * y + z * z + t * t ∧ x * x + y * y + z * z + t * t ≤ 1152921504606846976 + 1099511627776 := by
  have hs := (sqs4 x y z t p0 p1 p2 p3).1
  unfold isU offS at h
  have h := of_decide_eq_true h
  split at hs
  · split at h <;> omega
  · split at h <;> omega
theorem packT_yes {x y z t : Int} (h : isU x y z t = true) : packT x y z t = .tuple #[.int .u32 (joinV [2, 10, 10, 10] (packL x y z t) : Nat), .bool true] := by unfold packT; rw [if_pos h]
theorem packT_no {x y z t : Int} (h : isU x y z t = false) : packT x y z t = .tuple #[.int .u32 0, .bool false] := by unfold packT; rw [h]; rfl
def Okay (s0 s1 s2 s3 : Int) : Prop := (B32 s0 ∧ B32 s1 ∧ B32 s2 ∧ B32 s3) ∧ (1152921502459363328 ≤ (sqs [s0, s1, s2, s3] 0 : Nat) ∧ ((sqs [s0, s1, s2, s3] 0 : Nat) : Int) ≤ 1152921504606846976) ∧ isU s0 s1 s2 s3 = true
theorem okay_of {s0 s1 s2 s3 : Int} (p0 : B32 s0) (p1 : B32 s1) (p2 : B32 s2) (p3 : B32 s3) (h1 : 1152921502459363328 ≤ s0 * s0 + s1 * s1 + s2 * s2 + s3 * s3) (h2 : s0 * s0 + s1 * s1 + s2 * s2 + s3 * s3 ≤ 1152921504606846976) : Okay s0 s1 s2 s3 := by
  have hs := (sqs4 s0 s1 s2 s3 p0 p1 p2 p3).1
  rw [if_pos (by omega)] at hs
  exact ⟨⟨p0, p1, p2, p3⟩, ⟨by omega, by omega⟩, isU_of _ _ _ _ p0 p1 p2 p3 (by omega) (by omega)⟩
theorem unpack_cases (x : Nat) : unpackT x = zeroT ∨ ∃ s0 s1 s2 s3 : Int, unpackT x = .tuple #[.agg #[.int .i32 s0, .int .i32 s1, .int .i32 s2, .int .i32 s3], .bool true] ∧ Okay s0 s1 s2 s3 := by
  obtain ⟨ho, ha, hb, hc⟩ := pa_b x
  unfold unpackT unT
  split
  · exact .inl rfl
  · rename_i hz
    split
    · exact .inl rfl
    · rename_i hS
      right
      have hz1 : pa x 1 ≠ 0 := fun h => hz (.inl h)
      have hz2 : pa x 2 ≠ 0 := fun h => hz (.inr (.inl h))
      have hz3 : pa x 3 ≠ 0 := fun h => hz (.inr (.inr h))
      have b1 := yS_b (pa x 1) (by omega) (by omega)
      have b2 := yS_b (pa x 2) (by omega) (by omega)
      have b3 := yS_b (pa x 3) (by omega) (by omega)
      have hSd : sq3 (pa x 1) (pa x 2) (pa x 3) = yS (pa x 1) * yS (pa x 1) + yS (pa x 2) * yS (pa x 2) + yS (pa x 3) * yS (pa x 3) := rfl
      have n1 := sq_0 (yS (pa x 1))
      have n2 := sq_0 (yS (pa x 2))
      have n3 := sq_0 (yS (pa x 3))
      have hR := sqrt_60 (1152921504606846976 - sq3 (pa x 1) (pa x 2) (pa x 3)) (by omega)
      have hq := sqrtS_spec (1152921504606846976 - sq3 (pa x 1) (pa x 2) (pa x 3)).toNat (by omega)
      generalize sqrtS (1152921504606846976 - sq3 (pa x 1) (pa x 2) (pa x 3)).toNat = R at *
      generalize sq3 (pa x 1) (pa x 2) (pa x 3) = S at *
      generalize yS (pa x 1) = y1 at *
      generalize yS (pa x 2) = y2 at *
      generalize yS (pa x 3) = y3 at *
      have e1 : ((R * R : Nat) : Int) = (R : Int) * R := by simp
      have e2 : (R + 1) * (R + 1) = R * R + 2 * R + 1 := by grind
      rw [e2] at hq
      have h1 : (R : Int) * R ≤ 1152921504606846976 - S := by omega
      have h2 : 1152921504606846976 - S ≤ (R : Int) * R + 2 * R := by omega
      have B : ∀ n : Int, -759250125 ≤ n ∧ n ≤ 759250125 → B32 n := fun n h => ⟨by omega, by omega⟩
      have BR : B32 (R : Int) := ⟨by omega, by omega⟩
      obtain ⟨o, ho4, hoe⟩ : ∃ o : Nat, o < 4 ∧ (pa x 0).toNat = o := ⟨_, by omega, rfl⟩
      rw [hoe]
      obtain rfl | rfl | rfl | rfl : o = 0 ∨ o = 1 ∨ o = 2 ∨ o = 3 := by omega
      · exact ⟨R, y1, y2, y3, rfl, okay_of BR (B _ b1) (B _ b2) (B _ b3) (by omega) (by omega)⟩
      · exact ⟨y1, R, y2, y3, rfl, okay_of (B _ b1) BR (B _ b2) (B _ b3) (by omega) (by omega)⟩
      · exact ⟨y1, y2, R, y3, rfl, okay_of (B _ b1) (B _ b2) BR (B _ b3) (by omega) (by omega)⟩
      · exact ⟨y1, y2, y3, R, rfl, okay_of (B _ b1) (B _ b2) (B _ b3) BR (by omega) (by omega)⟩

set_option maxRecDepth 100000 in
set_option maxHeartbeats 4000000 in
theorem law_SmallNorm (a0 : Int) (W : World) (w0 : (Lit.int .u32 a0).wf = true) :
    Calls Try.prog 6 #[.int .u32 a0] W fun e w' => e = .returned (.bool true) ∧ Below W.heap.size W w' := by
  have hb := bounds_u32 w0
  obtain ⟨x, rfl⟩ := Int.eq_ofNat_of_zero_le hb.1
  have hx : x < 4294967296 := by omega
  rcases unpack_cases x with hV | ⟨s0, s1, s2, s3, hV, ⟨p0, p1, p2, p3⟩, hN, hI⟩
  case inl =>
    unfold zeroT at hV
    have k1 := hid (fun (v : World) => hV ▸ unpack_any x v hx)
    clear hV w0 hb hx
    go_enter Try.func6, Try.ntmps6
    go_upto_region 0 with (fail)
    apply wp_region_seg0 (w := W) (S := [.q []]) (E := [.q0 _]) rfl (by kernel_rfl) rfl rfl
    intro th hge hne
    refine Seg.step _ rfl (Or.inl ⟨by rfl, fun U hU => vp_quiet (by (go_simp <;> exact rfl))⟩) ⟨_, by (simp only [Ent.val]; go_simp <;> exact rfl), ?_⟩
    refine Seg.stop (fun U1 hU hk => ?_)
    clear hk hge hne
    have sz1 := hU.size
    have hB : Below W.heap.size W U1 := hU
    clear hU
    go_upto_region 1 with (fail)
    apply wp_region_seg0 (w := U1) (S := [.q [], .q [], .q [], .q [], .q [], .al 6, .st 5 [], .q []]) (E := [.q0 _, .c0 _, .q0 _, .q0 _, .q0 _, .al ((fun p => .pointer (some ⟨p, 0, none⟩)), _) 6, .s0 5 (.cells _ _), .q0 _]) rfl (by kernel_rfl) rfl rfl
    intro th hge hne
    refine Seg.step _ rfl (Or.inl ⟨by rfl, fun U hU => vp_quiet (by (go_simp <;> exact rfl))⟩) ⟨_, by (simp only [Ent.val]; go_simp <;> exact rfl), ?_⟩
    refine Seg.step _ rfl (Or.inl ⟨by rfl, fun U hU => ?_⟩) ?_
    · go_simp
      refine vp_call (k1.out _)
    refine ⟨_, by (simp only [Ent.val]; go_simp <;> exact rfl), ?_⟩
    refine Seg.step _ rfl (Or.inl ⟨by rfl, fun U hU => vp_quiet (by (go_simp <;> exact rfl))⟩) ⟨_, by (simp only [Ent.val]; go_simp <;> exact rfl), ?_⟩
    refine Seg.step _ rfl (Or.inl ⟨by rfl, fun U hU => vp_quiet (by (go_simp <;> exact rfl))⟩) ⟨_, by (simp only [Ent.val]; go_simp <;> exact rfl), ?_⟩
    refine Seg.step _ rfl (Or.inl ⟨by rfl, fun U hU => vp_quiet (by (go_simp <;> exact rfl))⟩) ⟨_, by (simp only [Ent.val]; go_simp <;> exact rfl), ?_⟩
    refine Seg.step _ rfl ⟨by rfl, fun U hU => ?_⟩ ?_
    · go_simp; exact vp_alloc rfl rfl rfl
    refine ⟨_, by (simp only [Ent.val]; go_simp <;> exact rfl), ?_⟩
    refine Seg.step _ rfl ⟨by rfl, fun U z k hz hU hc => ?_⟩ ?_
    · have hz2 := Option.some.inj hz
      cases hz2; clear hz
      exact vp_store_agg _ _ _ rfl hc rfl rfl (by kernel_rfl) rfl (by rfl)
    refine ⟨_, by (simp only [Ent.val]; go_simp <;> exact rfl), ?_⟩
    refine Seg.step _ rfl (Or.inl ⟨by rfl, fun U hU => vp_quiet (by (go_simp <;> exact rfl))⟩) ⟨_, by (simp only [Ent.val]; go_simp <;> exact rfl), ?_⟩
    refine Seg.stop (fun U2 hU hk => ?_)
    have nb5 := hge 5 _ _ rfl
    have rb5 := (hk 5 _ 6 rfl trivial).1.1 trivial _ (Nat.zero_le _) rfl
    clear hk hge hne
    generalize th (0 + 5) = p1_5 at *
    simp only [Ent.obj] at rb5
    have r_p1_5 := rb5
    clear rb5
    have n_p1_5 := nb5
    clear nb5
    have sz2 := hU.size
    replace hB := bthen hB hU
    clear hU
    go_upto_region 3 with (fail)
    apply wp_region_seg0 (w := U2) (S := [.q [], .q [], .q [], .q [], .q [], .q [], .q []]) (E := [.q0 _, .q0 _, .q0 _, .q0 _, .c0 _, .q0 _, .q0 _]) rfl (by kernel_rfl) rfl rfl
    intro th hge hne
    refine Seg.step _ rfl (Or.inl ⟨by rfl, fun U hU => vp_quiet (by (have h0 := held_cell (held_after hU.1 r_p1_5) 0 _ rfl; have h1 := held_cell (held_after hU.1 r_p1_5) 1 _ rfl; have h2 := held_cell (held_after hU.1 r_p1_5) 2 _ rfl; have h3 := held_cell (held_after hU.1 r_p1_5) 3 _ rfl; go_simp <;> exact rfl))⟩) ⟨_, by (simp only [Ent.val]; go_simp <;> exact rfl), ?_⟩
    refine Seg.step _ rfl (Or.inl ⟨by rfl, fun U hU => vp_quiet (by (go_simp <;> exact rfl))⟩) ⟨_, by (simp only [Ent.val]; go_simp <;> exact rfl), ?_⟩
    refine Seg.step _ rfl (Or.inl ⟨by rfl, fun U hU => vp_quiet (by (go_simp <;> exact rfl))⟩) ⟨_, by (simp only [Ent.val]; go_simp <;> exact rfl), ?_⟩
    refine Seg.step _ rfl (Or.inl ⟨by rfl, fun U hU => vp_quiet (by (go_simp <;> exact rfl))⟩) ⟨_, by (simp only [Ent.val]; go_simp <;> exact rfl), ?_⟩
    refine Seg.step _ rfl (Or.inl ⟨by rfl, fun U hU => ?_⟩) ?_
    · go_simp
      refine vp_call (knows12_any _)
    refine ⟨_, by (simp only [Ent.val]; go_simp <;> exact rfl), ?_⟩
    refine Seg.step _ rfl (Or.inl ⟨by rfl, fun U hU => vp_quiet (by (go_simp <;> exact rfl))⟩) ⟨_, by (simp only [Ent.val]; go_simp <;> exact rfl), ?_⟩
    refine Seg.step _ rfl (Or.inl ⟨by rfl, fun U hU => vp_quiet (by (go_simp <;> exact rfl))⟩) ⟨_, by (simp only [Ent.val]; go_simp <;> exact rfl), ?_⟩
    refine Seg.stop (fun U3 hU hk => ?_)
    clear hk hge hne
    replace r_p1_5 := held_after hU r_p1_5
    have sz3 := hU.size
    replace hB := bthen hB hU
    clear hU
    go_wp2_with fail
    go_ret
    exact ⟨rfl, hB⟩
  have hT := packT_yes hI
  have k1 := hid (fun (v : World) => hV ▸ unpack_any x v hx)
  have k2 := hid (fun (v : World) => hT ▸ pack_any s0 s1 s2 s3 v p0 p1 p2 p3)
  have k3 := hid (fun (v : World) => rqnorm_any s0 s1 s2 s3 v p0 p1 p2 p3)
  clear hV w0 hb hx hT hI p0 p1 p2 p3
  generalize joinV [2, 10, 10, 10] (packL s0 s1 s2 s3) = J at *
  generalize sqs [s0, s1, s2, s3] 0 = N at *
  have c1 : decide ((N : Int) ≤ 1152921504606846976) = true := decide_eq_true hN.2
  have c2 : decide ((1152921502459363328 : Int) ≤ N) = true := decide_eq_true (by have := hN.1; omega)
  go_enter Try.func6, Try.ntmps6
  go_upto_region 0 with (fail)
  apply wp_region_seg0 (w := W) (S := [.q []]) (E := [.q0 _]) rfl (by kernel_rfl) rfl rfl
  intro th hge hne
  refine Seg.step _ rfl (Or.inl ⟨by rfl, fun U hU => vp_quiet (by (go_simp <;> exact rfl))⟩) ⟨_, by (simp only [Ent.val]; go_simp <;> exact rfl), ?_⟩
  refine Seg.stop (fun U1 hU hk => ?_)
  clear hk hge hne
  have sz1 := hU.size
  have hB : Below W.heap.size W U1 := hU
  clear hU
  go_upto_region 1 with (fail)
  apply wp_region_seg0 (w := U1) (S := [.q [], .q [], .q [], .q [], .q [], .al 6, .st 5 [], .q []]) (E := [.q0 _, .c0 _, .q0 _, .q0 _, .q0 _, .al ((fun p => .pointer (some ⟨p, 0, none⟩)), _) 6, .s0 5 (.cells _ _), .q0 _]) rfl (by kernel_rfl) rfl rfl
  intro th hge hne
  refine Seg.step _ rfl (Or.inl ⟨by rfl, fun U hU => vp_quiet (by (go_simp <;> exact rfl))⟩) ⟨_, by (simp only [Ent.val]; go_simp <;> exact rfl), ?_⟩
  refine Seg.step _ rfl (Or.inl ⟨by rfl, fun U hU => ?_⟩) ?_
  · go_simp
    refine vp_call (k1.out _)
  refine ⟨_, by (simp only [Ent.val]; go_simp <;> exact rfl), ?_⟩
  refine Seg.step _ rfl (Or.inl ⟨by rfl, fun U hU => vp_quiet (by (go_simp <;> exact rfl))⟩) ⟨_, by (simp only [Ent.val]; go_simp <;> exact rfl), ?_⟩
  refine Seg.step _ rfl (Or.inl ⟨by rfl, fun U hU => vp_quiet (by (go_simp <;> exact rfl))⟩) ⟨_, by (simp only [Ent.val]; go_simp <;> exact rfl), ?_⟩
  refine Seg.step _ rfl (Or.inl ⟨by rfl, fun U hU => vp_quiet (by (go_simp <;> exact rfl))⟩) ⟨_, by (simp only [Ent.val]; go_simp <;> exact rfl), ?_⟩
  refine Seg.step _ rfl ⟨by rfl, fun U hU => ?_⟩ ?_
  · go_simp; exact vp_alloc rfl rfl rfl
  refine ⟨_, by (simp only [Ent.val]; go_simp <;> exact rfl), ?_⟩
  refine Seg.step _ rfl ⟨by rfl, fun U z k hz hU hc => ?_⟩ ?_
  · have hz2 := Option.some.inj hz
    cases hz2; clear hz
    exact vp_store_agg _ _ _ rfl hc rfl rfl (by kernel_rfl) rfl (by rfl)
  refine ⟨_, by (simp only [Ent.val]; go_simp <;> exact rfl), ?_⟩
  refine Seg.step _ rfl (Or.inl ⟨by rfl, fun U hU => vp_quiet (by (go_simp <;> exact rfl))⟩) ⟨_, by (simp only [Ent.val]; go_simp <;> exact rfl), ?_⟩
  refine Seg.stop (fun U2 hU hk => ?_)
  have nb5 := hge 5 _ _ rfl
  have rb5 := (hk 5 _ 6 rfl trivial).1.1 trivial _ (Nat.zero_le _) rfl
  clear hk hge hne
  generalize th (0 + 5) = p1_5 at *
  simp only [Ent.obj] at rb5
  have r_p1_5 := rb5
  clear rb5
  have n_p1_5 := nb5
  clear nb5
  have sz2 := hU.size
  replace hB := bthen hB hU
  clear hU
  go_upto_region 4 with (fail)
  apply wp_region_seg0 (w := U2) (S := [.q [], .q [], .q []]) (E := [.q0 _, .c0 _, .q0 _]) rfl (by kernel_rfl) rfl rfl
  intro th hge hne
  refine Seg.step _ rfl (Or.inl ⟨by rfl, fun U hU => vp_quiet (by (have h0 := held_cell (held_after hU.1 r_p1_5) 0 _ rfl; have h1 := held_cell (held_after hU.1 r_p1_5) 1 _ rfl; have h2 := held_cell (held_after hU.1 r_p1_5) 2 _ rfl; have h3 := held_cell (held_after hU.1 r_p1_5) 3 _ rfl; go_simp <;> exact rfl))⟩) ⟨_, by (simp only [Ent.val]; go_simp <;> exact rfl), ?_⟩
  refine Seg.step _ rfl (Or.inl ⟨by rfl, fun U hU => ?_⟩) ?_
  · go_simp
    refine vp_call (k3.out _)
  refine ⟨_, by (simp only [Ent.val]; go_simp <;> exact rfl), ?_⟩
  refine Seg.step _ rfl (Or.inl ⟨by rfl, fun U hU => vp_quiet (by (go_simp <;> exact rfl))⟩) ⟨_, by (simp only [Ent.val]; go_simp <;> exact rfl), ?_⟩
  refine Seg.stop (fun U3 hU hk => ?_)
  clear hk hge hne
  replace r_p1_5 := held_after hU r_p1_5
  have sz3 := hU.size
  replace hB := bthen hB hU
  clear hU
  go_upto_region 5 with (fail)
  apply wp_region_seg0 (w := U3) (S := [.q [], .q [], .q [], .q [], .q [], .q [], .q []]) (E := [.q0 _, .c0 _, .q0 _, .q0 _, .q0 _, .q0 _, .q0 _]) rfl (by kernel_rfl) rfl rfl
  intro th hge hne
  refine Seg.step _ rfl (Or.inl ⟨by rfl, fun U hU => vp_quiet (by (have h0 := held_cell (held_after hU.1 r_p1_5) 0 _ rfl; have h1 := held_cell (held_after hU.1 r_p1_5) 1 _ rfl; have h2 := held_cell (held_after hU.1 r_p1_5) 2 _ rfl; have h3 := held_cell (held_after hU.1 r_p1_5) 3 _ rfl; go_simp <;> exact rfl))⟩) ⟨_, by (simp only [Ent.val]; go_simp <;> exact rfl), ?_⟩
  refine Seg.step _ rfl (Or.inl ⟨by rfl, fun U hU => ?_⟩) ?_
  · go_simp
    refine vp_call (k2.out _)
  refine ⟨_, by (simp only [Ent.val]; go_simp <;> exact rfl), ?_⟩
  refine Seg.step _ rfl (Or.inl ⟨by rfl, fun U hU => vp_quiet (by (go_simp <;> exact rfl))⟩) ⟨_, by (simp only [Ent.val]; go_simp <;> exact rfl), ?_⟩
  refine Seg.step _ rfl (Or.inl ⟨by rfl, fun U hU => vp_quiet (by (go_simp <;> exact rfl))⟩) ⟨_, by (simp only [Ent.val]; go_simp <;> exact rfl), ?_⟩
  refine Seg.step _ rfl (Or.inl ⟨by rfl, fun U hU => vp_quiet (by (go_simp <;> exact rfl))⟩) ⟨_, by (simp only [Ent.val]; go_simp <;> exact rfl), ?_⟩
  refine Seg.step _ rfl (Or.inl ⟨by rfl, fun U hU => vp_quiet (by (go_simp <;> exact rfl))⟩) ⟨_, by (simp only [Ent.val]; go_simp <;> exact rfl), ?_⟩
  refine Seg.step _ rfl (Or.inl ⟨by rfl, fun U hU => vp_quiet (by (go_simp <;> exact rfl))⟩) ⟨_, by (simp only [Ent.val]; go_simp <;> exact rfl), ?_⟩
  refine Seg.stop (fun U4 hU hk => ?_)
  clear hk hge hne
  replace r_p1_5 := held_after hU r_p1_5
  have sz4 := hU.size
  replace hB := bthen hB hU
  clear hU
  go_upto_region 6 with (fail)
  apply wp_region_seg0 (w := U4) (S := [.q [], .q [], .q [], .q [], .q [], .q [], .q [], .q [], .q [], .q [], .q [], .q [], .q []]) (E := [.q0 _, .q0 _, .q0 _, .q0 _, .q0 _, .q0 _, .q0 _, .q0 _, .q0 _, .q0 _, .c0 _, .q0 _, .q0 _]) rfl (by kernel_rfl) rfl rfl
  intro th hge hne
  refine Seg.step _ rfl (Or.inl ⟨by rfl, fun U hU => vp_quiet (by (go_simp <;> exact rfl))⟩) ⟨_, by (simp only [Ent.val]; go_simp <;> exact rfl), ?_⟩
  refine Seg.step _ rfl (Or.inl ⟨by rfl, fun U hU => vp_quiet (by (go_simp <;> exact rfl))⟩) ⟨_, by (simp only [Ent.val]; go_simp <;> exact rfl), ?_⟩
  refine Seg.step _ rfl (Or.inl ⟨by rfl, fun U hU => vp_quiet (by (go_simp <;> exact rfl))⟩) ⟨_, by (simp only [Ent.val]; go_simp <;> exact rfl), ?_⟩
  refine Seg.step _ rfl (Or.inl ⟨by rfl, fun U hU => vp_quiet (by (go_simp <;> exact rfl))⟩) ⟨_, by (simp only [Ent.val]; go_simp <;> exact rfl), ?_⟩
  refine Seg.step _ rfl (Or.inl ⟨by rfl, fun U hU => vp_quiet (by (go_simp <;> exact rfl))⟩) ⟨_, by (simp only [Ent.val]; go_simp <;> exact rfl), ?_⟩
  refine Seg.step _ rfl (Or.inl ⟨by rfl, fun U hU => vp_quiet (by (go_simp <;> exact rfl))⟩) ⟨_, by (simp only [Ent.val]; go_simp <;> exact rfl), ?_⟩
  refine Seg.step _ rfl (Or.inl ⟨by rfl, fun U hU => vp_quiet (by (go_simp <;> exact rfl))⟩) ⟨_, by (simp only [Ent.val]; go_simp <;> exact rfl), ?_⟩
  refine Seg.step _ rfl (Or.inl ⟨by rfl, fun U hU => vp_quiet (by (go_simp <;> exact rfl))⟩) ⟨_, by (simp only [Ent.val]; go_simp <;> exact rfl), ?_⟩
  refine Seg.step _ rfl (Or.inl ⟨by rfl, fun U hU => vp_quiet (by (go_simp <;> exact rfl))⟩) ⟨_, by (simp only [Ent.val]; go_simp <;> exact rfl), ?_⟩
  refine Seg.step _ rfl (Or.inl ⟨by rfl, fun U hU => vp_quiet (by (go_simp <;> exact rfl))⟩) ⟨_, by (simp only [Ent.val]; go_simp <;> exact rfl), ?_⟩
  refine Seg.step _ rfl (Or.inl ⟨by rfl, fun U hU => ?_⟩) ?_
  · go_simp
    refine vp_call (knows12_any _)
  refine ⟨_, by (simp only [Ent.val]; go_simp <;> exact rfl), ?_⟩
  refine Seg.step _ rfl (Or.inl ⟨by rfl, fun U hU => vp_quiet (by (go_simp <;> exact rfl))⟩) ⟨_, by (simp only [Ent.val]; go_simp <;> exact rfl), ?_⟩
  refine Seg.step _ rfl (Or.inl ⟨by rfl, fun U hU => vp_quiet (by (go_simp <;> exact rfl))⟩) ⟨_, by (simp only [Ent.val]; go_simp <;> exact rfl), ?_⟩
  refine Seg.stop (fun U5 hU hk => ?_)
  clear hk hge hne
  replace r_p1_5 := held_after hU r_p1_5
  have sz5 := hU.size
  replace hB := bthen hB hU
  clear hU
  go_wp2_with fail
  go_ret
  exact ⟨rfl, hB⟩

end Go.Proofs.Ytnabfimammojhaa
