/- The laws of layer 16: PvtPuts. -/
import Derived.Test.YtfihdgichmocmaaLaw16
import Derived.Test.YtfihdgichmocmaaKA
import Derived.Laws.StructEq
import Derived.Deep.DeepCutAuto
namespace Go.Proofs.Ytfihdgichmocmaa
open Go.ChangeShapes Go.WideShapes Go.ChangeAt Go.RowKit
set_option linter.unusedVariables false
set_option linter.unusedSimpArgs false

set_option maxRecDepth 100000 in
theorem eqF4 (n : Int) (b : Bool) (lo hi : Int) (w : World) : (Op.equalIn 10000 35 (.agg #[.int .i64 n, .bool b, .int .i64 lo, .int .i64 hi]) (.agg #[.int .i64 n, .bool b, .int .i64 lo, .int .i64 hi])).run Try.prog w = .ok true w := by
  rw [show (10000 : Nat) = 9999 + 1 from rfl, run_equalIn_struct w 9999 _ _ _ (by rfl) (by kernel_rfl)]
  go_simp
set_option maxRecDepth 100000 in
set_option maxHeartbeats 16000000 in
theorem puts16 (xs : List Int) (hl : xs.length = 32) (hb : ∀ x ∈ xs, -9223372036854775808 ≤ x ∧ x ≤ 9223372036854775807)  (W : World)  :
    Calls Try.prog 3 #[.agg (xs.map (Value.int .i64)).toArray] W fun e w' => e = .returned (.bool true) ∧ Below W.heap.size W w' := by
  have kP := hid (fun U => put16_any xs hl hb U)
  have kR := hid (fun U => rput16_any xs hl hb U)
  have kV := hid (fun U => values_any xs hl U)
  have kW := hid (fun U => rvaluesL_any xs hl U)
  have hio := in_out16 hl
  have hof : ofV 33 (outV xs) = (xs, true) := by unfold ofV; rw [if_pos ⟨rfl, hio.2⟩, hio.1]
  clear hio
  replace hof := hid hof
  have hol := hid (outV_len xs)
  have pe := putF_e (fN PD16) (fS PD16) (fL PD16) (fH PD16) PD16.length (outV xs)
  change 0 ≤ (putL PD16 (outV xs)).2 ∧ (putL PD16 (outV xs)).2 ≤ 9 at pe
  obtain ⟨⟨L, ee⟩, hr⟩ : ∃ r, putL PD16 (outV xs) = r := ⟨_, rfl⟩
  replace kP := hid (fun U => hr ▸ kP.out U)
  replace kR := hid (fun U => hr ▸ kR.out U)
  rw [hr] at pe
  clear hr
  dsimp only at pe
  obtain ⟨ov, hov⟩ : ∃ o, outV xs = o := ⟨_, rfl⟩
  replace kV := hid (fun U => hov ▸ kV.out U)
  replace kW := hid (fun U => hov ▸ kW.out U)
  replace hof := hid (hov ▸ hof.out)
  replace hol := hid (hov ▸ hol.out)
  clear hov
  obtain ⟨C, hC⟩ : ∃ C, ((xs).map (Value.int .i64)).toArray = C := ⟨_, rfl⟩
  have sC := hid (show C.size = 32 by rw [← hC, List.size_toArray, List.length_map]; exact hl)
  have oC := hid (show C.all (·.oneCell') = true from hC ▸ allOne16 _)
  have qC := hid (fun U => hC ▸ eqP16 _ (hl) U)
  rw [hC]
  have nw := alloc_new W (.cells C 23)
  have hB := hid nw.2.1
  have rm := hid nw.2.2
  clear nw
  go_enter Try.func3, Try.ntmps3
  go_upto_region 1 with (fail)
  obtain ⟨V0, hV0⟩ : ∃ X, W.alloc (.cells C 23) = X := ⟨_, rfl⟩
  rw [hV0] at hB rm ⊢
  clear hV0
  obtain ⟨qm, hqm⟩ : ∃ X, W.heap.size = X := ⟨_, rfl⟩
  rw [hqm] at rm ⊢
  replace hqm := hid hqm
  replace kP := hid (fun U => hC ▸ kP.out U)
  replace kR := hid (fun U => hC ▸ kR.out U)
  replace kV := hid (fun U => hC ▸ kV.out U)
  replace kW := hid (fun U => hC ▸ kW.out U)
  replace hC := hid hC
  clear hb
  go_wp2_with (refine wpList_load_rowG (by rfl) 23 (.tmp 1) rfl qm rfl 23 C (0, 0) _ rm.out Try.underlying23 rfl (by rw [sC.out]; kernel_rfl) ?_)
  refine (kP.out _).mono ?_
  rintro e V1 ⟨r1a, r1c, rfl, hO1, hA⟩
  replace rm := hid (held_after hA rm.out)
  replace hB := hid (bthen hB.out hA)
  clear hA
  dsimp only at hO1 ⊢
  replace hO1 := hid hO1
  go_wp2_with (refine wpList_load_rowG (by rfl) 23 (.tmp 1) rfl qm rfl 23 C (0, 0) _ rm.out Try.underlying23 rfl (by rw [sC.out]; kernel_rfl) ?_)
  refine (kR.out _).mono ?_
  rintro e V2 ⟨r2a, r2c, rfl, hO2, hA⟩
  replace hO1 := hid (hO1.out.below hA)
  replace rm := hid (held_after hA rm.out)
  replace hB := hid (bthen hB.out hA)
  clear hA
  dsimp only at hO2 ⊢
  replace hO2 := hid hO2
  go_wp2_with (refine wpList_load_rowG (by rfl) 23 (.tmp 1) rfl qm rfl 23 C (0, 0) _ rm.out Try.underlying23 rfl (by rw [sC.out]; kernel_rfl) ?_)
  refine (kV.out _).mono ?_
  rintro e V3 ⟨Va, rfl, hRa, hVa, hA⟩
  replace hO1 := hid (hO1.out.below hA)
  replace hO2 := hid (hO2.out.below hA)
  replace rm := hid (held_after hA rm.out)
  replace hB := hid (bthen hB.out hA)
  clear hA
  have hSa := hid (hol.out ▸ hRa.sl (by rw [hol.out]; unfold maxLen; omega))
  clear hRa hVa
  go_wp2_with fail
  refine (of_any (some ⟨Va, 0, none⟩) 33 33 ov _ hSa.out (by omega)).mono ?_
  rintro e V4 ⟨rfl, hA⟩
  replace hO1 := hid (hO1.out.below hA)
  replace hO2 := hid (hO2.out.below hA)
  replace hSa := hid (hSa.out.below hA)
  replace rm := hid (held_after hA rm.out)
  replace hB := hid (bthen hB.out hA)
  clear hA
  rw [hof.out]
  dsimp only
  rw [hC.out]
  have n3 := alloc_new V4 (.cells #[.int .i64 0, .int .i64 0, .int .i64 0, .int .i64 0, .int .i64 0, .int .i64 0, .int .i64 0, .int .i64 0, .int .i64 0, .int .i64 0, .int .i64 0, .int .i64 0, .int .i64 0, .int .i64 0, .int .i64 0, .int .i64 0, .int .i64 0, .int .i64 0, .int .i64 0, .int .i64 0, .int .i64 0, .int .i64 0, .int .i64 0, .int .i64 0, .int .i64 0, .int .i64 0, .int .i64 0, .int .i64 0, .int .i64 0, .int .i64 0, .int .i64 0, .int .i64 0] 23)
  have hX4 := (show (V4.alloc (.cells #[.int .i64 0, .int .i64 0, .int .i64 0, .int .i64 0, .int .i64 0, .int .i64 0, .int .i64 0, .int .i64 0, .int .i64 0, .int .i64 0, .int .i64 0, .int .i64 0, .int .i64 0, .int .i64 0, .int .i64 0, .int .i64 0, .int .i64 0, .int .i64 0, .int .i64 0, .int .i64 0, .int .i64 0, .int .i64 0, .int .i64 0, .int .i64 0, .int .i64 0, .int .i64 0, .int .i64 0, .int .i64 0, .int .i64 0, .int .i64 0, .int .i64 0, .int .i64 0] 23)).heap[V4.heap.size]? = some (.cells zC 23 (0, 0)) from n3.2.2)
  have rq := hid (setRow_heap (V4.alloc (.cells #[.int .i64 0, .int .i64 0, .int .i64 0, .int .i64 0, .int .i64 0, .int .i64 0, .int .i64 0, .int .i64 0, .int .i64 0, .int .i64 0, .int .i64 0, .int .i64 0, .int .i64 0, .int .i64 0, .int .i64 0, .int .i64 0, .int .i64 0, .int .i64 0, .int .i64 0, .int .i64 0, .int .i64 0, .int .i64 0, .int .i64 0, .int .i64 0, .int .i64 0, .int .i64 0, .int .i64 0, .int .i64 0, .int .i64 0, .int .i64 0, .int .i64 0, .int .i64 0] 23)) V4.heap.size zC C 23 (0, 0) hX4)
  have hA := hid (setRow_after n3.2.1 (cs := C) (Nat.le_refl _) hX4)
  replace hX4 := hid hX4
  clear n3
  go_upto_region 4 with (refine wpList_store_row rfl 23 (.tmp 7) (.tmp 26) rfl V4.heap.size C rfl rfl 23 zC hX4.out (by rw [sC.out]; kernel_rfl) (by rw [sC.out]; rfl) oC.out ?_)
  clear hX4
  obtain ⟨V5, hV5⟩ : ∃ X, (V4.alloc (.cells #[.int .i64 0, .int .i64 0, .int .i64 0, .int .i64 0, .int .i64 0, .int .i64 0, .int .i64 0, .int .i64 0, .int .i64 0, .int .i64 0, .int .i64 0, .int .i64 0, .int .i64 0, .int .i64 0, .int .i64 0, .int .i64 0, .int .i64 0, .int .i64 0, .int .i64 0, .int .i64 0, .int .i64 0, .int .i64 0, .int .i64 0, .int .i64 0, .int .i64 0, .int .i64 0, .int .i64 0, .int .i64 0, .int .i64 0, .int .i64 0, .int .i64 0, .int .i64 0] 23)).setRow V4.heap.size C = X := ⟨_, rfl⟩
  have hA2 := hA.out
  clear hA
  have hA := hA2
  clear hA2
  rw [hV5] at hA rq ⊢
  obtain ⟨qq, hqq⟩ : ∃ X, V4.heap.size = X := ⟨_, rfl⟩
  rw [hqq] at rq ⊢
  replace hV5 := hid hV5
  replace hqq := hid hqq
  replace hO1 := hid (hO1.out.below hA)
  replace hO2 := hid (hO2.out.below hA)
  replace hSa := hid (hSa.out.below hA)
  replace rm := hid (held_after hA rm.out)
  replace hB := hid (bthen hB.out hA)
  clear hA
  replace rq := hid rq.out
  go_wp2_with fail
  refine (fields16 _).mono ?_
  rintro e V6 ⟨fa, fc, rfl, hF, hA⟩
  replace hO1 := hid (hO1.out.below hA)
  replace hO2 := hid (hO2.out.below hA)
  replace hSa := hid (hSa.out.below hA)
  replace rm := hid (held_after hA rm.out)
  replace rq := hid (held_after hA rq.out)
  replace hB := hid (bthen hB.out hA)
  clear hA
  replace hF := hid hF
  go_wp2_with fail
  refine (rfields16 _).mono ?_
  rintro e V7 ⟨ga, gc, rfl, hG, hA⟩
  replace hO1 := hid (hO1.out.below hA)
  replace hO2 := hid (hO2.out.below hA)
  replace hSa := hid (hSa.out.below hA)
  replace hF := hid (hF.out.below hA)
  replace rm := hid (held_after hA rm.out)
  replace rq := hid (held_after hA rq.out)
  replace hB := hid (bthen hB.out hA)
  clear hA
  replace hG := hid hG
  have hn33 : PD16.length = 33 := by kernel_rfl
  rw [hn33]
  replace hn33 := hid hn33
  go_wp2_with fail
  go_loopw [11] (fun ix wr => ∃ k : Nat, k ≤ 33 ∧ ix = .int .i64 k ∧ After V7 wr) (fun ix _ => 33 - (intOf ix).toNat)
  case atStart => exact ⟨0, by omega, rfl, After.refl _⟩
  case round =>
    obtain ⟨k, hk, rfl, hA⟩ := hrel
    by_cases hlt : (k : Int) < 33
    case pos =>
      obtain ⟨p1, o1, e1, g0, g1, g2, g3⟩ := (hF.out.below hA).2.2.2 k (by rw [hn33.out]; omega)
      obtain ⟨p2, o2, e2, q0, q1, q2, q3⟩ := (hG.out.below hA).2.2.2 k (by rw [hn33.out]; omega)
      subst e1
      subst e2
      have kz : (0 : Int) ≤ k := by omega
      have wk : IntKind.i64.wrap ((k : Int) + 1) = (k : Int) + 1 := by rw [IntKind.wrap_i64]; omega
      have hk1 := hid (show k + 1 ≤ 33 by omega)
      have eqx := fun U => eqF4 (fN PD16 k) (fS PD16 k) (fL PD16 k) (fH PD16 k) U
      generalize fN PD16 k = x0 at *
      generalize fS PD16 k = x1 at *
      generalize fL PD16 k = x2 at *
      generalize fH PD16 k = x3 at *
      have hA2 := hid hA.drew
      clear hA hk
      go_upto_region 10 with (fail)
      refine wp_region_R (by kernel_rfl) ?_
      refine wpAnyR_take 0 rfl (by kernel_rfl) (by kernel_rfl) (by kernel_rfl) (fun _ _ _ _ h => h) ⟨_, Or.inl ⟨by rfl, fun w2 hb2 => by (go_simp; try with_reducible rfl)⟩, _, by (go_simp; try rfl), ?_⟩
      refine wpAnyR_take 1 rfl (by kernel_rfl) (by kernel_rfl) (by kernel_rfl) (fun _ _ _ _ h => h) ⟨_, Or.inl ⟨by rfl, fun w2 hb2 => by (go_simp; try with_reducible rfl)⟩, _, by (go_simp; try rfl), ?_⟩
      refine wpAnyR_take 2 rfl (by kernel_rfl) (by kernel_rfl) (by kernel_rfl) (fun _ _ _ _ h => h) ⟨_, Or.inl ⟨by rfl, fun w2 hb2 => by (go_simp; try with_reducible rfl)⟩, _, by (go_simp; try rfl), ?_⟩
      refine wpAnyR_take 3 rfl (by kernel_rfl) (by kernel_rfl) (by kernel_rfl) (fun _ _ _ _ h => h) ⟨_, Or.inl ⟨by rfl, fun w2 hb2 => by (have h0 := (Below.cell hb2 (World.block_lt_of_cell? wr _ g0)).trans g0; have h1 := (Below.cell hb2 (World.block_lt_of_cell? wr _ g1)).trans g1; have h2 := (Below.cell hb2 (World.block_lt_of_cell? wr _ g2)).trans g2; have h3 := (Below.cell hb2 (World.block_lt_of_cell? wr _ g3)).trans g3; go_simp; try with_reducible rfl)⟩, _, by (go_simp; try rfl), ?_⟩
      refine wpAnyR_take 4 rfl (by kernel_rfl) (by kernel_rfl) (by kernel_rfl) (fun _ _ _ _ h => h) ⟨_, Or.inl ⟨by rfl, fun w2 hb2 => by (go_simp; try with_reducible rfl)⟩, _, by (go_simp; try rfl), ?_⟩
      refine wpAnyR_take 5 rfl (by kernel_rfl) (by kernel_rfl) (by kernel_rfl) (fun _ _ _ _ h => h) ⟨_, Or.inl ⟨by rfl, fun w2 hb2 => by (go_simp; try with_reducible rfl)⟩, _, by (go_simp; try rfl), ?_⟩
      refine wpAnyR_take 6 rfl (by kernel_rfl) (by kernel_rfl) (by kernel_rfl) (fun _ _ _ _ h => h) ⟨_, Or.inl ⟨by rfl, fun w2 hb2 => by (go_simp; try with_reducible rfl)⟩, _, by (go_simp; try rfl), ?_⟩
      refine wpAnyR_take 7 rfl (by kernel_rfl) (by kernel_rfl) (by kernel_rfl) (fun _ _ _ _ h => h) ⟨_, Or.inl ⟨by rfl, fun w2 hb2 => by (have h0 := (Below.cell hb2 (World.block_lt_of_cell? wr _ q0)).trans q0; have h1 := (Below.cell hb2 (World.block_lt_of_cell? wr _ q1)).trans q1; have h2 := (Below.cell hb2 (World.block_lt_of_cell? wr _ q2)).trans q2; have h3 := (Below.cell hb2 (World.block_lt_of_cell? wr _ q3)).trans q3; go_simp; try with_reducible rfl)⟩, _, by (go_simp; try rfl), ?_⟩
      refine wpAnyR_take 8 rfl (by kernel_rfl) (by kernel_rfl) (by kernel_rfl) (fun _ _ _ _ h => h) ⟨_, Or.inl ⟨by rfl, fun w2 hb2 => by (go_simp; try with_reducible rfl)⟩, _, by (go_simp; try rfl), ?_⟩
      refine wpAnyR_done (by kernel_rfl) ?_ _
      clear eqx
      go_wp2_with fail
      go_roundw
      case rel => exact ⟨k + 1, hk1.out, by simp, hA2.out⟩
      case measure => simp [intOf]; omega
    have hA9 := bthen hA (Below.refl _ wr).drew
    clear hA
    obtain ⟨Q, hQ⟩ : ∃ X, wr.drew = X := ⟨_, rfl⟩
    rw [hQ] at hA9
    have rmQ := hid (held_after hA9 rm.out)
    have rqQ := hid (held_after hA9 rq.out)
    have t1 := ((hO1.out.below hA9)).textR 24 9 5 Try.underlying24 Try.underlying5 Try.underlying9
    have t2 := ((hO2.out.below hA9)).textR 24 9 5 Try.underlying24 Try.underlying5 Try.underlying9
    have hBQ := hid (bthen hB.out hA9)
    have pC := qC.out
    try dsimp only at t1 t2
    generalize textOf L = TX at *
    replace t1 := hid t1
    replace t2 := hid t2
    replace hQ := hid hQ
    clear hA9 rm rq hO1 hO2 hF hG hSa
    go_upto_region 12 with (fail)
    refine wp_region_R (by kernel_rfl) ?_
    rw [hQ.out]
    refine wpAnyR_take 0 rfl (by kernel_rfl) (by kernel_rfl) (by kernel_rfl) (fun _ _ _ _ h => h) ⟨_, Or.inl ⟨by rfl, fun w2 hb2 => by (go_simp; try with_reducible rfl)⟩, _, by (go_simp; try rfl), ?_⟩
    refine wpAnyR_take 1 rfl (by kernel_rfl) (by kernel_rfl) (by kernel_rfl) (fun _ _ _ _ h => h) ⟨_, Or.inl ⟨by rfl, fun w2 hb2 => by (have hx := t1.out w2 hb2; go_simp; try with_reducible rfl)⟩, _, by (go_simp; try rfl), ?_⟩
    refine wpAnyR_take 2 rfl (by kernel_rfl) (by kernel_rfl) (by kernel_rfl) (fun _ _ _ _ h => h) ⟨_, Or.inl ⟨by rfl, fun w2 hb2 => by (go_simp; try with_reducible rfl)⟩, _, by (go_simp; try rfl), ?_⟩
    refine wpAnyR_take 3 rfl (by kernel_rfl) (by kernel_rfl) (by kernel_rfl) (fun _ _ _ _ h => h) ⟨_, Or.inl ⟨by rfl, fun w2 hb2 => by (have hx := t2.out w2 hb2; go_simp; try with_reducible rfl)⟩, _, by (go_simp; try rfl), ?_⟩
    refine wpAnyR_take 4 rfl (by kernel_rfl) (by kernel_rfl) (by kernel_rfl) (fun _ _ _ _ h => h) ⟨_, Or.inl ⟨by rfl, fun w2 hb2 => by (go_simp; try with_reducible rfl)⟩, _, by (go_simp; try rfl), ?_⟩
    refine wpAnyR_take 5 rfl (by kernel_rfl) (by kernel_rfl) (by kernel_rfl) (fun _ _ _ _ h => h) ⟨_, Or.inl ⟨by rfl, fun w2 hb2 => by (go_simp; try with_reducible rfl)⟩, _, by (go_simp; try rfl), ?_⟩
    refine wpAnyR_take 6 rfl (by kernel_rfl) (by kernel_rfl) (by kernel_rfl) (fun _ _ _ _ h => h) ⟨_, Or.inl ⟨by rfl, fun w2 hb2 => by (go_simp; try with_reducible rfl)⟩, _, by (go_simp; try rfl), ?_⟩
    refine wpAnyR_take 8 rfl (by kernel_rfl) (by kernel_rfl) (by kernel_rfl) (fun _ _ _ _ h => h) ⟨_, Or.inl ⟨by rfl, fun w2 hb2 => by (go_simp; try with_reducible rfl)⟩, _, by (go_simp; try rfl), ?_⟩
    refine wpAnyR_only 7 rfl (by kernel_rfl) (by rfl) (fun K hK => ?_)
    go_simp
    refine (num16_any ee _ (by omega) (by omega)).mono ?_
    rintro e V ⟨rfl, rfl⟩
    go_simp
    refine hK _ _ ⟨(After.refl _), ?_⟩
    clear hK
    refine wpAnyR_only 9 rfl (by kernel_rfl) (by rfl) (fun K hK => ?_)
    go_simp
    refine (num16_any ee _ (by omega) (by omega)).mono ?_
    rintro e V ⟨rfl, rfl⟩
    go_simp
    refine hK _ _ ⟨(After.refl _), ?_⟩
    clear hK
    refine wpAnyR_take 10 rfl (by kernel_rfl) (by kernel_rfl) (by kernel_rfl) (fun _ _ _ _ h => h) ⟨_, Or.inl ⟨by rfl, fun w2 hb2 => by (go_simp; try with_reducible rfl)⟩, _, by (go_simp; try rfl), ?_⟩
    refine wpAnyR_take 11 rfl (by kernel_rfl) (by kernel_rfl) (by kernel_rfl) (fun _ _ _ _ h => h) ⟨_, Or.inl ⟨by rfl, fun w2 hb2 => by (go_simp; try with_reducible rfl)⟩, _, by (go_simp; try rfl), ?_⟩
    refine wpAnyR_take 12 rfl (by kernel_rfl) (by kernel_rfl) (by kernel_rfl) (fun _ _ _ _ h => h) ⟨_, Or.inl ⟨by rfl, fun w2 hb2 => by (go_simp; try with_reducible rfl)⟩, _, by (go_simp; try rfl), ?_⟩
    refine wpAnyR_take 13 rfl (by kernel_rfl) (by kernel_rfl) (by kernel_rfl) (fun _ _ _ _ h => h) ⟨_, Or.inl ⟨by rfl, fun w2 hb2 => by (exact exec_load_row 23 _ rfl qm (by go_simp) 23 C (0, 0) _ (held_after hb2 (rmQ.out)) Try.underlying23 rfl (by rw [sC.out]; kernel_rfl))⟩, _, by (go_simp; try rfl), ?_⟩
    refine wpAnyR_take 15 rfl (by kernel_rfl) (by kernel_rfl) (by kernel_rfl) (fun _ _ _ _ h => h) ⟨_, Or.inl ⟨by rfl, fun w2 hb2 => by (exact exec_load_row 23 _ rfl qm (by go_simp) 23 C (0, 0) _ (held_after hb2 (rmQ.out)) Try.underlying23 rfl (by rw [sC.out]; kernel_rfl))⟩, _, by (go_simp; try rfl), ?_⟩
    refine wpAnyR_only 14 rfl (by kernel_rfl) (by rfl) (fun K hK => ?_)
    go_simp
    refine (kV.out _).mono ?_
    rintro e Yx ⟨Vx, rfl, hRx, hVx, hA⟩
    have hsx := hid (hol.out ▸ hRx.sl (by rw [hol.out]; unfold maxLen; omega))
    clear hRx hVx
    have hBY := hid (bthen hBQ.out hA)
    have hY := hid (hA)
    have hBY0 := hBY
    clear hBY
    have hY0 := hY
    clear hY
    go_simp
    refine hK _ _ ⟨hA, ?_⟩
    clear hK
    clear hA
    refine wpAnyR_only 16 rfl (by kernel_rfl) (by rfl) (fun K hK => ?_)
    go_simp
    refine (kW.out _).mono ?_
    rintro e Yy ⟨Vy, rfl, hRy, hVy, hA⟩
    have hsy := hid (hol.out ▸ hRy.sl (by rw [hol.out]; unfold maxLen; omega))
    clear hRy hVy
    have hBY := hid (bthen hBY0.out hA)
    have hY := hid (bthen hY0.out hA)
    replace hsx := hid (hsx.out.below hA)
    have hBY0 := hBY
    clear hBY
    have hY0 := hY
    clear hY
    go_simp
    refine hK _ _ ⟨hA, ?_⟩
    clear hK
    clear hA
    refine wpAnyR_only 17 rfl (by kernel_rfl) (by rfl) (fun K hK => ?_)
    go_simp
    refine (same64_any (some ⟨Vx, 0, none⟩) (some ⟨Vy, 0, none⟩) 33 33 33 33 ov ov _ hsx.out hsy.out (by omega) (by omega)).mono ?_
    rintro e Y ⟨rfl, kk, rfl⟩
    have hA : After Yy (Yy.drewN kk) := below_drewN (Below.refl _ Yy) kk
    have rmQ := hid (held_after (bthen hY0.out hA) rmQ.out)
    have rqQ := hid (held_after (bthen hY0.out hA) rqQ.out)
    have hBZ := hid (bthen hBY0.out hA)
    have et : decide (ov = ov) = true := by simp
    rw [et]
    go_simp
    refine hK _ _ ⟨hA, ?_⟩
    clear hK
    clear hA
    refine wpAnyR_take 18 rfl (by kernel_rfl) (by kernel_rfl) (by kernel_rfl) (fun _ _ _ _ h => h) ⟨_, Or.inl ⟨by rfl, fun w2 hb2 => by (go_simp; try with_reducible rfl)⟩, _, by (go_simp; try rfl), ?_⟩
    refine wpAnyR_take 19 rfl (by kernel_rfl) (by kernel_rfl) (by kernel_rfl) (fun _ _ _ _ h => h) ⟨_, Or.inl ⟨by rfl, fun w2 hb2 => by (go_simp; try with_reducible rfl)⟩, _, by (go_simp; try rfl), ?_⟩
    refine wpAnyR_take 20 rfl (by kernel_rfl) (by kernel_rfl) (by kernel_rfl) (fun _ _ _ _ h => h) ⟨_, Or.inl ⟨by rfl, fun w2 hb2 => by (exact exec_load_row 23 _ rfl qq (by go_simp) 23 C (0, 0) _ (held_after hb2 (rqQ.out)) Try.underlying23 rfl (by rw [sC.out]; kernel_rfl))⟩, _, by (go_simp; try rfl), ?_⟩
    refine wpAnyR_take 21 rfl (by kernel_rfl) (by kernel_rfl) (by kernel_rfl) (fun _ _ _ _ h => h) ⟨_, Or.inl ⟨by rfl, fun w2 hb2 => by (exact exec_load_row 23 _ rfl qm (by go_simp) 23 C (0, 0) _ (held_after hb2 (rmQ.out)) Try.underlying23 rfl (by rw [sC.out]; kernel_rfl))⟩, _, by (go_simp; try rfl), ?_⟩
    refine wpAnyR_take 22 rfl (by kernel_rfl) (by kernel_rfl) (by kernel_rfl) (fun _ _ _ _ h => h) ⟨_, Or.inl ⟨by rfl, fun w2 hb2 => by (go_simp; try with_reducible rfl)⟩, _, by (go_simp; try rfl), ?_⟩
    refine wpAnyR_take 23 rfl (by kernel_rfl) (by kernel_rfl) (by kernel_rfl) (fun _ _ _ _ h => h) ⟨_, Or.inl ⟨by rfl, fun w2 hb2 => by (go_simp; try with_reducible rfl)⟩, _, by (go_simp; try rfl), ?_⟩
    refine wpAnyR_take 24 rfl (by kernel_rfl) (by kernel_rfl) (by kernel_rfl) (fun _ _ _ _ h => h) ⟨_, Or.inl ⟨by rfl, fun w2 hb2 => by (go_simp; try with_reducible rfl)⟩, _, by (go_simp; try rfl), ?_⟩
    refine wpAnyR_take 25 rfl (by kernel_rfl) (by kernel_rfl) (by kernel_rfl) (fun _ _ _ _ h => h) ⟨_, Or.inl ⟨by rfl, fun w2 hb2 => by (go_simp; try with_reducible rfl)⟩, _, by (go_simp; try rfl), ?_⟩
    refine wpAnyR_take 26 rfl (by kernel_rfl) (by kernel_rfl) (by kernel_rfl) (fun _ _ _ _ h => h) ⟨_, Or.inl ⟨by rfl, fun w2 hb2 => by (go_simp; try with_reducible rfl)⟩, _, by (go_simp; try rfl), ?_⟩
    refine wpAnyR_take 27 rfl (by kernel_rfl) (by kernel_rfl) (by kernel_rfl) (fun _ _ _ _ h => h) ⟨_, Or.inl ⟨by rfl, fun w2 hb2 => by (go_simp; try with_reducible rfl)⟩, _, by (go_simp; try rfl), ?_⟩
    refine wpAnyR_only 28 rfl (by kernel_rfl) (by rfl) (fun K hK => ?_)
    go_simp
    refine (knows16_any _).mono ?_
    rintro e Y9 ⟨rfl, hA⟩
    have hB9 := hid (bthen hBZ.out hA)
    go_simp
    refine hK _ _ ⟨hA, ?_⟩
    clear hK
    clear hA
    refine wpAnyR_take 29 rfl (by kernel_rfl) (by kernel_rfl) (by kernel_rfl) (fun _ _ _ _ h => h) ⟨_, Or.inl ⟨by rfl, fun w2 hb2 => by (go_simp; try with_reducible rfl)⟩, _, by (go_simp; try rfl), ?_⟩
    refine wpAnyR_take 30 rfl (by kernel_rfl) (by kernel_rfl) (by kernel_rfl) (fun _ _ _ _ h => h) ⟨_, Or.inl ⟨by rfl, fun w2 hb2 => by (go_simp; try with_reducible rfl)⟩, _, by (go_simp; try rfl), ?_⟩
    refine wpAnyR_done (by kernel_rfl) ?_ _
    go_wp2_with fail
    go_ret
    exact ⟨ret_bool (by simp), hB9.out⟩


end Go.Proofs.Ytfihdgichmocmaa
