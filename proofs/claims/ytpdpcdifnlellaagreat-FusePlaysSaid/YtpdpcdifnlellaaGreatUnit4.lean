/- Package unit, its reference: Make. -/
import Derived.Test.YtpdpcdifnlellaaGreatUnit3
namespace Go.Proofs.YtpdpcdifnlellaaGreat
open Go.ChangeShapes Go.WideShapes Go.ChangeAt Go.RowKit
set_option maxRecDepth 100000
set_option linter.unusedVariables false

theorem rfar11_any (n : Int) (w : World) :
    Calls Tryz.prog 89 #[.int .i32 n] w fun e w' => e = .returned (.bool (farP n)) ∧ w' = w := by
  by_cases ha : 1073741824 ≤ n
  · have e := hid (show farP n = true by unfold farP; simp; omega)
    go_enter Tryz.func89, Tryz.ntmps89
    go_wp2_with fail
    go_ret
    exact ⟨ret_bool (by rw [e.out]), rfl⟩
  by_cases hb : n ≤ -1073741824
  · have e := hid (show farP n = true by unfold farP; simp; omega)
    go_enter Tryz.func89, Tryz.ntmps89
    go_wp2_with fail
    go_ret
    exact ⟨ret_bool (by rw [e.out]), rfl⟩
  · have e := hid (show farP n = false by unfold farP; simp; omega)
    go_enter Tryz.func89, Tryz.ntmps89
    go_wp2_with fail
    go_ret
    exact ⟨ret_bool (by rw [e.out]), rfl⟩

set_option maxRecDepth 100000 in
set_option maxHeartbeats 16000000 in
theorem rumake_any (x y z t : Int) (w : World) (p0 : B32 x) (p1 : B32 y) (p2 : B32 z) (p3 : B32 t) :
    Calls Tryz.prog 64 #[.agg #[.int .i32 x, .int .i32 y, .int .i32 z, .int .i32 t]] w fun e w' => e = .returned (unitT4 x y z t) ∧ Below w.heap.size w w' := by
  by_cases hz : x = 0 ∧ y = 0 ∧ z = 0 ∧ t = 0
  · have hV := hid (unit4_no hz)
    obtain ⟨rfl, rfl, rfl, rfl⟩ := hz
    clear p0 p1 p2 p3
    go_enter Tryz.func64, Tryz.ntmps64
    go_upto_region 0 with (fail)
    apply wp_region_seg0 (w := w) (S := [.al 1000, .al 1000, .q []]) (E := [.al ((fun p => .pointer (some ⟨p, 0, none⟩)), _) 1000, .al ((fun p => .pointer (some ⟨p, 0, none⟩)), _) 1000, .q0 _]) rfl (by kernel_rfl) rfl rfl
    intro th hge hne
    refine Seg.step _ rfl ⟨by rfl, fun U hU => ?_⟩ ?_
    · go_simp; exact vp_alloc rfl rfl rfl
    refine Seg.sa ?_
    refine Seg.step _ rfl ⟨by rfl, fun U hU => ?_⟩ ?_
    · go_simp; exact vp_alloc rfl rfl rfl
    refine Seg.sa ?_
    refine Seg.sq ?_
    refine Seg.stop (fun U1 hU hk => ?_)
    have nb0 := hge 0 _ _ rfl
    have rb0 := (hk 0 _ _ rfl trivial).1.2 (by simp)
    have nb1 := hge 1 _ _ rfl
    have rb1 := (hk 1 _ _ rfl trivial).1.2 (by simp)
    have ne0_1 := hne 0 1 _ _ _ _ rfl rfl (by omega)
    clear hk hge hne
    generalize th (0 + 0) = p0_0 at *
    dsimp only at rb0
    generalize th (0 + 1) = p0_1 at *
    dsimp only at rb1
    have r_p0_0 := rb0
    clear rb0
    have n_p0_0 := nb0
    clear nb0
    have d_p0_0_p0_1 := ne0_1
    clear ne0_1
    have r_p0_1 := rb1
    clear rb1
    have n_p0_1 := nb1
    clear nb1
    have sz1 := hU.size
    have hB : Below w.heap.size w U1 := hU
    clear hU
    go_upto_region 1 with (fail)
    apply wp_region_seg0 (w := U1) (S := [.q [], .q [], .q []]) (E := [.q0 _, .q0 _, .q0 _]) rfl (by kernel_rfl) rfl rfl
    intro th hge hne
    refine Seg.sq ?_ (ht := Or.inl ⟨by rfl, fun U hU => vp_quiet (by (have h0 := held_cell (held_after hU.1 r_p0_0) 0 _ rfl; have h1 := held_cell (held_after hU.1 r_p0_0) 1 _ rfl; have h2 := held_cell (held_after hU.1 r_p0_0) 2 _ rfl; have h3 := held_cell (held_after hU.1 r_p0_0) 3 _ rfl; go_simp <;> exact rfl))⟩)
    refine Seg.sq ?_
    refine Seg.sq ?_
    refine Seg.stop (fun U2 hU hk => ?_)
    clear hk hge hne
    replace r_p0_0 := held_after hU r_p0_0
    replace r_p0_1 := held_after hU r_p0_1
    have sz2 := hU.size
    replace hB := bthen hB hU
    clear hU
    go_upto_region 2 with (fail)
    have ra : Row .i32 23 U2 p0_0 [0, 0, 0, 0] := r_p0_0
    have rr : Row .i32 23 U2 p0_1 [0, 0, 0, 0] := r_p0_1
    have sR : w.heap.size ≤ p0_1 := n_p0_1
    obtain ⟨z0, z1, z2, z3, h0, h1, h2, h3⟩ := rr.four
    obtain ⟨a0, a1, a2, a3, -, -, -, -⟩ := ra.four
    clear ra rr r_p0_0 r_p0_1 n_p0_0 n_p0_1 d_p0_0_p0_1
    go_wp2_with fail
    refine bodyPost_ret (v := .tuple #[.agg #[.int .i32 0, .int .i32 0, .int .i32 0, .int .i32 0], .bool false]) (by simp [results, Tryz.results64, go_sem, z0, z1, z2, z3]) rfl ⟨by rw [hV.out], ?_⟩
    exact below4 hB _ _ _ _ _ sR
  · have hr0 := hid (reach4_start hz p0 p1 p2 p3)
    have hY := hid (fun X Y Z T h => unit4_yes (x := x) (y := y) (z := z) (t := t) (X := X) (Y := Y) (Z := Z) (T := T) hz h)
    have hc : (¬ x = 0) ∨ (x = 0 ∧ ¬ y = 0) ∨ (x = 0 ∧ y = 0 ∧ ¬ z = 0) ∨ (x = 0 ∧ y = 0 ∧ z = 0 ∧ ¬ t = 0) := by omega
    clear hz p0 p1 p2 p3
    replace hc := hid hc
    go_enter Tryz.func64, Tryz.ntmps64
    go_upto_region 0 with (fail)
    apply wp_region_seg0 (w := w) (S := [.al 1000, .al 1000, .q []]) (E := [.al ((fun p => .pointer (some ⟨p, 0, none⟩)), _) 1000, .al ((fun p => .pointer (some ⟨p, 0, none⟩)), _) 1000, .q0 _]) rfl (by kernel_rfl) rfl rfl
    intro th hge hne
    refine Seg.step _ rfl ⟨by rfl, fun U hU => ?_⟩ ?_
    · go_simp; exact vp_alloc rfl rfl rfl
    refine Seg.sa ?_
    refine Seg.step _ rfl ⟨by rfl, fun U hU => ?_⟩ ?_
    · go_simp; exact vp_alloc rfl rfl rfl
    refine Seg.sa ?_
    refine Seg.sq ?_
    refine Seg.stop (fun U1 hU hk => ?_)
    have nb0 := hge 0 _ _ rfl
    have rb0 := (hk 0 _ _ rfl trivial).1.2 (by simp)
    have nb1 := hge 1 _ _ rfl
    have rb1 := (hk 1 _ _ rfl trivial).1.2 (by simp)
    have ne0_1 := hne 0 1 _ _ _ _ rfl rfl (by omega)
    clear hk hge hne
    generalize th (0 + 0) = p0_0 at *
    dsimp only at rb0
    generalize th (0 + 1) = p0_1 at *
    dsimp only at rb1
    have r_p0_0 := rb0
    clear rb0
    have n_p0_0 := nb0
    clear nb0
    have d_p0_0_p0_1 := ne0_1
    clear ne0_1
    have r_p0_1 := rb1
    clear rb1
    have n_p0_1 := nb1
    clear nb1
    have sz1 := hU.size
    have hB : Below w.heap.size w U1 := hU
    clear hU
    go_upto_region 1 with (fail)
    apply wp_region_seg0 (w := U1) (S := [.q [], .q [], .q []]) (E := [.q0 _, .q0 _, .q0 (.bool false)]) rfl (by kernel_rfl) rfl rfl
    intro th hge hne
    refine Seg.sq ?_ (ht := Or.inl ⟨by rfl, fun U hU => vp_quiet (by (have h0 := held_cell (held_after hU.1 r_p0_0) 0 _ rfl; have h1 := held_cell (held_after hU.1 r_p0_0) 1 _ rfl; have h2 := held_cell (held_after hU.1 r_p0_0) 2 _ rfl; have h3 := held_cell (held_after hU.1 r_p0_0) 3 _ rfl; go_simp <;> exact rfl))⟩)
    refine Seg.sq ?_
    refine Seg.step _ rfl ?_ ?_
    · refine Or.inl ⟨by rfl, fun U hU => vp_quiet ?_⟩
      go_simp
      have hc2 := hc.out
      rcases hc2 with c | ⟨c0, c⟩ | ⟨c0, c1, c⟩ | ⟨c0, c1, c2, c⟩
      · rw [if_neg c]; rfl
      · rw [if_pos c0, if_neg c]; rfl
      · rw [if_pos c0, if_pos c1, if_neg c]; rfl
      · rw [if_pos c0, if_pos c1, if_pos c2, if_neg c]; rfl
    refine Seg.sa ?_
    refine Seg.stop (fun U2 hU hk => ?_)
    clear hk hge hne
    replace r_p0_0 := held_after hU r_p0_0
    replace r_p0_1 := held_after hU r_p0_1
    have sz2 := hU.size
    replace hB := bthen hB hU
    clear hU
    go_upto_region 3 with (fail)
    apply wp_region_seg0 (w := U2) (S := [.q [], .q [], .q [], .q [], .q [], .q [], .q [], .q [], .al 1000, .q [8]]) (E := [.q0 _, .q0 _, .q0 _, .q0 _, .q0 _, .q0 _, .q0 _, .q0 _, .al ((fun p => .slice (some ⟨p, 0, none⟩) 4 4), _) 1000, .q1 8 (fun p => .slice (some ⟨p, 0, none⟩) 4 4)]) rfl (by kernel_rfl) rfl rfl
    intro th hge hne
    refine Seg.sq ?_
    refine Seg.sq ?_ (ht := Or.inl ⟨by rfl, fun U hU => vp_quiet (by (have h0 := held_cell (held_after hU.1 r_p0_0) 0 _ rfl; go_simp <;> exact rfl))⟩)
    refine Seg.sq ?_
    refine Seg.sq ?_ (ht := Or.inl ⟨by rfl, fun U hU => vp_quiet (by (have h0 := held_cell (held_after hU.1 r_p0_0) 1 _ rfl; go_simp <;> exact rfl))⟩)
    refine Seg.sq ?_
    refine Seg.sq ?_ (ht := Or.inl ⟨by rfl, fun U hU => vp_quiet (by (have h0 := held_cell (held_after hU.1 r_p0_0) 2 _ rfl; go_simp <;> exact rfl))⟩)
    refine Seg.sq ?_
    refine Seg.sq ?_ (ht := Or.inl ⟨by rfl, fun U hU => vp_quiet (by (have h0 := held_cell (held_after hU.1 r_p0_0) 3 _ rfl; go_simp <;> exact rfl))⟩)
    refine Seg.step _ rfl ⟨by rfl, fun U hU => ?_⟩ ?_
    · go_simp; exact vp_alloc rfl rfl rfl
    refine Seg.sa ?_
    refine Seg.sq ?_
    refine Seg.stop (fun U3 hU hk => ?_)
    have nb8 := hge 8 _ _ rfl
    have rb8 := (hk 8 _ _ rfl trivial).1.2 (by simp)
    clear hk hge hne
    generalize th (0 + 8) = p3_8 at *
    dsimp only at rb8
    have df_p0_0_p3_8 : p0_0 ≠ p3_8 := by have := held_lt r_p0_0; omega
    have df_p0_1_p3_8 : p0_1 ≠ p3_8 := by have := held_lt r_p0_1; omega
    replace r_p0_0 := held_after hU r_p0_0
    replace r_p0_1 := held_after hU r_p0_1
    have r_p3_8 := rb8
    clear rb8
    have n_p3_8 := nb8
    clear nb8
    have sz3 := hU.size
    replace hB := bthen hB hU
    clear hU
    have rp : Row .i32 21 U3 p3_8 [_, _, _, _] := r_p3_8
    have rr : Row .i32 23 U3 p0_1 [0, 0, 0, 0] := r_p0_1
    have sR : w.heap.size ≤ p0_1 := n_p0_1
    have sP : w.heap.size ≤ p3_8 := by omega
    have dd : p0_1 ≠ p3_8 := df_p0_1_p3_8
    clear r_p3_8 r_p0_1 r_p0_0 n_p0_1 n_p0_0 n_p3_8 df_p0_1_p3_8 df_p0_0_p3_8 d_p0_0_p0_1 sz1 sz2 sz3 hc
    go_wp2_with fail
    go_loopw [5] (fun _ wr => ∃ X Y Z T : Int, Row .i32 21 wr p3_8 [X, Y, Z, T] ∧ Row .i32 23 wr p0_1 [0, 0, 0, 0] ∧ Reach4 _ _ _ _ X Y Z T ∧ Below w.heap.size w wr) (fun _ wr => room4 wr p3_8)
    case atStart => exact ⟨_, _, _, _, rp, rr, hr0.out, hB⟩
    case round =>
      clear rp rr hB
      obtain ⟨X, Y, Z, T, rp, rr, hre, hB⟩ := hrel
      obtain ⟨a0, a1, a2, a3, f0, f1, f2, f3⟩ := rp.four
      by_cases hf : far4 X Y Z T = true
      · have hV := hid (hY.out X Y Z T (reach4_done hre hf))
        obtain ⟨hX, hYY, hZ, hT⟩ := reach4_b hre
        have hwf := hid (wf4 hX hYY hZ hT)
        have hLl := length4_lt X Y Z T
        obtain ⟨L, hL⟩ : ∃ L, lengthS [X, Y, Z, T] = L := ⟨_, rfl⟩
        rw [hL] at hLl hV
        replace hL := hid hL
        have hw4 : (farP X = true) ∨ (farP X = false ∧ farP Y = true) ∨ (farP X = false ∧ farP Y = false ∧ farP Z = true) ∨ (farP X = false ∧ farP Y = false ∧ farP Z = false ∧ farP T = true) := by
          unfold far4 at hf
          cases h1 : farP X <;> cases h2 : farP Y <;> cases h3 : farP Z <;> cases h4 : farP T <;> simp_all
        have uX := up_bd hX
        have oX := hid (fun (v : World) => rover_any (1073741824 * X) L v (by omega) (by omega) (by omega) (by omega))
        have uY := up_bd hYY
        have oY := hid (fun (v : World) => rover_any (1073741824 * Y) L v (by omega) (by omega) (by omega) (by omega))
        have uZ := up_bd hZ
        have oZ := hid (fun (v : World) => rover_any (1073741824 * Z) L v (by omega) (by omega) (by omega) (by omega))
        have uT := up_bd hT
        have oT := hid (fun (v : World) => rover_any (1073741824 * T) L v (by omega) (by omega) (by omega) (by omega))
        unfold unitN at hV
        clear hre hf hY hr0
        rcases hw4 with e0 | ⟨e0, e1⟩ | ⟨e0, e1, e2⟩ | ⟨e0, e1, e2, e3⟩
        case' inl =>
          go_upto_region 4 with (fail)
          apply wp_region_seg0 (w := wr) (S := [.q [], .q [], .q [], .q [], .q [], .q [], .q [], .q [], .q [], .q [], .q [], .q [], .q [], .q [], .q [], .q [], .q [], .q [], .q [], .q [], .q [], .q [], .q [], .q [], .q [], .q []]) (E := [.q0 _, .q0 _, .q0 _, .c0 _, .q0 _, .q0 _, .q0 _, .q0 _, .q0 _, .c0 _, .q0 _, .q0 _, .q0 _, .q0 _, .q0 _, .q0 _, .c0 _, .q0 _, .q0 _, .q0 _, .q0 _, .q0 _, .q0 _, .c0 _, .q0 _, .q0 _]) rfl (by kernel_rfl) rfl rfl
          intro th hge hne
          refine Seg.sq ?_
          refine Seg.sq ?_
          refine Seg.sq ?_ (ht := Or.inl ⟨by rfl, fun U hU => vp_quiet (by (have h0 := hU.1.cellB a0; go_simp <;> exact rfl))⟩)
          refine Seg.step _ rfl (Or.inl ⟨by rfl, fun U hU => ?_⟩) ?_
          · go_simp
            refine vp_calls (e0 ▸ rfar11_any X _)
          refine Seg.sa ?_
          refine Seg.sq ?_
          refine Seg.sq ?_
          refine Seg.sq ?_ (ht := Or.inr ⟨by rfl, rfl⟩)
          refine Seg.sq ?_ (ht := Or.inr ⟨by rfl, rfl⟩)
          refine Seg.sq ?_ (ht := Or.inr ⟨by rfl, rfl⟩)
          refine Seg.sq ?_ (ht := Or.inr ⟨by rfl, rfl⟩)
          refine Seg.sq ?_ (ht := Or.inr ⟨by rfl, rfl⟩)
          refine Seg.sq ?_
          refine Seg.sq ?_
          refine Seg.sq ?_ (ht := Or.inr ⟨by rfl, rfl⟩)
          refine Seg.sq ?_ (ht := Or.inr ⟨by rfl, rfl⟩)
          refine Seg.sq ?_ (ht := Or.inr ⟨by rfl, rfl⟩)
          refine Seg.sq ?_ (ht := Or.inr ⟨by rfl, rfl⟩)
          refine Seg.sq ?_ (ht := Or.inr ⟨by rfl, rfl⟩)
          refine Seg.sq ?_
          refine Seg.sq ?_
          refine Seg.sq ?_ (ht := Or.inr ⟨by rfl, rfl⟩)
          refine Seg.sq ?_ (ht := Or.inr ⟨by rfl, rfl⟩)
          refine Seg.sq ?_ (ht := Or.inr ⟨by rfl, rfl⟩)
          refine Seg.sq ?_ (ht := Or.inr ⟨by rfl, rfl⟩)
          refine Seg.sq ?_ (ht := Or.inr ⟨by rfl, rfl⟩)
          refine Seg.sq ?_
          refine Seg.stop (fun U4 hU hk => ?_)
          clear hk hge hne
          replace rp := rp.below hU
          replace rr := rr.below hU
          have sz4 := hU.size
          replace hB := bthen hB hU
          clear hU
          clear e0
          go_upto_region 9 with (fail)
        case' inr.inl =>
          go_upto_region 4 with (fail)
          apply wp_region_seg0 (w := wr) (S := [.q [], .q [], .q [], .q [], .q [], .q [], .q [], .q [], .q [], .q [], .q [], .q [], .q [], .q [], .q [], .q [], .q [], .q [], .q [], .q [], .q [], .q [], .q [], .q [], .q [], .q []]) (E := [.q0 _, .q0 _, .q0 _, .c0 _, .q0 _, .q0 _, .q0 _, .q0 _, .q0 _, .c0 _, .q0 _, .q0 _, .q0 _, .q0 _, .q0 _, .q0 _, .c0 _, .q0 _, .q0 _, .q0 _, .q0 _, .q0 _, .q0 _, .c0 _, .q0 _, .q0 _]) rfl (by kernel_rfl) rfl rfl
          intro th hge hne
          refine Seg.sq ?_
          refine Seg.sq ?_
          refine Seg.sq ?_ (ht := Or.inl ⟨by rfl, fun U hU => vp_quiet (by (have h0 := hU.1.cellB a0; go_simp <;> exact rfl))⟩)
          refine Seg.step _ rfl (Or.inl ⟨by rfl, fun U hU => ?_⟩) ?_
          · go_simp
            refine vp_calls (e0 ▸ rfar11_any X _)
          refine Seg.sa ?_
          iterate 4 refine Seg.sq ?_
          refine Seg.sq ?_ (ht := Or.inl ⟨by rfl, fun U hU => vp_quiet (by (have h0 := hU.1.cellB a1; go_simp <;> exact rfl))⟩)
          refine Seg.step _ rfl (Or.inl ⟨by rfl, fun U hU => ?_⟩) ?_
          · go_simp
            refine vp_calls (e1 ▸ rfar11_any Y _)
          refine Seg.sa ?_
          iterate 3 refine Seg.sq ?_
          refine Seg.sq ?_ (ht := Or.inr ⟨by rfl, rfl⟩)
          refine Seg.sq ?_ (ht := Or.inr ⟨by rfl, rfl⟩)
          refine Seg.sq ?_ (ht := Or.inr ⟨by rfl, rfl⟩)
          refine Seg.sq ?_ (ht := Or.inr ⟨by rfl, rfl⟩)
          refine Seg.sq ?_ (ht := Or.inr ⟨by rfl, rfl⟩)
          refine Seg.sq ?_
          refine Seg.sq ?_
          refine Seg.sq ?_ (ht := Or.inr ⟨by rfl, rfl⟩)
          refine Seg.sq ?_ (ht := Or.inr ⟨by rfl, rfl⟩)
          refine Seg.sq ?_ (ht := Or.inr ⟨by rfl, rfl⟩)
          refine Seg.sq ?_ (ht := Or.inr ⟨by rfl, rfl⟩)
          refine Seg.sq ?_ (ht := Or.inr ⟨by rfl, rfl⟩)
          refine Seg.sq ?_
          refine Seg.stop (fun U4 hU hk => ?_)
          clear hk hge hne
          replace rp := rp.below hU
          replace rr := rr.below hU
          have sz4 := hU.size
          replace hB := bthen hB hU
          clear hU
          clear e0 e1
          go_upto_region 9 with (fail)
        case' inr.inr.inl =>
          go_upto_region 4 with (fail)
          apply wp_region_seg0 (w := wr) (S := [.q [], .q [], .q [], .q [], .q [], .q [], .q [], .q [], .q [], .q [], .q [], .q [], .q [], .q [], .q [], .q [], .q [], .q [], .q [], .q [], .q [], .q [], .q [], .q [], .q [], .q []]) (E := [.q0 _, .q0 _, .q0 _, .c0 _, .q0 _, .q0 _, .q0 _, .q0 _, .q0 _, .c0 _, .q0 _, .q0 _, .q0 _, .q0 _, .q0 _, .q0 _, .c0 _, .q0 _, .q0 _, .q0 _, .q0 _, .q0 _, .q0 _, .c0 _, .q0 _, .q0 _]) rfl (by kernel_rfl) rfl rfl
          intro th hge hne
          refine Seg.sq ?_
          refine Seg.sq ?_
          refine Seg.sq ?_ (ht := Or.inl ⟨by rfl, fun U hU => vp_quiet (by (have h0 := hU.1.cellB a0; go_simp <;> exact rfl))⟩)
          refine Seg.step _ rfl (Or.inl ⟨by rfl, fun U hU => ?_⟩) ?_
          · go_simp
            refine vp_calls (e0 ▸ rfar11_any X _)
          refine Seg.sa ?_
          iterate 4 refine Seg.sq ?_
          refine Seg.sq ?_ (ht := Or.inl ⟨by rfl, fun U hU => vp_quiet (by (have h0 := hU.1.cellB a1; go_simp <;> exact rfl))⟩)
          refine Seg.step _ rfl (Or.inl ⟨by rfl, fun U hU => ?_⟩) ?_
          · go_simp
            refine vp_calls (e1 ▸ rfar11_any Y _)
          refine Seg.sa ?_
          iterate 5 refine Seg.sq ?_
          refine Seg.sq ?_ (ht := Or.inl ⟨by rfl, fun U hU => vp_quiet (by (have h0 := hU.1.cellB a2; go_simp <;> exact rfl))⟩)
          refine Seg.step _ rfl (Or.inl ⟨by rfl, fun U hU => ?_⟩) ?_
          · go_simp
            refine vp_calls (e2 ▸ rfar11_any Z _)
          refine Seg.sa ?_
          iterate 3 refine Seg.sq ?_
          refine Seg.sq ?_ (ht := Or.inr ⟨by rfl, rfl⟩)
          refine Seg.sq ?_ (ht := Or.inr ⟨by rfl, rfl⟩)
          refine Seg.sq ?_ (ht := Or.inr ⟨by rfl, rfl⟩)
          refine Seg.sq ?_ (ht := Or.inr ⟨by rfl, rfl⟩)
          refine Seg.sq ?_ (ht := Or.inr ⟨by rfl, rfl⟩)
          refine Seg.sq ?_
          refine Seg.stop (fun U4 hU hk => ?_)
          clear hk hge hne
          replace rp := rp.below hU
          replace rr := rr.below hU
          have sz4 := hU.size
          replace hB := bthen hB hU
          clear hU
          clear e0 e1 e2
          go_upto_region 9 with (fail)
        case' inr.inr.inr =>
          go_upto_region 4 with (fail)
          apply wp_region_seg0 (w := wr) (S := [.q [], .q [], .q [], .q [], .q [], .q [], .q [], .q [], .q [], .q [], .q [], .q [], .q [], .q [], .q [], .q [], .q [], .q [], .q [], .q [], .q [], .q [], .q [], .q [], .q [], .q []]) (E := [.q0 _, .q0 _, .q0 _, .c0 _, .q0 _, .q0 _, .q0 _, .q0 _, .q0 _, .c0 _, .q0 _, .q0 _, .q0 _, .q0 _, .q0 _, .q0 _, .c0 _, .q0 _, .q0 _, .q0 _, .q0 _, .q0 _, .q0 _, .c0 _, .q0 _, .q0 _]) rfl (by kernel_rfl) rfl rfl
          intro th hge hne
          refine Seg.sq ?_
          refine Seg.sq ?_
          refine Seg.sq ?_ (ht := Or.inl ⟨by rfl, fun U hU => vp_quiet (by (have h0 := hU.1.cellB a0; go_simp <;> exact rfl))⟩)
          refine Seg.step _ rfl (Or.inl ⟨by rfl, fun U hU => ?_⟩) ?_
          · go_simp
            refine vp_calls (e0 ▸ rfar11_any X _)
          refine Seg.sa ?_
          iterate 4 refine Seg.sq ?_
          refine Seg.sq ?_ (ht := Or.inl ⟨by rfl, fun U hU => vp_quiet (by (have h0 := hU.1.cellB a1; go_simp <;> exact rfl))⟩)
          refine Seg.step _ rfl (Or.inl ⟨by rfl, fun U hU => ?_⟩) ?_
          · go_simp
            refine vp_calls (e1 ▸ rfar11_any Y _)
          refine Seg.sa ?_
          iterate 5 refine Seg.sq ?_
          refine Seg.sq ?_ (ht := Or.inl ⟨by rfl, fun U hU => vp_quiet (by (have h0 := hU.1.cellB a2; go_simp <;> exact rfl))⟩)
          refine Seg.step _ rfl (Or.inl ⟨by rfl, fun U hU => ?_⟩) ?_
          · go_simp
            refine vp_calls (e2 ▸ rfar11_any Z _)
          refine Seg.sa ?_
          iterate 5 refine Seg.sq ?_
          refine Seg.sq ?_ (ht := Or.inl ⟨by rfl, fun U hU => vp_quiet (by (have h0 := hU.1.cellB a3; go_simp <;> exact rfl))⟩)
          refine Seg.step _ rfl (Or.inl ⟨by rfl, fun U hU => ?_⟩) ?_
          · go_simp
            refine vp_calls (e3 ▸ rfar11_any T _)
          refine Seg.sa ?_
          refine Seg.sq ?_
          refine Seg.sq ?_
          refine Seg.stop (fun U4 hU hk => ?_)
          clear hk hge hne
          replace rp := rp.below hU
          replace rr := rr.below hU
          have sz4 := hU.size
          replace hB := bthen hB hU
          clear hU
          clear e0 e1 e2 e3
          go_upto_region 9 with (fail)
        all_goals
          go_wp2_with fail
          refine (rlength_any (some ⟨p3_8, 0, none⟩) 4 [X, Y, Z, T] _ (by simp) (rp.sl (by unfold maxLen; simp)).2.2.2.2 hwf.out).mono ?_
          rintro e v ⟨rfl, mm, rfl⟩
          rw [hL.out]
          replace rp := rp.drewN mm
          replace rr := rr.drewN mm
          replace hB := bdrewN hB mm
          clear a0 a1 a2 a3 f0 f1 f2 f3 hwf hL
          go_wp2_with fail
          go_loopw [7] (fun ix wr => ∃ k : Nat, k ≤ 4 ∧ ix = .int .i64 k ∧ Row .i32 21 wr p3_8 (upto4 (wrap32 (overS (1073741824 * X) L)) (wrap32 (overS (1073741824 * Y) L)) (wrap32 (overS (1073741824 * Z) L)) (wrap32 (overS (1073741824 * T) L)) X Y Z T k) ∧ Row .i32 23 wr p0_1 [0, 0, 0, 0] ∧ Below w.heap.size w wr) (fun ix _ => 4 - (intOf ix).toNat)
          case atStart => exact ⟨0, by omega, rfl, rp, rr, hB⟩
          case round =>
            clear rp rr hB
            obtain ⟨k, hk, rfl, rp, rr, hB⟩ := hrel
            by_cases hlt : (k : Int) < 4
            · have hlt2 : k < 4 := by omega
              have hov : Go.RowKit.Hid (∀ v : World, Calls Tryz.prog 53 #[.int .i64 (1073741824 * sel4 k X Y Z T), .int .i64 L] v fun e w' => e = .returned (.int .i64 (overS (1073741824 * sel4 k X Y Z T) L)) ∧ w' = v) := by
                obtain rfl | rfl | rfl | rfl : k = 0 ∨ k = 1 ∨ k = 2 ∨ k = 3 := by omega
                · exact oX
                · exact oY
                · exact oZ
                · exact oT
              have hvs := upto4_set (wrap32 (overS (1073741824 * X) L)) (wrap32 (overS (1073741824 * Y) L)) (wrap32 (overS (1073741824 * Z) L)) (wrap32 (overS (1073741824 * T) L)) X Y Z T k hlt2
              rw [sel4_map (fun v => wrap32 (overS (1073741824 * v) L))] at hvs
              have cc := rp.cellAt k (show k < 4 by omega)
              rw [upto4_get _ _ _ _ _ _ _ _ _ hlt2] at cc
              have cf := rp.free k
              obtain ⟨s1, s2⟩ := sel4_b k hX hYY hZ hT
              have rp2 := rp.set k (wrap32 (overS (1073741824 * sel4 k X Y Z T) L))
              rw [hvs] at rp2
              have rr2 := rr.oth1 (g' := p3_8) (j := k) dd (.int .i32 (wrap32 (overS (1073741824 * sel4 k X Y Z T) L)))
              have hB2 := hB.setCell (p := ⟨p3_8, k, none⟩) sP (.int .i32 (wrap32 (overS (1073741824 * sel4 k X Y Z T) L)))
              replace rp2 := hid rp2
              replace rr2 := hid rr2
              replace hV := hid hV
              clear rp rr hvs
              generalize sel4 k X Y Z T = SK at *
              generalize overS (1073741824 * SK) L = OK at *
              go_wp2_with fail
              refine (hov.out _).mono ?_
              rintro e v ⟨rfl, rfl⟩
              go_wp2_with fail
              go_roundw
              case rel => exact ⟨k + 1, by omega, by simp, rp2.out, rr2.out, hB2⟩
              case measure => simp [intOf]; omega
            · obtain rfl : k = 4 := by omega
              have rp : Row .i32 21 wr p3_8 [wrap32 (overS (1073741824 * X) L), wrap32 (overS (1073741824 * Y) L), wrap32 (overS (1073741824 * Z) L), wrap32 (overS (1073741824 * T) L)] := rp
              obtain ⟨a0, a1, a2, a3, -, -, -, -⟩ := rp.four
              obtain ⟨z0, z1, z2, z3, h0, h1, h2, h3⟩ := rr.four
              clear rp rr oX oY oZ oT
              replace hV := hid hV
              generalize wrap32 (overS (1073741824 * X) L) = qX at *
              generalize wrap32 (overS (1073741824 * Y) L) = qY at *
              generalize wrap32 (overS (1073741824 * Z) L) = qZ at *
              generalize wrap32 (overS (1073741824 * T) L) = qT at *
              go_upto_region 14 with (fail)
              apply wp_region_part (w := wr) (S := [.q [], .q [], .q [], .q [], .q [], .q [], .q [], .q [], .q [], .q [], .q [], .q [], .q []]) (E := [.q0 _, .q0 _, .q0 _, .q0 _, .q0 _, .q0 _, .q0 _, .q0 _, .q0 _, .q0 _, .q0 _, .q0 _, .q0 _]) 13 2 (by kernel_rfl) rfl (by kernel_rfl) rfl rfl rfl
              intro th hge hne
              refine Seg.sq ?_
              refine Seg.sq ?_
              refine Seg.sq ?_ (ht := Or.inl ⟨by rfl, fun U hU => vp_quiet (by (have h0 := hU.1.cellB a0; go_simp <;> exact rfl))⟩)
              refine Seg.sq ?_
              refine Seg.sq ?_
              refine Seg.sq ?_ (ht := Or.inl ⟨by rfl, fun U hU => vp_quiet (by (have h0 := hU.1.cellB a1; go_simp <;> exact rfl))⟩)
              refine Seg.sq ?_
              refine Seg.sq ?_
              refine Seg.sq ?_ (ht := Or.inl ⟨by rfl, fun U hU => vp_quiet (by (have h0 := hU.1.cellB a2; go_simp <;> exact rfl))⟩)
              refine Seg.sq ?_
              refine Seg.sq ?_
              refine Seg.sq ?_ (ht := Or.inl ⟨by rfl, fun U hU => vp_quiet (by (have h0 := hU.1.cellB a3; go_simp <;> exact rfl))⟩)
              refine Seg.sq ?_
              refine Seg.stop (fun U31 hU hk => ?_)
              clear hk hge hne
              have sz31 := hU.size
              replace hB := bthen hB hU
              replace h0 := After.frozenB hU z0 h0
              replace z0 := hU.cellB z0
              replace h1 := After.frozenB hU z1 h1
              replace z1 := hU.cellB z1
              replace h2 := After.frozenB hU z2 h2
              replace z2 := hU.cellB z2
              replace h3 := After.frozenB hU z3 h3
              replace z3 := hU.cellB z3
              clear hU a0 a1 a2 a3
              refine Seg.only (m := 13) (k := 1) rfl (by kernel_rfl) (by rfl) (fun K hK => ?_)
              go_simp
              refine hK _ _ ?_
              clear hK
              refine Seg.only (m := 14) (k := 0) rfl (by kernel_rfl) (by rfl) (fun K hK => ?_)
              go_simp
              refine hK _ _ (Seg.finish ?_ _)
              clear hK
              go_wp2_with fail
              refine bodyPost_ret (v := .tuple #[.agg #[.int .i32 qX, .int .i32 qY, .int .i32 qZ, .int .i32 qT], .bool true]) (by simp [results, Tryz.results64, go_sem, z0, z1, z2, z3]) rfl ⟨by rw [hV.out], ?_⟩
              exact below4 hB _ _ _ _ _ sR
      · have hf0 : far4 X Y Z T = false := by simpa using hf
        obtain ⟨m1, m2, m3, m4, m5, m6, m7, m8⟩ := near4 hf0
        have hmore := hid (reach4_more hre hf0)
        have hsum := reach4_sum hre
        have hroom := hid (room4_of rp)
        have e0 := farP_no (n := X) (by omega) (by omega)
        have e1 := farP_no (n := Y) (by omega) (by omega)
        have e2 := farP_no (n := Z) (by omega) (by omega)
        have e3 := farP_no (n := T) (by omega) (by omega)
        clear hre hf hf0 hr0 hY
        go_upto_region 4 with (fail)
        apply wp_region_seg0 (w := wr) (S := [.q [], .q [], .q [], .q [], .q [], .q [], .q [], .q [], .q [], .q [], .q [], .q [], .q [], .q [], .q [], .q [], .q [], .q [], .q [], .q [], .q [], .q [], .q [], .q [], .q [], .q []]) (E := [.q0 _, .q0 _, .q0 _, .c0 _, .q0 _, .q0 _, .q0 _, .q0 _, .q0 _, .c0 _, .q0 _, .q0 _, .q0 _, .q0 _, .q0 _, .q0 _, .c0 _, .q0 _, .q0 _, .q0 _, .q0 _, .q0 _, .q0 _, .c0 _, .q0 _, .q0 _]) rfl (by kernel_rfl) rfl rfl
        intro th hge hne
        refine Seg.sq ?_
        refine Seg.sq ?_
        refine Seg.sq ?_ (ht := Or.inl ⟨by rfl, fun U hU => vp_quiet (by (have h0 := hU.1.cellB a0; go_simp <;> exact rfl))⟩)
        refine Seg.step _ rfl (Or.inl ⟨by rfl, fun U hU => ?_⟩) ?_
        · go_simp
          refine vp_calls (e0 ▸ rfar11_any X _)
        refine Seg.sa ?_
        iterate 4 refine Seg.sq ?_
        refine Seg.sq ?_ (ht := Or.inl ⟨by rfl, fun U hU => vp_quiet (by (have h0 := hU.1.cellB a1; go_simp <;> exact rfl))⟩)
        refine Seg.step _ rfl (Or.inl ⟨by rfl, fun U hU => ?_⟩) ?_
        · go_simp
          refine vp_calls (e1 ▸ rfar11_any Y _)
        refine Seg.sa ?_
        iterate 5 refine Seg.sq ?_
        refine Seg.sq ?_ (ht := Or.inl ⟨by rfl, fun U hU => vp_quiet (by (have h0 := hU.1.cellB a2; go_simp <;> exact rfl))⟩)
        refine Seg.step _ rfl (Or.inl ⟨by rfl, fun U hU => ?_⟩) ?_
        · go_simp
          refine vp_calls (e2 ▸ rfar11_any Z _)
        refine Seg.sa ?_
        iterate 5 refine Seg.sq ?_
        refine Seg.sq ?_ (ht := Or.inl ⟨by rfl, fun U hU => vp_quiet (by (have h0 := hU.1.cellB a3; go_simp <;> exact rfl))⟩)
        refine Seg.step _ rfl (Or.inl ⟨by rfl, fun U hU => ?_⟩) ?_
        · go_simp
          refine vp_calls (e3 ▸ rfar11_any T _)
        refine Seg.sa ?_
        refine Seg.sq ?_
        refine Seg.sq ?_
        refine Seg.stop (fun U41 hU hk => ?_)
        clear hk hge hne
        replace rp := rp.below hU
        replace rr := rr.below hU
        have sz41 := hU.size
        replace hB := bthen hB hU
        clear hU
        clear e0 e1 e2 e3 a0 a1 a2 a3 f0 f1 f2 f3
        obtain ⟨a0, a1, a2, a3, f0, f1, f2, f3⟩ := rp.four
        replace rp := hid rp
        replace rr := hid rr
        go_wp2_with fail
        go_rounds 5
        have rp := Row.set4 rp.out (2 * X) (2 * Y) (2 * Z) (2 * T)
        have rr := Row.oth4 (g' := p3_8) rr.out dd (.int .i32 (2 * X)) (.int .i32 (2 * Y)) (.int .i32 (2 * Z)) (.int .i32 (2 * T))
        have hB := below4 hB p3_8 (.int .i32 (2 * X)) (.int .i32 (2 * Y)) (.int .i32 (2 * Z)) (.int .i32 (2 * T)) sP
        go_roundw
        case rel => exact ⟨2 * X, 2 * Y, 2 * Z, 2 * T, rp, rr, hmore.out, hB⟩
        case measure => rw [hroom.out, room4_of rp]; omega


end Go.Proofs.YtpdpcdifnlellaaGreat
