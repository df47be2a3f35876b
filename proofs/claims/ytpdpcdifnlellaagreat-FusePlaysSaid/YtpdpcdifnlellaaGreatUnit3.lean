/- Package unit: Make. -/
import Derived.Test.YtpdpcdifnlellaaGreatUnit2
namespace Go.Proofs.YtpdpcdifnlellaaGreat
open Go.ChangeShapes Go.WideShapes Go.ChangeAt Go.RowKit
set_option maxRecDepth 100000
set_option linter.unusedVariables false

theorem index4_any (x y z t : Int) (k : Nat) (w : World) (hk : k < 4) : (Instr.index 94 (.agg #[.int .i32 x, .int .i32 y, .int .i32 z, .int .i32 t]) (.int .i64 k)).run Tryz.prog w = .ok (.int .i32 (sel4 k x y z t)) w := by
  obtain rfl | rfl | rfl | rfl : k = 0 ∨ k = 1 ∨ k = 2 ∨ k = 3 := by omega
  all_goals rfl
set_option maxRecDepth 100000 in
set_option maxHeartbeats 8000000 in
theorem umake_any (x y z t : Int) (w : World) (p0 : B32 x) (p1 : B32 y) (p2 : B32 z) (p3 : B32 t) :
    Calls Tryz.prog 86 #[.agg #[.int .i32 x, .int .i32 y, .int .i32 z, .int .i32 t]] w fun e w' => e = .returned (unitT4 x y z t) ∧ Below w.heap.size w w' := by
  by_cases hz : x = 0 ∧ y = 0 ∧ z = 0 ∧ t = 0
  · have hV := hid (unit4_no hz)
    obtain ⟨rfl, rfl, rfl, rfl⟩ := hz
    clear p0 p1 p2 p3
    go_enter Tryz.func86, Tryz.ntmps86
    go_upto_region 0 with (fail)
    apply wp_region_seg0 (w := w) (S := [.al 1000, .al 1000, .q []]) (E := [.al ((fun p => .pointer (some ⟨p, 0, none⟩)), _) 1000, .al ((fun p => .pointer (some ⟨p, 0, none⟩)), _) 1000, .q0 _]) rfl (by kernel_rfl) rfl rfl
    intro th hge hne
    refine Seg.step _ rfl ⟨by rfl, fun U hU => ?_⟩ ?_
    · go_simp; exact vp_alloc rfl rfl rfl
    refine Seg.sa ?_
    refine Seg.step _ rfl ⟨by rfl, fun U hU => ?_⟩ ?_
    · go_simp; exact vp_alloc rfl rfl rfl
    refine Seg.sa ?_
    refine Seg.sq ?_
    refine Seg.stop (fun U1 hU hk => ?_)
    have nb0 := hge 0 _ _ rfl
    have rb0 := (hk 0 _ _ rfl trivial).1.2 (by simp)
    have nb1 := hge 1 _ _ rfl
    have rb1 := (hk 1 _ _ rfl trivial).1.2 (by simp)
    have ne0_1 := hne 0 1 _ _ _ _ rfl rfl (by omega)
    clear hk hge hne
    generalize th (0 + 0) = p0_0 at *
    dsimp only at rb0
    generalize th (0 + 1) = p0_1 at *
    dsimp only at rb1
    have r_p0_0 := rb0
    clear rb0
    have n_p0_0 := nb0
    clear nb0
    have d_p0_0_p0_1 := ne0_1
    clear ne0_1
    have r_p0_1 := rb1
    clear rb1
    have n_p0_1 := nb1
    clear nb1
    have sz1 := hU.size
    have hB : Below w.heap.size w U1 := hU
    clear hU
    go_upto_region 1 with (fail)
    apply wp_region_seg0 (w := U1) (S := [.q [], .q [], .q []]) (E := [.q0 _, .q0 _, .q0 _]) rfl (by kernel_rfl) rfl rfl
    intro th hge hne
    refine Seg.sq ?_ (ht := Or.inl ⟨by rfl, fun U hU => vp_quiet (by (have h0 := held_cell (held_after hU.1 r_p0_0) 0 _ rfl; have h1 := held_cell (held_after hU.1 r_p0_0) 1 _ rfl; have h2 := held_cell (held_after hU.1 r_p0_0) 2 _ rfl; have h3 := held_cell (held_after hU.1 r_p0_0) 3 _ rfl; go_simp <;> exact rfl))⟩)
    refine Seg.sq ?_
    refine Seg.sq ?_
    refine Seg.stop (fun U2 hU hk => ?_)
    clear hk hge hne
    replace r_p0_0 := held_after hU r_p0_0
    replace r_p0_1 := held_after hU r_p0_1
    have sz2 := hU.size
    replace hB := bthen hB hU
    clear hU
    go_upto_region 2 with (fail)
    have rr : Row .i32 23 U2 p0_1 [0, 0, 0, 0] := r_p0_1
    have sR : w.heap.size ≤ p0_1 := n_p0_1
    obtain ⟨z0, z1, z2, z3, h0, h1, h2, h3⟩ := rr.four
    clear rr r_p0_0 r_p0_1 n_p0_0 n_p0_1 d_p0_0_p0_1
    go_wp2_with fail
    refine bodyPost_ret (v := .tuple #[.agg #[.int .i32 0, .int .i32 0, .int .i32 0, .int .i32 0], .bool false]) (by simp [results, Tryz.results86, go_sem, z0, z1, z2, z3]) rfl ⟨by rw [hV.out], ?_⟩
    exact below4 hB _ _ _ _ _ sR
  · obtain ⟨X, Y, Z, T, hd, hf, hX, hY, hZ, hT⟩ := dbl4_end 33 x y z t (by omega) p0 p1 p2 p3 (by rw [Nat.sub_self, Nat.pow_zero]; omega)
    have hV := hid (unit4_yes hz hd)
    have k1 := hid (fun (v : World) => grown_any x y z t X Y Z T v hz p0 p1 p2 p3 hd)
    have hwf := hid (wf4 hX hY hZ hT)
    have hLl := length4_lt X Y Z T
    obtain ⟨L, hL⟩ : ∃ L, lengthS [X, Y, Z, T] = L := ⟨_, rfl⟩
    rw [hL] at hLl
    replace hL := hid hL
    have uX := up_bd hX
    have oX := hid (fun (v : World) => over_any (1073741824 * X) L v (by omega) (by omega) (by omega) (by omega))
    have uY := up_bd hY
    have oY := hid (fun (v : World) => over_any (1073741824 * Y) L v (by omega) (by omega) (by omega) (by omega))
    have uZ := up_bd hZ
    have oZ := hid (fun (v : World) => over_any (1073741824 * Z) L v (by omega) (by omega) (by omega) (by omega))
    have uT := up_bd hT
    have oT := hid (fun (v : World) => over_any (1073741824 * T) L v (by omega) (by omega) (by omega) (by omega))
    unfold unitN at hV
    have hc : (¬ x = 0) ∨ (x = 0 ∧ ¬ y = 0) ∨ (x = 0 ∧ y = 0 ∧ ¬ z = 0) ∨ (x = 0 ∧ y = 0 ∧ z = 0 ∧ ¬ t = 0) := by omega
    clear hz hd hf p0 p1 p2 p3
    replace hc := hid hc
    go_enter Tryz.func86, Tryz.ntmps86
    go_upto_region 0 with (fail)
    apply wp_region_seg0 (w := w) (S := [.al 1000, .al 1000, .q []]) (E := [.al ((fun p => .pointer (some ⟨p, 0, none⟩)), _) 1000, .al ((fun p => .pointer (some ⟨p, 0, none⟩)), _) 1000, .q0 _]) rfl (by kernel_rfl) rfl rfl
    intro th hge hne
    refine Seg.step _ rfl ⟨by rfl, fun U hU => ?_⟩ ?_
    · go_simp; exact vp_alloc rfl rfl rfl
    refine Seg.sa ?_
    refine Seg.step _ rfl ⟨by rfl, fun U hU => ?_⟩ ?_
    · go_simp; exact vp_alloc rfl rfl rfl
    refine Seg.sa ?_
    refine Seg.sq ?_
    refine Seg.stop (fun U1 hU hk => ?_)
    have nb0 := hge 0 _ _ rfl
    have rb0 := (hk 0 _ _ rfl trivial).1.2 (by simp)
    have nb1 := hge 1 _ _ rfl
    have rb1 := (hk 1 _ _ rfl trivial).1.2 (by simp)
    have ne0_1 := hne 0 1 _ _ _ _ rfl rfl (by omega)
    clear hk hge hne
    generalize th (0 + 0) = p0_0 at *
    dsimp only at rb0
    generalize th (0 + 1) = p0_1 at *
    dsimp only at rb1
    have r_p0_0 := rb0
    clear rb0
    have n_p0_0 := nb0
    clear nb0
    have d_p0_0_p0_1 := ne0_1
    clear ne0_1
    have r_p0_1 := rb1
    clear rb1
    have n_p0_1 := nb1
    clear nb1
    have sz1 := hU.size
    have hB : Below w.heap.size w U1 := hU
    clear hU
    go_upto_region 1 with (fail)
    apply wp_region_seg0 (w := U1) (S := [.q [], .q [], .q []]) (E := [.q0 _, .q0 _, .q0 (.bool false)]) rfl (by kernel_rfl) rfl rfl
    intro th hge hne
    refine Seg.sq ?_ (ht := Or.inl ⟨by rfl, fun U hU => vp_quiet (by (have h0 := held_cell (held_after hU.1 r_p0_0) 0 _ rfl; have h1 := held_cell (held_after hU.1 r_p0_0) 1 _ rfl; have h2 := held_cell (held_after hU.1 r_p0_0) 2 _ rfl; have h3 := held_cell (held_after hU.1 r_p0_0) 3 _ rfl; go_simp <;> exact rfl))⟩)
    refine Seg.sq ?_
    refine Seg.step _ rfl ?_ ?_
    · refine Or.inl ⟨by rfl, fun U hU => vp_quiet ?_⟩
      go_simp
      have hc2 := hc.out
      rcases hc2 with c | ⟨c0, c⟩ | ⟨c0, c1, c⟩ | ⟨c0, c1, c2, c⟩
      · rw [if_neg c]; rfl
      · rw [if_pos c0, if_neg c]; rfl
      · rw [if_pos c0, if_pos c1, if_neg c]; rfl
      · rw [if_pos c0, if_pos c1, if_pos c2, if_neg c]; rfl
    refine Seg.sa ?_
    refine Seg.stop (fun U2 hU hk => ?_)
    clear hk hge hne
    replace r_p0_0 := held_after hU r_p0_0
    replace r_p0_1 := held_after hU r_p0_1
    have sz2 := hU.size
    replace hB := bthen hB hU
    clear hU
    go_upto_region 3 with (fail)
    apply wp_region_seg0 (w := U2) (S := [.q [], .q [], .q [], .q [], .q [], .q [], .q [], .q [], .q [], .q [], .al 11, .st 10 []]) (E := [.q0 _, .q0 _, .q0 _, .q0 _, .q0 _, .q0 _, .q0 _, .q0 _, .q0 _, .c0 _, .al ((fun p => .pointer (some ⟨p, 0, none⟩)), _) 11, .s0 10 (.cells _ _)]) rfl (by kernel_rfl) rfl rfl
    intro th hge hne
    refine Seg.sq ?_
    refine Seg.sq ?_ (ht := Or.inl ⟨by rfl, fun U hU => vp_quiet (by (have h0 := held_cell (held_after hU.1 r_p0_0) 0 _ rfl; go_simp <;> exact rfl))⟩)
    refine Seg.sq ?_
    refine Seg.sq ?_ (ht := Or.inl ⟨by rfl, fun U hU => vp_quiet (by (have h0 := held_cell (held_after hU.1 r_p0_0) 1 _ rfl; go_simp <;> exact rfl))⟩)
    refine Seg.sq ?_
    refine Seg.sq ?_ (ht := Or.inl ⟨by rfl, fun U hU => vp_quiet (by (have h0 := held_cell (held_after hU.1 r_p0_0) 2 _ rfl; go_simp <;> exact rfl))⟩)
    refine Seg.sq ?_
    refine Seg.sq ?_ (ht := Or.inl ⟨by rfl, fun U hU => vp_quiet (by (have h0 := held_cell (held_after hU.1 r_p0_0) 3 _ rfl; go_simp <;> exact rfl))⟩)
    refine Seg.sq ?_
    refine Seg.step _ rfl (Or.inl ⟨by rfl, fun U hU => ?_⟩) ?_
    · go_simp
      refine vp_call (k1.out _)
    refine Seg.sa ?_
    refine Seg.step _ rfl ⟨by rfl, fun U hU => ?_⟩ ?_
    · go_simp; exact vp_alloc rfl rfl rfl
    refine Seg.sa ?_
    refine Seg.step _ rfl ⟨by rfl, fun U z k hz hU hc => ?_⟩ ?_
    · have hz2 := Option.some.inj hz
      cases hz2; clear hz
      exact vp_store_agg _ _ _ rfl hc rfl rfl (by kernel_rfl) rfl (by rfl)
    refine Seg.sa ?_
    refine Seg.stop (fun U3 hU hk => ?_)
    have nb10 := hge 10 _ _ rfl
    have rb10 := (hk 10 _ 11 rfl trivial).1.1 trivial _ (Nat.zero_le _) rfl
    clear hk hge hne
    generalize th (0 + 10) = p3_10 at *
    simp only [Ent.obj] at rb10
    have df_p0_0_p3_10 : p0_0 ≠ p3_10 := by have := held_lt r_p0_0; omega
    have df_p0_1_p3_10 : p0_1 ≠ p3_10 := by have := held_lt r_p0_1; omega
    replace r_p0_0 := held_after hU r_p0_0
    replace r_p0_1 := held_after hU r_p0_1
    have r_p3_10 := rb10
    clear rb10
    have n_p3_10 := nb10
    clear nb10
    have sz3 := hU.size
    replace hB := bthen hB hU
    clear hU
    go_upto_region 4 with (fail)
    have rp : Row .i32 94 U3 p3_10 [X, Y, Z, T] := r_p3_10
    have rr : Row .i32 23 U3 p0_1 [0, 0, 0, 0] := r_p0_1
    have sR : w.heap.size ≤ p0_1 := n_p0_1
    have sP : w.heap.size ≤ p3_10 := by omega
    have dd : p0_1 ≠ p3_10 := df_p0_1_p3_10
    clear r_p3_10 r_p0_1 r_p0_0 n_p0_1 n_p0_0 n_p3_10 df_p0_1_p3_10 df_p0_0_p3_10 d_p0_0_p0_1 sz1 sz2 sz3 k1 hc
    apply wp_region_seg0 (w := U3) (S := [.q [], .q [], .q [], .q []]) (E := [.q0 _, .c0 _, .q0 _, .q0 _]) rfl (by kernel_rfl) rfl rfl
    intro th hge hne
    refine Seg.sq ?_
    refine Seg.step _ rfl (Or.inl ⟨by rfl, fun U hU => ?_⟩) ?_
    · go_simp
      refine vp_calls ((by have h := length_any (some ⟨p3_10, 0, none⟩) 4 [X, Y, Z, T] U (by simp) ((rp.below hU.1).sl (by unfold maxLen; simp)).2.2.2.2 hwf.out; rw [hL.out] at h; exact h))
    refine Seg.sa ?_
    refine Seg.sq ?_
    refine Seg.sq ?_
    refine Seg.stop (fun U4 hU hk => ?_)
    clear hk hge hne
    replace rp := rp.below hU
    replace rr := rr.below hU
    have sz4 := hU.size
    replace hB := bthen hB hU
    clear hU
    obtain ⟨a0, a1, a2, a3, -, -, -, -⟩ := rp.four
    go_wp2_with fail
    clear a0 a1 a2 a3
    have hV2 := hV.out
    rw [hL.out] at hV2
    replace hV2 := hid hV2
    clear hV hL hwf
    go_loopw [26] (fun ix wr => ∃ k : Nat, k ≤ 4 ∧ ix = .int .i64 k ∧ Row .i32 94 wr p3_10 (upto4 (wrap32 (overS (1073741824 * X) L)) (wrap32 (overS (1073741824 * Y) L)) (wrap32 (overS (1073741824 * Z) L)) (wrap32 (overS (1073741824 * T) L)) X Y Z T k) ∧ Row .i32 23 wr p0_1 [0, 0, 0, 0] ∧ Below w.heap.size w wr) (fun ix _ => 4 - (intOf ix).toNat)
    case atStart => exact ⟨0, by omega, rfl, rp, rr, hB⟩
    case round =>
      clear rp rr hB
      obtain ⟨k, hk, rfl, rp, rr, hB⟩ := hrel
      by_cases hlt : (k : Int) < 4
      · have hlt2 : k < 4 := by omega
        have ix := fun v => index4_any X Y Z T k v hlt2
        have hov : Go.RowKit.Hid (∀ v : World, Calls Tryz.prog 44 #[.int .i64 (1073741824 * sel4 k X Y Z T), .int .i64 L] v fun e w' => e = .returned (.int .i64 (overS (1073741824 * sel4 k X Y Z T) L)) ∧ ∃ k, w' = v.drewN k) := by
          obtain rfl | rfl | rfl | rfl : k = 0 ∨ k = 1 ∨ k = 2 ∨ k = 3 := by omega
          · exact oX
          · exact oY
          · exact oZ
          · exact oT
        have hvs := upto4_set (wrap32 (overS (1073741824 * X) L)) (wrap32 (overS (1073741824 * Y) L)) (wrap32 (overS (1073741824 * Z) L)) (wrap32 (overS (1073741824 * T) L)) X Y Z T k hlt2
        rw [sel4_map (fun v => wrap32 (overS (1073741824 * v) L))] at hvs
        have cc := rp.cellAt k (show k < 4 by omega)
        have cf := rp.free k
        have hXk := up_bd (sel4_b k hX hY hZ hT)
        generalize (upto4 (wrap32 (overS (1073741824 * X) L)) (wrap32 (overS (1073741824 * Y) L)) (wrap32 (overS (1073741824 * Z) L)) (wrap32 (overS (1073741824 * T) L)) X Y Z T k).getD k 0 = old at cc
        have rp2 := rp.set k (wrap32 (overS (1073741824 * sel4 k X Y Z T) L))
        rw [hvs] at rp2
        have rr2 := rr.oth1 (g' := p3_10) (j := k) dd (.int .i32 (wrap32 (overS (1073741824 * sel4 k X Y Z T) L)))
        have hB2 := hB.setCell (p := ⟨p3_10, k, none⟩) sP (.int .i32 (wrap32 (overS (1073741824 * sel4 k X Y Z T) L)))
        replace rp2 := hid rp2
        replace rr2 := hid rr2
        clear rp rr hvs hV2
        generalize sel4 k X Y Z T = SK at *
        generalize overS (1073741824 * SK) L = OK at *
        go_wp2_with fail
        refine (hov.out _).mono ?_
        rintro e v ⟨rfl, mm, rfl⟩
        go_wp2_with fail
        go_roundw
        case rel => exact ⟨k + 1, by omega, by simp, rp2.out.drewN mm, rr2.out.drewN mm, bdrewN hB2 mm⟩
        case measure => simp [intOf]; omega
      · obtain rfl : k = 4 := by omega
        have rp : Row .i32 94 wr p3_10 [wrap32 (overS (1073741824 * X) L), wrap32 (overS (1073741824 * Y) L), wrap32 (overS (1073741824 * Z) L), wrap32 (overS (1073741824 * T) L)] := rp
        obtain ⟨a0, a1, a2, a3, -, -, -, -⟩ := rp.four
        obtain ⟨z0, z1, z2, z3, h0, h1, h2, h3⟩ := rr.four
        clear rp rr oX oY oZ oT
        generalize wrap32 (overS (1073741824 * X) L) = qX at *
        generalize wrap32 (overS (1073741824 * Y) L) = qY at *
        generalize wrap32 (overS (1073741824 * Z) L) = qZ at *
        generalize wrap32 (overS (1073741824 * T) L) = qT at *
        go_wp2_with fail
        refine bodyPost_ret (v := .tuple #[.agg #[.int .i32 qX, .int .i32 qY, .int .i32 qZ, .int .i32 qT], .bool true]) (by simp [results, Tryz.results86, go_sem, z0, z1, z2, z3]) rfl ⟨by rw [hV2.out], ?_⟩
        exact below4 hB _ _ _ _ _ sR


end Go.Proofs.YtpdpcdifnlellaaGreat
