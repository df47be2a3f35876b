/- Package quat: Mul, walked. -/
import Derived.Test.YtpdpcdifnlellaaGreatQuat5
import Derived.Test.YtpdpcdifnlellaaGreatKB
namespace Go.Proofs.YtpdpcdifnlellaaGreat
open Go.ChangeShapes Go.WideShapes Go.ChangeAt Go.RowKit
set_option maxRecDepth 100000
set_option linter.unusedVariables false

set_option maxRecDepth 100000 in
set_option maxHeartbeats 16000000 in
theorem qmul_any (x y z t a b c d : Int) (w : World) (p0 : B32 x) (p1 : B32 y) (p2 : B32 z) (p3 : B32 t) (q0 : B32 a) (q1 : B32 b) (q2 : B32 c) (q3 : B32 d) :
    Calls Tryz.prog 85 #[.agg #[.int .i32 x, .int .i32 y, .int .i32 z, .int .i32 t], .agg #[.int .i32 a, .int .i32 b, .int .i32 c, .int .i32 d]] w fun e w' => e = .returned (mulV x y z t a b c d) ∧ Below w.heap.size w w' := by
  obtain ⟨W, hW, hB, hN, ra, rb, rc⟩ := boxes4r w 23 23 23 x y z t a b c d
  go_enter Tryz.func85, Tryz.ntmps85
  go_upto_region 1 with (fail)
  apply wp_region_seg0 (w := W) (S := [.q [], .q [], .q [], .q [], .q [], .q [], .q [], .q [], .q [], .q [], .q [], .q [], .q [], .q [], .q [], .q [], .q [], .q [], .q [], .q [], .q [], .al 22, .st 21 []]) (E := [.q0 _, .q0 _, .q0 _, .q0 _, .q0 _, .q0 _, .q0 _, .q0 _, .q0 _, .q0 _, .q0 _, .q0 _, .q0 _, .q0 _, .q0 _, .q0 _, .q0 _, .q0 _, .q0 _, .q0 _, .q0 _, .al ((fun p => .pointer (some ⟨p, 0, none⟩)), _) 22, .s0 21 (.cells #[.int .i64 0, .int .i64 1, .int .i64 1, .int .i64 (-1), .int .i64 2, .int .i64 (-1), .int .i64 3, .int .i64 (-1), .int .i64 1, .int .i64 1, .int .i64 0, .int .i64 1, .int .i64 3, .int .i64 1, .int .i64 2, .int .i64 (-1), .int .i64 2, .int .i64 1, .int .i64 3, .int .i64 (-1), .int .i64 0, .int .i64 1, .int .i64 1, .int .i64 1, .int .i64 3, .int .i64 1, .int .i64 2, .int .i64 1, .int .i64 1, .int .i64 (-1), .int .i64 0, .int .i64 1] 134)]) rfl (by kernel_rfl) rfl rfl
  · intro th hge hne
    iterate 21 refine Seg.sq ?_
    refine Seg.step _ rfl ⟨by rfl, fun U hU => ?_⟩ ?_
    · go_simp; exact vp_alloc rfl rfl rfl
    refine Seg.sa ?_
    refine Seg.step _ rfl ⟨by rfl, fun U z k hz hU hc => ?_⟩ ?_
    · have hz2 := Option.some.inj hz
      cases hz2; clear hz
      exact vp_store_agg _ _ _ rfl hc rfl rfl (by kernel_rfl) rfl (by rfl)
    refine Seg.sa ?_
    refine Seg.stop (fun U hU hk => ?_)
    have n0 := hge 21 _ _ rfl
    have q0 := (hk 21 _ 22 rfl trivial).1.1 trivial _ (Nat.zero_le _) rfl
    clear hk hge hne
    generalize th (0 + 21) = pt at *
    have rt : Row .i64 134 U pt tbl := q0
    clear q0
    replace ra := ra.below hU
    replace rb := rb.below hU
    replace rc := rc.below hU
    replace hB := bthen hB hU
    have hN2 := hU.size
    clear hU
    generalize Value.agg #[.int .i64 0, .int .i64 1, .int .i64 1, .int .i64 (-1), .int .i64 2, .int .i64 (-1), .int .i64 3, .int .i64 (-1)] = dead0
    generalize Value.agg #[.int .i64 1, .int .i64 1, .int .i64 0, .int .i64 1, .int .i64 3, .int .i64 1, .int .i64 2, .int .i64 (-1)] = dead1
    generalize Value.agg #[.int .i64 2, .int .i64 1, .int .i64 3, .int .i64 (-1), .int .i64 0, .int .i64 1, .int .i64 1, .int .i64 1] = dead2
    generalize Value.agg #[.int .i64 3, .int .i64 1, .int .i64 2, .int .i64 1, .int .i64 1, .int .i64 (-1), .int .i64 0, .int .i64 1] = dead3
    generalize Value.agg #[.int .i64 0, .int .i64 1, .int .i64 1, .int .i64 (-1), .int .i64 2, .int .i64 (-1), .int .i64 3, .int .i64 (-1), .int .i64 1, .int .i64 1, .int .i64 0, .int .i64 1, .int .i64 3, .int .i64 1, .int .i64 2, .int .i64 (-1), .int .i64 2, .int .i64 1, .int .i64 3, .int .i64 (-1), .int .i64 0, .int .i64 1, .int .i64 1, .int .i64 1, .int .i64 3, .int .i64 1, .int .i64 2, .int .i64 1, .int .i64 1, .int .i64 (-1), .int .i64 0, .int .i64 1] = dead4
    obtain ⟨c0, c1, c2, c3, -, -, -, -⟩ := ra.four
    obtain ⟨d0, d1, d2, d3, -, -, -, -⟩ := rb.four
    replace ra := hid ra
    replace rb := hid rb
    go_upto_region 2 with (fail)
    apply wp_region_seg (w := U) (S := [.q [], .q [], .q [], .q [], .al 6, .al 7, .st 4 [], .st 5 []]) (E := [.q0 _, .c0 _, .q0 _, .c0 _, .al ((fun p => .pointer (some ⟨p, 0, none⟩)), _) 6, .al ((fun p => .pointer (some ⟨p, 0, none⟩)), _) 7, .s0 4 (.cells #[.int .i32 x, .int .i32 y, .int .i32 z, .int .i32 t] 94), .s0 5 (.cells #[.int .i32 a, .int .i32 b, .int .i32 c, .int .i32 d] 94)]) (by kernel_rfl) rfl (by kernel_rfl) rfl rfl
    · intro th hge hne
      refine Seg.sq ?_ (ht := Or.inl ⟨by rfl, fun U hU => vp_quiet (by (have h0 := hU.1.cellB c0; have h1 := hU.1.cellB c1; have h2 := hU.1.cellB c2; have h3 := hU.1.cellB c3; go_simp <;> exact rfl))⟩)
      refine Seg.step _ rfl (Or.inl ⟨by rfl, fun U hU => ?_⟩) ?_
      · go_simp
        refine vp_call (qparts_any x y z t _)
      refine Seg.sa ?_
      refine Seg.sq ?_ (ht := Or.inl ⟨by rfl, fun U hU => vp_quiet (by (have h0 := hU.1.cellB d0; have h1 := hU.1.cellB d1; have h2 := hU.1.cellB d2; have h3 := hU.1.cellB d3; go_simp <;> exact rfl))⟩)
      refine Seg.step _ rfl (Or.inl ⟨by rfl, fun U hU => ?_⟩) ?_
      · go_simp
        refine vp_call (qparts_any a b c d _)
      refine Seg.sa ?_
      refine Seg.step _ rfl ⟨by rfl, fun U hU => ?_⟩ ?_
      · go_simp; exact vp_alloc rfl rfl rfl
      refine Seg.sa ?_
      refine Seg.step _ rfl ⟨by rfl, fun U hU => ?_⟩ ?_
      · go_simp; exact vp_alloc rfl rfl rfl
      refine Seg.sa ?_
      refine Seg.step _ rfl ⟨by rfl, fun U z k hz hU hc => ?_⟩ ?_
      · have hz2 := Option.some.inj hz
        cases hz2; clear hz
        exact vp_store_agg _ _ _ rfl hc rfl rfl (by kernel_rfl) rfl (by rfl)
      refine Seg.sa ?_
      refine Seg.step _ rfl ⟨by rfl, fun U z k hz hU hc => ?_⟩ ?_
      · have hz2 := Option.some.inj hz
        cases hz2; clear hz
        exact vp_store_agg _ _ _ rfl hc rfl rfl (by kernel_rfl) rfl (by rfl)
      refine Seg.sa ?_
      refine Seg.stop (fun U2 hU hk => ?_)
      have n3 := hge 4 _ _ rfl
      have n4 := hge 5 _ _ rfl
      have n5 := hne 4 5 _ _ _ _ rfl rfl (by omega)
      have q0 := (hk 4 _ 6 rfl trivial).1.1 trivial _ (Nat.zero_le _) rfl
      have q1 := (hk 5 _ 7 rfl trivial).1.1 trivial _ (Nat.zero_le _) rfl
      clear hk hge hne c0 c1 c2 c3 d0 d1 d2 d3 ra rb
      generalize th (0 + 4) = pa at *
      generalize th (0 + 5) = pb at *
      have qa : Row .i32 94 U2 pa [x, y, z, t] := q0
      have qb : Row .i32 94 U2 pb [a, b, c, d] := q1
      clear q0 q1
      replace rt := rt.below hU
      replace rc := rc.below hU
      replace hB := bthen hB hU
      have hN3 := hU.size
      clear hU
      go_upto_region 3 with (fail)
      apply wp_region_seg0 (w := U2) (S := [.al 1000]) (E := [.al ((fun p => .pointer (some ⟨p, 0, none⟩)), _) 1000]) rfl (by kernel_rfl) rfl rfl
      · intro th hge hne
        refine Seg.step _ rfl ⟨by rfl, fun U hU => ?_⟩ ?_
        · go_simp; exact vp_alloc rfl rfl rfl
        refine Seg.sa ?_
        refine Seg.stop (fun U3 hU hk => ?_)
        have n6 := hge 0 _ _ rfl
        have q0 := (hk 0 _ _ rfl trivial).1.2 (by decide)
        dsimp only at q0
        clear hk hge hne
        generalize th (0 + 0) = pn at *
        have qn : Row .i64 136 U3 pn [0, 0, 0, 0] := q0
        clear q0
        have dt : pt ≠ pn := by have := rt.lt; omega
        have dc : w.heap.size + 1 + 1 ≠ pn := by have := rc.lt; omega
        have da : pa ≠ pn := by have := qa.lt; omega
        have db : pb ≠ pn := by have := qb.lt; omega
        have hpn : w.heap.size ≤ pn := by omega
        replace rt := rt.below hU
        replace rc := rc.below hU
        replace qa := qa.below hU
        replace qb := qb.below hU
        replace hB := bthen hB hU
        have hN4 := hU.size
        clear hU
        have hs0 := nrow_start x y z t a b c d
        rw [← hs0] at qn
        clear hs0
        go_wp2_with fail
        go_loopw [38] (fun ix wr => ∃ (i : Nat), i ≤ 4 ∧ ix = .int .i64 i ∧ Row .i64 134 wr pt tbl ∧ Row .i32 23 wr (w.heap.size + 1 + 1) [0, 0, 0, 0] ∧ Row .i32 94 wr pa [x, y, z, t] ∧ Row .i32 94 wr pb [a, b, c, d] ∧ Row .i64 136 wr pn (nrow x y z t a b c d i 0) ∧ Below w.heap.size w wr) (fun ix _ => 4 - (intOf ix).toNat)
        case atStart => exact ⟨0, by omega, rfl, rt, rc, qa, qb, qn, hB⟩
        case round =>
          clear rt rc qa qb qn hB
          obtain ⟨i, hi, rfl, rt, rc, qa, qb, qn, hB⟩ := hrel
          obtain ⟨wo, rfl⟩ : ∃ wo : World, wo = wr := ⟨_, rfl⟩
          by_cases hlt : (i : Int) < 4
          · have hlt2 : i < 4 := by omega
            go_wp2_with fail
            go_loopw [41] (fun jx wr => ∃ (j : Nat), j ≤ 4 ∧ jx = .int .i64 j ∧ Row .i64 134 wr pt tbl ∧ Row .i32 23 wr (w.heap.size + 1 + 1) [0, 0, 0, 0] ∧ Row .i32 94 wr pa [x, y, z, t] ∧ Row .i32 94 wr pb [a, b, c, d] ∧ Row .i64 136 wr pn (nrow x y z t a b c d i j) ∧ Below w.heap.size w wr) (fun jx _ => 4 - (intOf jx).toNat)
            case atStart => exact ⟨0, by omega, rfl, rt, rc, qa, qb, qn, hB⟩
            case round =>
              clear rt rc qa qb qn hB
              obtain ⟨j, hj, rfl, rt, rc, qa, qb, qn, hB⟩ := hrel
              by_cases hjl : (j : Int) < 4
              · have hjl2 : j < 4 := by omega
                go_upto_region 10 with (fail)
                have i0 : (0 : Int) ≤ i := by omega
                have j0 : (0 : Int) ≤ j := by omega
                have htb := tbl_get i j hlt2 hjl2
                have ca := rt.cellAt (8 * i + 2 * j) (show 8 * i + 2 * j < 32 by omega)
                have cs := rt.cellAt (8 * i + 2 * j + 1) (show 8 * i + 2 * j + 1 < 32 by omega)
                rw [htb.1, show 8 * i + 2 * j = i * 8 + j * 2 from by omega] at ca
                rw [htb.2, show 8 * i + 2 * j + 1 = i * 8 + j * 2 + 1 from by omega] at cs
                clear htb
                apply wp_region_seg0 (w := wr) (S := [.q [], .q [], .q [], .q [], .q [], .al 6, .st 5 []]) (E := [.q0 _, .q0 _, .q0 _, .q0 _, .q0 _, .al ((fun p => .pointer (some ⟨p, 0, none⟩)), _) 6, .s0 5 (.cells #[.int .i64 (atN i j), .int .i64 (sgN i j)] 132)]) rfl (by kernel_rfl) rfl rfl
                · intro th hge hne
                  iterate 4 refine Seg.sq ?_
                  refine Seg.sq ?_ (ht := Or.inl ⟨by rfl, fun U hU => vp_quiet (by (have h0 := hU.1.cellB ca; have h1 := hU.1.cellB cs; go_simp <;> exact rfl))⟩)
                  refine Seg.step _ rfl ⟨by rfl, fun U hU => ?_⟩ ?_
                  · go_simp; exact vp_alloc rfl rfl rfl
                  refine Seg.sa ?_
                  refine Seg.step _ rfl ⟨by rfl, fun U z k hz hU hc => ?_⟩ ?_
                  · have hz2 := Option.some.inj hz
                    cases hz2; clear hz
                    exact vp_store_agg _ _ _ rfl hc rfl rfl (by kernel_rfl) rfl (by rfl)
                  refine Seg.sa ?_
                  refine Seg.stop (fun U3 hU hk => ?_)
                  have n7 := hge 5 _ _ rfl
                  have q0 := (hk 5 _ 6 rfl trivial).1.1 trivial _ (Nat.zero_le _) rfl
                  clear hk hge hne ca cs
                  generalize th (0 + 5) = pq at *
                  have eq0 := held_cell q0 0 _ rfl
                  have eq1 := held_cell q0 1 _ rfl
                  clear q0
                  replace rt := rt.below hU
                  replace rc := rc.below hU
                  replace qa := qa.below hU
                  replace qb := qb.below hU
                  replace qn := qn.below hU
                  have lpn := qn.lt
                  replace hB := bthen hB hU
                  have hN5 := hU.size
                  clear hU
                  have hat := atN_lt i j hlt2 hjl2
                  have ka := qa.cellAt j (show j < 4 by omega)
                  have kb := qb.cellAt (atN i j) (show atN i j < 4 by omega)
                  have kn := qn.cellAt i (show i < 4 by omega)
                  rw [getD4 _ _ _ _ _ hjl2] at ka
                  rw [getD4 _ _ _ _ _ hat] at kb
                  rw [nrow_get _ _ _ _ _ _ _ _ _ _ hlt2] at kn
                  have hX := sel4_b j p0 p1 p2 p3
                  have hY := sel4_b (atN i j) q0 q1 q2 q3
                  have hP := hid (fun (v : World) => qprod_any (sel4 j x y z t) (sel4 (atN i j) a b c d) v hX hY)
                  have hpb := part_b x y z t a b c d p0 p1 p2 p3 q0 q1 q2 q3 i j
                  have htm := term_b x y z t a b c d p0 p1 p2 p3 q0 q1 q2 q3 i j
                  have hsu := hid (show partN x y z t a b c d i (j + 1) = partN x y z t a b c d i j + termN x y z t a b c d i j from rfl)
                  have hter : termN x y z t a b c d i j = sgN i j * roundS (sel4 j x y z t * sel4 (atN i j) a b c d) 30 := rfl
                  rw [hter] at htm hsu
                  clear hter hX hY
                  generalize roundS (sel4 j x y z t * sel4 (atN i j) a b c d) 30 = R at *
                  generalize sel4 j x y z t = XX at *
                  generalize sel4 (atN i j) a b c d = YY at *
                  have fm : IntKind.i64.wrap (sgN i j * R) = sgN i j * R := by rw [IntKind.wrap_i64]; omega
                  have fs : IntKind.i64.wrap (partN x y z t a b c d i j + sgN i j * R) = partN x y z t a b c d i j + sgN i j * R := by rw [IntKind.wrap_i64]; omega
                  generalize partN x y z t a b c d i j = PP at *
                  generalize hAT : atN i j = AT at *
                  generalize sgN i j = SG at *
                  clear htm hpb
                  have a0 : (0 : Int) ≤ AT := by omega
                  have a4 : (AT : Int) < 4 := by omega
                  replace hAT := hid hAT
                  replace rt := hid rt
                  replace rc := hid rc
                  replace qa := hid qa
                  replace qb := hid qb
                  replace qn := hid qn
                  go_upto_region 11 with (fail)
                  apply wp_region_part (w := U3) (S := [.q [], .q [], .q [], .q [], .q [], .q [], .q [], .q [], .q [], .q [], .q [], .q [], .q [], .q [], .q [], .q []]) (E := [.q0 _, .q0 _, .q0 _, .q0 _, .q0 _, .q0 _, .q0 _, .q0 _, .q0 _, .q0 _, .q0 _, .q0 _, .c0 _, .q0 _, .q0 _, .q0 _]) 16 1 (by kernel_rfl) rfl (by kernel_rfl) rfl rfl rfl
                  · intro th hge hne
                    refine Seg.sq ?_
                    refine Seg.sq ?_
                    refine Seg.sq ?_ (ht := Or.inl ⟨by rfl, fun U hU => vp_quiet (by (have h0 := hU.1.cellB kn; go_simp <;> exact rfl))⟩)
                    refine Seg.sq ?_
                    refine Seg.sq ?_ (ht := Or.inl ⟨by rfl, fun U hU => vp_quiet (by (have h0 := hU.1.cellB eq1; go_simp <;> exact rfl))⟩)
                    refine Seg.sq ?_
                    refine Seg.sq ?_
                    refine Seg.sq ?_ (ht := Or.inl ⟨by rfl, fun U hU => vp_quiet (by (have h0 := hU.1.cellB ka; go_simp <;> exact rfl))⟩)
                    refine Seg.sq ?_
                    refine Seg.sq ?_ (ht := Or.inl ⟨by rfl, fun U hU => vp_quiet (by (have h0 := hU.1.cellB eq0; go_simp <;> exact rfl))⟩)
                    refine Seg.sq ?_
                    refine Seg.sq ?_ (ht := Or.inl ⟨by rfl, fun U hU => vp_quiet (by (have h0 := hU.1.cellB kb; go_simp <;> exact rfl))⟩)
                    refine Seg.step _ rfl (Or.inl ⟨by rfl, fun U hU => ?_⟩) ?_
                    · go_simp
                      refine vp_calld (hP.out _)
                    refine Seg.sa ?_
                    iterate 3 refine Seg.sq ?_
                    refine Seg.stop (fun U4 hU hk => ?_)
                    clear hge hne hk
                    have kn2 := hU.cellB kn
                    have fn2 : U4.frozen? ⟨pn, i, none⟩ = false := ((qn.out.below hU)).free i
                    refine Seg.only (m := 16) (k := 0) rfl (by kernel_rfl) (by rfl) (fun K hK => ?_)
                    go_simp
                    refine hK _ _ (Seg.finish ?_ _)
                    clear hK kn2 fn2
                    replace rt := (rt.out.below hU).oth1 dt (j := i) (.int .i64 (PP + SG * R))
                    replace rc := (rc.out.below hU).oth1 dc (j := i) (.int .i64 (PP + SG * R))
                    replace qa := (qa.out.below hU).oth1 da (j := i) (.int .i64 (PP + SG * R))
                    replace qb := (qb.out.below hU).oth1 db (j := i) (.int .i64 (PP + SG * R))
                    replace qn := (qn.out.below hU).set i (PP + SG * R)
                    have hns := nrow_set x y z t a b c d i j hlt2
                    rw [hsu.out] at hns
                    rw [hns] at qn
                    clear hns
                    replace hB := (bthen hB hU).setCell (p := ⟨pn, i, none⟩) hpn (.int .i64 (PP + SG * R))
                    obtain ⟨U5, hU5⟩ : ∃ V, U4.setCell ⟨pn, i, none⟩ (.int .i64 (PP + SG * R)) = V := ⟨_, rfl⟩
                    rw [hU5] at rt rc qa qb qn hB ⊢
                    clear hU5 hU kn eq1 ka eq0 kb fm fs hN5 lpn
                    go_wp2_with fail
                    go_roundw
                    case rel => exact ⟨j + 1, by omega, by simp, rt, rc, qa, qb, qn, hB⟩
                    case measure => simp [intOf]; omega
              · obtain rfl : j = 4 := by omega
                have hnx := nrow_next x y z t a b c d i hlt2
                rw [hnx] at qn
                clear hnx
                go_wp2_with fail
                go_roundw
                case rel => exact ⟨i + 1, by omega, by simp, rt, rc, qa, qb, qn, hB⟩
                case measure => simp [intOf]; omega
          · obtain rfl : i = 4 := by omega
            rw [nrow_end] at qn
            obtain ⟨e0, e1, e2, e3, -, -, -, -⟩ := qn.four
            have hb0 := part_b x y z t a b c d p0 p1 p2 p3 q0 q1 q2 q3 0 4
            have hb1 := part_b x y z t a b c d p0 p1 p2 p3 q0 q1 q2 q3 1 4
            have hb2 := part_b x y z t a b c d p0 p1 p2 p3 q0 q1 q2 q3 2 4
            have hb3 := part_b x y z t a b c d p0 p1 p2 p3 q0 q1 q2 q3 3 4
            obtain ⟨m0, m1, m2, m3⟩ := part_all x y z t a b c d
            rw [m0] at hb0; rw [m1] at hb1; rw [m2] at hb2; rw [m3] at hb3
            have hV : mulV x y z t a b c d = .tuple #[.agg #[.int .i32 (clampS (mulW x y z t a b c d)), .int .i32 (clampS (mulX x y z t a b c d)), .int .i32 (clampS (mulY x y z t a b c d)), .int .i32 (clampS (mulZ x y z t a b c d))], .int .i64 (cuts (fun i => sel4 i (mulW x y z t a b c d) (mulX x y z t a b c d) (mulY x y z t a b c d) (mulZ x y z t a b c d)) 4)] := rfl
            have hV2 : cut4 (mulW x y z t a b c d) (mulX x y z t a b c d) (mulY x y z t a b c d) (mulZ x y z t a b c d) = .tuple #[.agg #[.int .i32 (clampS (mulW x y z t a b c d)), .int .i32 (clampS (mulX x y z t a b c d)), .int .i32 (clampS (mulY x y z t a b c d)), .int .i32 (clampS (mulZ x y z t a b c d))], .int .i64 (cuts (fun i => sel4 i (mulW x y z t a b c d) (mulX x y z t a b c d) (mulY x y z t a b c d) (mulZ x y z t a b c d)) 4)] := rfl
            have hC := hid (fun (v : World) => qcut_any (mulW x y z t a b c d) (mulX x y z t a b c d) (mulY x y z t a b c d) (mulZ x y z t a b c d) v (by unfold B64; omega) (by unfold B64; omega) (by unfold B64; omega) (by unfold B64; omega))
            clear m0 m1 m2 m3 hb0 hb1 hb2 hb3
            replace hV := hid hV
            replace hV2 := hid hV2
            replace rc := hid rc
            clear qa qb rt qn hlt hi
            go_wp2_with fail
            refine (hC.out _).mono ?_
            rintro e v ⟨rfl, hst⟩
            rw [hV2.out]
            have rc2 := rc.out.below hst
            replace hB := bthen hB hst
            clear hst e0 e1 e2 e3 rc hC hV2
            generalize clampS (mulW x y z t a b c d) = s0 at *
            generalize clampS (mulX x y z t a b c d) = s1 at *
            generalize clampS (mulY x y z t a b c d) = s2 at *
            generalize clampS (mulZ x y z t a b c d) = s3 at *
            generalize cuts (fun i => sel4 i (mulW x y z t a b c d) (mulX x y z t a b c d) (mulY x y z t a b c d) (mulZ x y z t a b c d)) 4 = cn at *
            obtain ⟨x0, x1, x2, x3, y0, y1, y2, y3⟩ := rc2.four
            clear rc2
            go_wp2_with fail
            refine bodyPost_ret (v := .tuple #[.agg #[.int .i32 s0, .int .i32 s1, .int .i32 s2, .int .i32 s3], .int .i64 cn]) (by simp [results, Tryz.results85, go_sem, x0, x1, x2, x3]) rfl ⟨by rw [hV.out], ?_⟩
            exact below4 hB _ _ _ _ _ (by omega)

end Go.Proofs.YtpdpcdifnlellaaGreat
