/- The laws of layer 35: BlockPuts. -/
import Derived.Test.YtmfhniekcbadlaaLaw35
import Derived.Deep.DeepCutAuto
namespace Go.Proofs.Ytmfhniekcbadlaa
open Go.ChangeShapes Go.WideShapes Go.ChangeAt Go.RowKit
set_option linter.unusedVariables false
set_option linter.unusedSimpArgs false

set_option maxRecDepth 100000 in
set_option maxHeartbeats 8000000 in
theorem law_BlockPuts (a0_0 : Int) (a0_1 : Option Addr) (len0_1 cap0_1 : Nat) (x0_1 : List (List Value)) (a1_0 : Int) (a1_1 : Int) (a1_2 : Int) (a1_3 : Int) (a1_4 : Int) (a1_5 : Int) (a1_6 : Int) (a1_7 : Int) (a1_8 : Int) (a1_9 : Int) (a1_10 : Int) (a1_11 : Int) (a1_12 : Int) (W : World) (w0_0 : (Lit.int .u32 a0_0).wf = true) (w0_1 : Els W 14 a0_1 len0_1 cap0_1 x0_1) (t0_1 : ∀ x ∈ x0_1, (∃ (c0 : Bool) (c1 : Int) (c2 : Int) (c3 : Int) (c4 : Int) (c5 : Int) (c6 : Int) (c7 : Int) (c8 : Int) (c9 : Int) (c10 : Int) (c11 : Int) (c12 : Int) (c13 : Int), x = [.bool c0, .int .u32 c1, .int .i32 c2, .int .i32 c3, .int .i32 c4, .int .i32 c5, .int .i32 c6, .int .i32 c7, .int .i32 c8, .int .i32 c9, .int .i32 c10, .int .i32 c11, .int .i32 c12, .int .i32 c13] ∧ ((Lit.int .u32 c1).wf = true) ∧ ((Lit.int .i32 c2).wf = true) ∧ ((Lit.int .i32 c3).wf = true) ∧ ((Lit.int .i32 c4).wf = true) ∧ ((Lit.int .i32 c5).wf = true) ∧ ((Lit.int .i32 c6).wf = true) ∧ ((Lit.int .i32 c7).wf = true) ∧ ((Lit.int .i32 c8).wf = true) ∧ ((Lit.int .i32 c9).wf = true) ∧ ((Lit.int .i32 c10).wf = true) ∧ ((Lit.int .i32 c11).wf = true) ∧ ((Lit.int .i32 c12).wf = true) ∧ ((Lit.int .i32 c13).wf = true))) (w1_0 : (Lit.int .u32 a1_0).wf = true) (w1_1 : (Lit.int .i32 a1_1).wf = true) (w1_2 : (Lit.int .i32 a1_2).wf = true) (w1_3 : (Lit.int .i32 a1_3).wf = true) (w1_4 : (Lit.int .i32 a1_4).wf = true) (w1_5 : (Lit.int .i32 a1_5).wf = true) (w1_6 : (Lit.int .i32 a1_6).wf = true) (w1_7 : (Lit.int .i32 a1_7).wf = true) (w1_8 : (Lit.int .i32 a1_8).wf = true) (w1_9 : (Lit.int .i32 a1_9).wf = true) (w1_10 : (Lit.int .i32 a1_10).wf = true) (w1_11 : (Lit.int .i32 a1_11).wf = true) (w1_12 : (Lit.int .i32 a1_12).wf = true) :
    Calls Try.prog 3 #[.agg #[.int .u32 a0_0, .slice a0_1 len0_1 cap0_1], .agg #[.int .u32 a1_0, .int .i32 a1_1, .int .i32 a1_2, .int .i32 a1_3, .int .i32 a1_4, .int .i32 a1_5, .int .i32 a1_6, .int .i32 a1_7, .int .i32 a1_8, .int .i32 a1_9, .int .i32 a1_10, .int .i32 a1_11, .int .i32 a1_12]] W fun e w' => e = .returned (.bool true) ∧ Below W.heap.size W w' := by
  have hno := hid (u32_bd35 w0_0)
  obtain ⟨l, rfl, hwf⟩ := els_ents t0_1
  obtain rfl : l.length = len0_1 := by have := w0_1.1; simpa [entsV] using this
  replace hwf := hid hwf
  clear w0_0 t0_1
  have t1 := u32_bd35 w1_0
  have v1 := hid (show ∀ x ∈ [a1_1, a1_2, a1_3, a1_4, a1_5, a1_6, a1_7, a1_8, a1_9, a1_10, a1_11, a1_12], -2147483648 ≤ x ∧ x ≤ 2147483647 from by intro x hx; simp only [List.mem_cons, List.not_mem_nil, or_false] at hx; rcases hx with rfl | rfl | rfl | rfl | rfl | rfl | rfl | rfl | rfl | rfl | rfl | rfl <;> first | exact i32_bd35 w1_1 | exact i32_bd35 w1_2 | exact i32_bd35 w1_3 | exact i32_bd35 w1_4 | exact i32_bd35 w1_5 | exact i32_bd35 w1_6 | exact i32_bd35 w1_7 | exact i32_bd35 w1_8 | exact i32_bd35 w1_9 | exact i32_bd35 w1_10 | exact i32_bd35 w1_11 | exact i32_bd35 w1_12)
  clear w1_0 w1_1 w1_2 w1_3 w1_4 w1_5 w1_6 w1_7 w1_8 w1_9 w1_10 w1_11 w1_12
  go_enter Try.func3, Try.ntmps3
  go_upto_region 0 with (fail)
  apply wp_region_seg0 (w := W) (S := [.al 1000, .al 1000, .q []]) (E := [.al ((fun p => .pointer (some ⟨p, 0, none⟩)), _) 1000, .al ((fun p => .pointer (some ⟨p, 0, none⟩)), _) 1000, .q0 _]) rfl (by kernel_rfl) rfl rfl
  intro th hge hne
  refine Seg.step _ rfl ⟨by rfl, fun U hU => ?_⟩ ?_
  · go_simp; exact vp_alloc rfl rfl rfl
  refine ⟨_, by (simp only [Ent.val]; go_simp <;> exact rfl), ?_⟩
  refine Seg.step _ rfl ⟨by rfl, fun U hU => ?_⟩ ?_
  · go_simp; exact vp_alloc rfl rfl rfl
  refine ⟨_, by (simp only [Ent.val]; go_simp <;> exact rfl), ?_⟩
  refine Seg.step _ rfl (Or.inl ⟨by rfl, fun U hU => vp_quiet (by (go_simp <;> exact rfl))⟩) ⟨_, by (simp only [Ent.val]; go_simp <;> exact rfl), ?_⟩
  refine Seg.stop (fun U1 hU hk => ?_)
  have nb0 := hge 0 _ _ rfl
  have rb0 := (hk 0 _ _ rfl trivial).1.2 (by simp)
  have nb1 := hge 1 _ _ rfl
  have rb1 := (hk 1 _ _ rfl trivial).1.2 (by simp)
  have ne0_1 := hne 0 1 _ _ _ _ rfl rfl (by omega)
  clear hk hge hne
  generalize th (0 + 0) = p0_0 at *
  dsimp only at rb0
  generalize th (0 + 1) = p0_1 at *
  dsimp only at rb1
  have r_p0_0 := rb0
  clear rb0
  have n_p0_0 := nb0
  clear nb0
  have d_p0_0_p0_1 := ne0_1
  clear ne0_1
  have r_p0_1 := rb1
  clear rb1
  have n_p0_1 := nb1
  clear nb1
  have sz1 := hU.size
  have hB : Below W.heap.size W U1 := hU
  clear hU
  have hE := hid (w0_1.below hB)
  clear w0_1
  replace hB := hid hB
  have rm := hid r_p0_0
  have rr := hid r_p0_1
  clear r_p0_0 r_p0_1
  have z0 := held_cell rm.out 0 _ rfl
  have z1 := held_cell rm.out 1 _ rfl
  by_cases cb : (100 : Int) < l.length
  case pos =>
    go_wp2_with fail
    refine (knows35_any _).mono ?_
    rintro e V ⟨rfl, hst⟩
    replace hst := hid (bthen hB.out hst)
    go_wp2_with fail
    go_ret
    exact ⟨rfl, hst.out⟩
  have h100 : l.length ≤ 100 := by omega
  have pe := putB_e a0_0 l
  have hLl := putB_len (no := a0_0) (l := l)
  have hLw := hid (bytes_wf (putB_wf (no := a0_0) hwf.out))
  have hPT := hid (fun h : (putB a0_0 l).2 = 0 => takB_put hno.out (show l.length ≤ 255 by omega) hwf.out h)
  have hP0 := hid (fun h : (putB a0_0 l).2 ≠ 0 => putB_no h)
  obtain ⟨⟨L, ee⟩, hr⟩ : ∃ r, putB a0_0 l = r := ⟨_, rfl⟩
  rw [hr] at pe hLl hLw hPT hP0
  dsimp only at pe hLl hLw hPT hP0
  replace hr := hid hr
  clear hPT hP0
  go_wp2_with fail
  refine (knows35_any _).mono ?_
  rintro e V1 ⟨rfl, hA⟩
  replace hE := hid (hE.out.below hA)
  replace rm := hid (held_after hA rm.out)
  replace rr := hid (held_after hA rr.out)
  replace hB := hid (bthen hB.out hA)
  clear hA
  clear z0 z1
  have z0 := held_cell rm.out 0 _ rfl
  have z1 := held_cell rm.out 1 _ rfl
  go_wp2_with fail
  obtain ⟨ny, hny⟩ : ∃ n : Nat, a0_0 = n := ⟨a0_0.toNat, by have := hno.out; omega⟩
  subst hny
  clear z0 z1
  refine (bput_any (ny : Int) a0_1 l.length cap0_1 l _ hno.out rfl hE.out (by omega) hwf.out).mono ?_
  rintro e V2 ⟨r1a, r1c, rfl, hO1, hA⟩
  replace hE := hid (hE.out.below hA)
  replace rm := hid (held_after hA rm.out)
  replace rr := hid (held_after hA rr.out)
  replace hB := hid (bthen hB.out hA)
  clear hA
  rw [hr.out] at hO1 ⊢
  dsimp only at hO1 ⊢
  replace hO1 := hid hO1.slf
  have z0 := held_cell rm.out 0 _ rfl
  have z1 := held_cell rm.out 1 _ rfl
  go_wp2_with fail
  clear z0 z1
  refine (rbput_any ny a0_1 l.length cap0_1 l _ (by have := hno.out; omega) rfl hE.out (by omega) hwf.out).mono ?_
  rintro e V3 ⟨r2a, r2c, rfl, hO2, hA⟩
  replace hE := hid (hE.out.below hA)
  replace hO1 := hid (hO1.out.below hA)
  replace rm := hid (held_after hA rm.out)
  replace rr := hid (held_after hA rr.out)
  replace hB := hid (bthen hB.out hA)
  clear hA
  rw [hr.out] at hO2 ⊢
  dsimp only at hO2 ⊢
  replace hO2 := hid hO2.slf
  go_wp2_with fail
  go_loopw [9] (fun ix wr => ∃ k : Nat, k ≤ l.length ∧ ix = .int .i64 k ∧ After V3 wr) (fun ix _ => l.length - (intOf ix).toNat)
  case atStart => exact ⟨0, by omega, rfl, Below.refl _ _⟩
  case round =>
    obtain ⟨k, hk, rfl, hA⟩ := hrel
    have rmw := held_after hA rm.out
    have rrw := held_after hA rr.out
    have hEw := hE.out.below hA
    have hBw := hid (bthen hB.out hA)
    have z0 := held_cell rmw 0 _ rfl
    have z1 := held_cell rmw 1 _ rfl
    by_cases hlt : (k : Int) < l.length
    case neg =>
      go_upto_region 10 with (fail)
      clear hlt
      have hT := hid (show After wr wr.drew from (Below.refl _ wr).drew)
      have rmD := hid (show wr.drew.heap[p0_0]? = _ from rmw)
      have sl1x := hO1.out.below hA
      have sl1 := hid (show Sl .u8 wr.drew r1a L.length r1c L from sl1x)
      clear sl1x
      have sl2x := hO2.out.below hA
      have sl2 := hid (show Sl .u8 wr.drew r2a L.length r2c L from sl2x)
      clear sl2x
      have hED := hid (show Els wr.drew 14 a0_1 l.length cap0_1 (entsV l) from hEw)
      clear rmw rrw hEw z0 z1
      refine wp_region_R (by kernel_rfl) ?_
      refine wpAnyR_take 0 rfl (by kernel_rfl) (by kernel_rfl) (by kernel_rfl) (fun _ _ _ _ h => h) ⟨_, Or.inl ⟨by rfl, fun w2 hb2 => by (go_simp; try with_reducible rfl)⟩, _, by (go_simp; try rfl), ?_⟩
      refine wpAnyR_take 1 rfl (by kernel_rfl) (by kernel_rfl) (by kernel_rfl) (fun _ _ _ _ h => h) ⟨_, Or.inl ⟨by rfl, fun w2 hb2 => by (have hx := txt35 (sl1.out.below hb2); go_simp; try with_reducible rfl)⟩, _, by (go_simp; try rfl), ?_⟩
      refine wpAnyR_take 2 rfl (by kernel_rfl) (by kernel_rfl) (by kernel_rfl) (fun _ _ _ _ h => h) ⟨_, Or.inl ⟨by rfl, fun w2 hb2 => by (go_simp; try with_reducible rfl)⟩, _, by (go_simp; try rfl), ?_⟩
      refine wpAnyR_take 3 rfl (by kernel_rfl) (by kernel_rfl) (by kernel_rfl) (fun _ _ _ _ h => h) ⟨_, Or.inl ⟨by rfl, fun w2 hb2 => by (have hx := txt35 (sl2.out.below hb2); go_simp; try with_reducible rfl)⟩, _, by (go_simp; try rfl), ?_⟩
      refine wpAnyR_take 4 rfl (by kernel_rfl) (by kernel_rfl) (by kernel_rfl) (fun _ _ _ _ h => h) ⟨_, Or.inl ⟨by rfl, fun w2 hb2 => by (go_simp; try with_reducible rfl)⟩, _, by (go_simp; try rfl), ?_⟩
      refine wpAnyR_take 5 rfl (by kernel_rfl) (by kernel_rfl) (by kernel_rfl) (fun _ _ _ _ h => h) ⟨_, Or.inl ⟨by rfl, fun w2 hb2 => by (go_simp; try with_reducible rfl)⟩, _, by (go_simp; try rfl), ?_⟩
      refine wpAnyR_take 6 rfl (by kernel_rfl) (by kernel_rfl) (by kernel_rfl) (fun _ _ _ _ h => h) ⟨_, Or.inl ⟨by rfl, fun w2 hb2 => by (go_simp; try with_reducible rfl)⟩, _, by (go_simp; try rfl), ?_⟩
      refine wpAnyR_take 8 rfl (by kernel_rfl) (by kernel_rfl) (by kernel_rfl) (fun _ _ _ _ h => h) ⟨_, Or.inl ⟨by rfl, fun w2 hb2 => by (go_simp; try with_reducible rfl)⟩, _, by (go_simp; try rfl), ?_⟩
      refine wpAnyR_only 7 rfl (by kernel_rfl) (by rfl) (fun K hK => ?_)
      go_simp
      refine (num35_any ee _ (by omega) (by omega)).mono ?_
      rintro e V5 ⟨rfl, hv⟩
      have hA5 := after_eq hv
      replace hT := hid (bthen hT.out hA5)
      replace rmD := hid (held_after hA5 rmD.out)
      replace hED := hid (hED.out.below hA5)
      clear hv
      go_simp
      refine hK _ _ ⟨hA5, ?_⟩
      clear hK
      clear hA5
      refine wpAnyR_only 9 rfl (by kernel_rfl) (by rfl) (fun K hK => ?_)
      go_simp
      refine (num35_any ee _ (by omega) (by omega)).mono ?_
      rintro e V5 ⟨rfl, hv⟩
      have hA5 := after_eq hv
      replace hT := hid (bthen hT.out hA5)
      replace rmD := hid (held_after hA5 rmD.out)
      replace hED := hid (hED.out.below hA5)
      clear hv
      go_simp
      refine hK _ _ ⟨hA5, ?_⟩
      clear hK
      clear hA5
      refine wpAnyR_take 10 rfl (by kernel_rfl) (by kernel_rfl) (by kernel_rfl) (fun _ _ _ _ h => h) ⟨_, Or.inl ⟨by rfl, fun w2 hb2 => by (go_simp; try with_reducible rfl)⟩, _, by (go_simp; try rfl), ?_⟩
      refine wpAnyR_take 11 rfl (by kernel_rfl) (by kernel_rfl) (by kernel_rfl) (fun _ _ _ _ h => h) ⟨_, Or.inl ⟨by rfl, fun w2 hb2 => by (go_simp; try with_reducible rfl)⟩, _, by (go_simp; try rfl), ?_⟩
      refine wpAnyR_take 12 rfl (by kernel_rfl) (by kernel_rfl) (by kernel_rfl) (fun _ _ _ _ h => h) ⟨_, Or.inl ⟨by rfl, fun w2 hb2 => by (go_simp; try with_reducible rfl)⟩, _, by (go_simp; try rfl), ?_⟩
      refine wpAnyR_take 13 rfl (by kernel_rfl) (by kernel_rfl) (by kernel_rfl) (fun _ _ _ _ h => h) ⟨_, Or.inl ⟨by rfl, fun w2 hb2 => by (go_simp; try with_reducible rfl)⟩, _, by (go_simp; try rfl), ?_⟩
      refine wpAnyR_take 14 rfl (by kernel_rfl) (by kernel_rfl) (by kernel_rfl) (fun _ _ _ _ h => h) ⟨_, Or.inl ⟨by rfl, fun w2 hb2 => by (have hr := held_after hb2 rmD.out; have g0 := held_cell hr 0 _ rfl; have g1 := held_cell hr 1 _ rfl; go_simp; try with_reducible rfl)⟩, _, by (go_simp; try rfl), ?_⟩
      refine wpAnyR_take 16 rfl (by kernel_rfl) (by kernel_rfl) (by kernel_rfl) (fun _ _ _ _ h => h) ⟨_, Or.inl ⟨by rfl, fun w2 hb2 => by (go_simp; try with_reducible rfl)⟩, _, by (go_simp; try rfl), ?_⟩
      refine wpAnyR_take 17 rfl (by kernel_rfl) (by kernel_rfl) (by kernel_rfl) (fun _ _ _ _ h => h) ⟨_, Or.inl ⟨by rfl, fun w2 hb2 => by (have hr := held_after hb2 rmD.out; have g0 := held_cell hr 0 _ rfl; have g1 := held_cell hr 1 _ rfl; go_simp; try with_reducible rfl)⟩, _, by (go_simp; try rfl), ?_⟩
      refine wpAnyR_only 15 rfl (by kernel_rfl) (by rfl) (fun K hK => ?_)
      go_simp
      refine (size_any a0_1 cap0_1 l _ hED.out (by omega) hwf.out).mono ?_
      rintro e V5 ⟨rfl, hA5⟩
      replace hT := hid (bthen hT.out hA5)
      replace rmD := hid (held_after hA5 rmD.out)
      replace hED := hid (hED.out.below hA5)
      go_simp
      refine hK _ _ ⟨hA5, ?_⟩
      clear hK
      clear hA5
      refine wpAnyR_only 18 rfl (by kernel_rfl) (by rfl) (fun K hK => ?_)
      go_simp
      refine (rsize_any a0_1 cap0_1 l _ hED.out (by omega) hwf.out).mono ?_
      rintro e V5 ⟨rfl, hA5⟩
      replace hT := hid (bthen hT.out hA5)
      replace rmD := hid (held_after hA5 rmD.out)
      replace hED := hid (hED.out.below hA5)
      go_simp
      refine hK _ _ ⟨hA5, ?_⟩
      clear hK
      clear hA5
      refine wpAnyR_take 19 rfl (by kernel_rfl) (by kernel_rfl) (by kernel_rfl) (fun _ _ _ _ h => h) ⟨_, Or.inl ⟨by rfl, fun w2 hb2 => by (go_simp; try with_reducible rfl)⟩, _, by (go_simp; try rfl), ?_⟩
      refine wpAnyR_take 20 rfl (by kernel_rfl) (by kernel_rfl) (by kernel_rfl) (fun _ _ _ _ h => h) ⟨_, Or.inl ⟨by rfl, fun w2 hb2 => by (go_simp; try with_reducible rfl)⟩, _, by (go_simp; try rfl), ?_⟩
      refine wpAnyR_take 21 rfl (by kernel_rfl) (by kernel_rfl) (by kernel_rfl) (fun _ _ _ _ h => h) ⟨_, Or.inl ⟨by rfl, fun w2 hb2 => by (go_simp; try with_reducible rfl)⟩, _, by (go_simp; try rfl), ?_⟩
      refine wpAnyR_done (by kernel_rfl) ?_ _
      go_wp2_with fail
      go_ret
      exact ⟨ret_bool (by simp), bthen hBw.out hT.out⟩
    obtain ⟨x, hx⟩ : ∃ x, l[k]? = some x := ⟨_, List.getElem?_eq_getElem (show k < l.length by omega)⟩
    have hxo := hwf.out x (List.mem_of_getElem? hx)
    obtain ⟨kb, u, bl⟩ := x
    obtain ⟨hu, hbl, hbb⟩ := hxo
    dsimp only at hu hbl hbb
    obtain ⟨b0, b1, b2, b3, b4, b5, b6, b7, b8, b9, b10, b11, rfl⟩ := list12 hbl
    have kL := hid (fun U => lay_any a1_0 u a1_1 a1_2 a1_3 a1_4 a1_5 a1_6 a1_7 a1_8 a1_9 a1_10 a1_11 a1_12 b0 b1 b2 b3 b4 b5 b6 b7 b8 b9 b10 b11 kb U t1 hu v1.out hbb)
    have kM := hid (fun U => rlay_any a1_0 u a1_1 a1_2 a1_3 a1_4 a1_5 a1_6 a1_7 a1_8 a1_9 a1_10 a1_11 a1_12 b0 b1 b2 b3 b4 b5 b6 b7 b8 b9 b10 b11 kb U t1 hu v1.out hbb)
    obtain ⟨LY, hLY⟩ : ∃ y, layS (a1_0, [a1_1, a1_2, a1_3, a1_4, a1_5, a1_6, a1_7, a1_8, a1_9, a1_10, a1_11, a1_12]) (kb, u, [b0, b1, b2, b3, b4, b5, b6, b7, b8, b9, b10, b11]) = y := ⟨_, rfl⟩
    rw [hLY] at kL kM
    clear hLY
    have hEx := hid (entsV_at hx)
    obtain ⟨qb, off, hab, g0, g1, g2, g3, g4, g5, g6, g7, g8, g9, g10, g11, g12, g13⟩ := hEw.at14 hEx.out
    have kz : (0 : Int) ≤ k := by omega
    have wk : IntKind.i64.wrap ((k : Int) + 1) = (k : Int) + 1 := by rw [IntKind.wrap_i64]; omega
    have hk1 := hid (show k + 1 ≤ l.length by omega)
    subst hab
    have hA9 := hid hA
    clear hA hx hu hbl hbb hk
    go_upto_region 8 with (fail)
    have hT := hid (show After wr wr.drew from (Below.refl _ wr).drew)
    have rmD := hid (show wr.drew.heap[p0_0]? = _ from rmw)
    have rrD := hid (show wr.drew.heap[p0_1]? = _ from rrw)
    have hED := hid (show Els wr.drew 14 (some ⟨qb, off, none⟩) l.length cap0_1 (entsV l) from hEw)
    clear rmw rrw hEw z0 z1 g0 g1 g2 g3 g4 g5 g6 g7 g8 g9 g10 g11 g12 g13
    refine wp_region_R (by kernel_rfl) ?_
    refine wpAnyR_take 0 rfl (by kernel_rfl) (by kernel_rfl) (by kernel_rfl) (fun _ _ _ _ h => h) ⟨_, Or.inl ⟨by rfl, fun w2 hb2 => by (have hr := held_after hb2 rrD.out; have y0 := held_cell hr 0 _ rfl; have y1 := held_cell hr 1 _ rfl; have y2 := held_cell hr 2 _ rfl; have y3 := held_cell hr 3 _ rfl; have y4 := held_cell hr 4 _ rfl; have y5 := held_cell hr 5 _ rfl; have y6 := held_cell hr 6 _ rfl; have y7 := held_cell hr 7 _ rfl; have y8 := held_cell hr 8 _ rfl; have y9 := held_cell hr 9 _ rfl; have y10 := held_cell hr 10 _ rfl; have y11 := held_cell hr 11 _ rfl; have y12 := held_cell hr 12 _ rfl; go_simp; try with_reducible rfl)⟩, _, by (go_simp; try rfl), ?_⟩
    refine wpAnyR_take 1 rfl (by kernel_rfl) (by kernel_rfl) (by kernel_rfl) (fun _ _ _ _ h => h) ⟨_, Or.inl ⟨by rfl, fun w2 hb2 => by (go_simp; try with_reducible rfl)⟩, _, by (go_simp; try rfl), ?_⟩
    refine wpAnyR_take 2 rfl (by kernel_rfl) (by kernel_rfl) (by kernel_rfl) (fun _ _ _ _ h => h) ⟨_, Or.inl ⟨by rfl, fun w2 hb2 => by (have hr := held_after hb2 rmD.out; have g0 := held_cell hr 0 _ rfl; have g1 := held_cell hr 1 _ rfl; go_simp; try with_reducible rfl)⟩, _, by (go_simp; try rfl), ?_⟩
    refine wpAnyR_take 3 rfl (by kernel_rfl) (by kernel_rfl) (by kernel_rfl) (fun _ _ _ _ h => h) ⟨_, Or.inl ⟨by rfl, fun w2 hb2 => by (go_simp; try with_reducible rfl)⟩, _, by (go_simp; try rfl), ?_⟩
    refine wpAnyR_take 4 rfl (by kernel_rfl) (by kernel_rfl) (by kernel_rfl) (fun _ _ _ _ h => h) ⟨_, Or.inl ⟨by rfl, fun w2 hb2 => by (go_simp; try with_reducible rfl)⟩, _, by (go_simp; try rfl), ?_⟩
    refine wpAnyR_take 5 rfl (by kernel_rfl) (by kernel_rfl) (by kernel_rfl) (fun _ _ _ _ h => h) ⟨_, Or.inl ⟨by rfl, fun w2 hb2 => by (obtain ⟨b9, o9, e9, g0, g1, g2, g3, g4, g5, g6, g7, g8, g9, g10, g11, g12, g13⟩ := (hED.out.below hb2).at14 hEx.out; cases e9; go_simp; try with_reducible rfl)⟩, _, by (go_simp; try rfl), ?_⟩
    refine wpAnyR_take 8 rfl (by kernel_rfl) (by kernel_rfl) (by kernel_rfl) (fun _ _ _ _ h => h) ⟨_, Or.inl ⟨by rfl, fun w2 hb2 => by (have hr := held_after hb2 rrD.out; have y0 := held_cell hr 0 _ rfl; have y1 := held_cell hr 1 _ rfl; have y2 := held_cell hr 2 _ rfl; have y3 := held_cell hr 3 _ rfl; have y4 := held_cell hr 4 _ rfl; have y5 := held_cell hr 5 _ rfl; have y6 := held_cell hr 6 _ rfl; have y7 := held_cell hr 7 _ rfl; have y8 := held_cell hr 8 _ rfl; have y9 := held_cell hr 9 _ rfl; have y10 := held_cell hr 10 _ rfl; have y11 := held_cell hr 11 _ rfl; have y12 := held_cell hr 12 _ rfl; go_simp; try with_reducible rfl)⟩, _, by (go_simp; try rfl), ?_⟩
    refine wpAnyR_take 9 rfl (by kernel_rfl) (by kernel_rfl) (by kernel_rfl) (fun _ _ _ _ h => h) ⟨_, Or.inl ⟨by rfl, fun w2 hb2 => by (go_simp; try with_reducible rfl)⟩, _, by (go_simp; try rfl), ?_⟩
    refine wpAnyR_take 10 rfl (by kernel_rfl) (by kernel_rfl) (by kernel_rfl) (fun _ _ _ _ h => h) ⟨_, Or.inl ⟨by rfl, fun w2 hb2 => by (have hr := held_after hb2 rmD.out; have g0 := held_cell hr 0 _ rfl; have g1 := held_cell hr 1 _ rfl; go_simp; try with_reducible rfl)⟩, _, by (go_simp; try rfl), ?_⟩
    refine wpAnyR_take 11 rfl (by kernel_rfl) (by kernel_rfl) (by kernel_rfl) (fun _ _ _ _ h => h) ⟨_, Or.inl ⟨by rfl, fun w2 hb2 => by (go_simp; try with_reducible rfl)⟩, _, by (go_simp; try rfl), ?_⟩
    refine wpAnyR_take 12 rfl (by kernel_rfl) (by kernel_rfl) (by kernel_rfl) (fun _ _ _ _ h => h) ⟨_, Or.inl ⟨by rfl, fun w2 hb2 => by (go_simp; try with_reducible rfl)⟩, _, by (go_simp; try rfl), ?_⟩
    refine wpAnyR_take 13 rfl (by kernel_rfl) (by kernel_rfl) (by kernel_rfl) (fun _ _ _ _ h => h) ⟨_, Or.inl ⟨by rfl, fun w2 hb2 => by (obtain ⟨b9, o9, e9, g0, g1, g2, g3, g4, g5, g6, g7, g8, g9, g10, g11, g12, g13⟩ := (hED.out.below hb2).at14 hEx.out; cases e9; go_simp; try with_reducible rfl)⟩, _, by (go_simp; try rfl), ?_⟩
    refine wpAnyR_only 6 rfl (by kernel_rfl) (by rfl) (fun K hK => ?_)
    go_simp
    refine (kL.out _).mono ?_
    rintro e V5 ⟨s6a, s6c, rfl, hO, hA5⟩
    replace hT := hid (bthen hT.out hA5)
    replace rmD := hid (held_after hA5 rmD.out)
    replace rrD := hid (held_after hA5 rrD.out)
    replace hED := hid (hED.out.below hA5)
    have hS6 := hid hO.slf
    clear hO
    go_simp
    refine hK _ _ ⟨hA5, ?_⟩
    clear hK
    clear hA5
    refine wpAnyR_take 7 rfl (by kernel_rfl) (by kernel_rfl) (by kernel_rfl) (fun _ _ _ _ h => h) ⟨_, Or.inl ⟨by rfl, fun w2 hb2 => by (have hx := txt35 (hS6.out.below hb2); go_simp; try with_reducible rfl)⟩, _, by (go_simp; try rfl), ?_⟩
    refine wpAnyR_only 14 rfl (by kernel_rfl) (by rfl) (fun K hK => ?_)
    go_simp
    refine (kM.out _).mono ?_
    rintro e V5 ⟨s14a, s14c, rfl, hO, hA5⟩
    replace hT := hid (bthen hT.out hA5)
    replace rmD := hid (held_after hA5 rmD.out)
    replace rrD := hid (held_after hA5 rrD.out)
    replace hED := hid (hED.out.below hA5)
    replace hS6 := hid (hS6.out.below hA5)
    have hS14 := hid hO.slf
    clear hO
    go_simp
    refine hK _ _ ⟨hA5, ?_⟩
    clear hK
    clear hA5
    refine wpAnyR_take 15 rfl (by kernel_rfl) (by kernel_rfl) (by kernel_rfl) (fun _ _ _ _ h => h) ⟨_, Or.inl ⟨by rfl, fun w2 hb2 => by (have hx := txt35 (hS14.out.below hb2); go_simp; try with_reducible rfl)⟩, _, by (go_simp; try rfl), ?_⟩
    refine wpAnyR_take 16 rfl (by kernel_rfl) (by kernel_rfl) (by kernel_rfl) (fun _ _ _ _ h => h) ⟨_, Or.inl ⟨by rfl, fun w2 hb2 => by (go_simp; try with_reducible rfl)⟩, _, by (go_simp; try rfl), ?_⟩
    refine wpAnyR_done (by kernel_rfl) ?_ _
    have hA8 := hid (bthen hA9.out hT.out)
    clear hS6 hS14 rmD rrD hED hT hA9 kL kM hBw
    generalize textOf LY = TX at *
    go_wp2_with fail
    go_roundw
    case rel => exact ⟨k + 1, hk1.out, by simp, hA8.out⟩
    case measure => simp [intOf]; omega

end Go.Proofs.Ytmfhniekcbadlaa
