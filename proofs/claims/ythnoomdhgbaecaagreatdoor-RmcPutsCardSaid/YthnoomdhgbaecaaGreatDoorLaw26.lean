/- The laws of layer 26: RmcPuts, RmcTakes. -/
import Derived.Test.YthnoomdhgbaecaaGreatDoorRC
import Derived.Test.YthnoomdhgbaecaaGreatDoorRA
import Derived.Laws.StructEq
import Derived.Deep.DeepCutAuto
namespace Go.Proofs.YthnoomdhgbaecaaGreatDoor

open Go.ChangeShapes Go.WideShapes Go.ChangeAt Go.RowKit

set_option linter.unusedVariables false

set_option linter.unusedSimpArgs false

set_option maxRecDepth 100000 in
set_option maxHeartbeats 8000000 in
theorem law_RmcPuts (a0_0 : Bool) (a0_1 : Int) (a0_2 : Int) (a0_3 : Int) (a0_4 : Int) (a0_5 : Bool) (a0_6 : Bool) (a0_7 : Int) (a0_8 : Bool) (a0_9 : Int) (a0_10 : Bool) (a0_11 : Int) (a0_12 : Bool) (a0_13 : Int) (a0_14 : Bool) (a0_15 : Int) (a0_16 : Bool) (a0_17 : Int) (a0_18 : Int) (a0_19 : Int) (W : World) (w0_1 : (Lit.int .i64 a0_1).wf = true) (w0_2 : (Lit.int .i64 a0_2).wf = true) (w0_3 : (Lit.int .i64 a0_3).wf = true) (w0_4 : (Lit.int .i64 a0_4).wf = true) (w0_7 : (Lit.int .i64 a0_7).wf = true) (w0_9 : (Lit.int .i64 a0_9).wf = true) (w0_11 : (Lit.int .i64 a0_11).wf = true) (w0_13 : (Lit.int .i64 a0_13).wf = true) (w0_15 : (Lit.int .i64 a0_15).wf = true) (w0_17 : (Lit.int .i64 a0_17).wf = true) (w0_18 : (Lit.int .i64 a0_18).wf = true) (w0_19 : (Lit.int .i64 a0_19).wf = true) (hT : Tab W) :
    Calls Tryz.prog 3 #[.agg #[.bool a0_0, .int .i64 a0_1, .int .i64 a0_2, .int .i64 a0_3, .int .i64 a0_4, .bool a0_5, .bool a0_6, .int .i64 a0_7, .bool a0_8, .int .i64 a0_9, .bool a0_10, .int .i64 a0_11, .bool a0_12, .int .i64 a0_13, .bool a0_14, .int .i64 a0_15, .bool a0_16, .int .i64 a0_17, .int .i64 a0_18, .int .i64 a0_19]] W fun e w' => e = .returned (.bool true) ∧ Below W.heap.size W w' := by
  have hbd := And.intro (bounds_i64 w0_7) (And.intro (bounds_i64 w0_9) (And.intro (bounds_i64 w0_11) (And.intro (bounds_i64 w0_13) (bounds_i64 w0_15))))
  clear w0_1 w0_2 w0_3 w0_4 w0_7 w0_9 w0_11 w0_13 w0_15 w0_17 w0_18 w0_19
  obtain ⟨T, k, hV, -⟩ := putV_form a0_0 a0_1 a0_2 a0_3 a0_4
  obtain ⟨Td, kd, hD⟩ := putD_form26 a0_16 a0_17 a0_18 a0_19
  have k1 := hid (fun U (h : Tab U) => rmput_any a0_0 a0_1 a0_2 a0_3 a0_4 a0_5 a0_6 a0_7 a0_8 a0_9 a0_10 a0_11 a0_12 a0_13 a0_14 a0_15 a0_16 a0_17 a0_18 a0_19 T k Td kd hV hD U hbd h)
  have k2 := hid (fun U => rrmput_any a0_0 a0_1 a0_2 a0_3 a0_4 a0_5 a0_6 a0_7 a0_8 a0_9 a0_10 a0_11 a0_12 a0_13 a0_14 a0_15 a0_16 a0_17 a0_18 a0_19 T k Td kd hV hD U hbd)
  obtain ⟨ca, cb, hC⟩ : ∃ (a : Int) (b : Bool), cntV a0_16 a0_17 a0_18 a0_19 a0_0 a0_1 a0_2 a0_3 a0_4 = .tuple #[.int .i64 a, .bool b] := by unfold cntV; split <;> exact ⟨_, _, rfl⟩
  have k3 := hid (fun U => hC ▸ when26_any a0_0 a0_1 a0_2 a0_3 a0_4 a0_5 a0_6 a0_7 a0_8 a0_9 a0_10 a0_11 a0_12 a0_13 a0_14 a0_15 a0_16 a0_17 a0_18 a0_19 U)
  have k4 := hid (fun U => hC ▸ rwhen26_any a0_0 a0_1 a0_2 a0_3 a0_4 a0_5 a0_6 a0_7 a0_8 a0_9 a0_10 a0_11 a0_12 a0_13 a0_14 a0_15 a0_16 a0_17 a0_18 a0_19 U)
  obtain ⟨E, hE⟩ : ∃ E, fE (rmI T k a0_5 a0_6 a0_7 a0_8 a0_9 a0_10 a0_11 a0_12 a0_13 a0_14 a0_15 Td kd) = E := ⟨_, rfl⟩
  obtain ⟨L, hL⟩ : ∃ L, fL (rmI T k a0_5 a0_6 a0_7 a0_8 a0_9 a0_10 a0_11 a0_12 a0_13 a0_14 a0_15 Td kd) = L := ⟨_, rfl⟩
  rw [hE, hL] at k1 k2
  have hLl : L.length ≤ 14 := by rw [← hL]; simp [rmI, fL]
  obtain ⟨F, hF⟩ : ∃ F, (if E = 0 then L else []) = F := ⟨_, rfl⟩
  have hFl : F.length ≤ 14 := by rw [← hF]; split <;> first | omega | simp
  clear hE hL hV hD hC hbd hLl
  replace hT := hid hT
  replace hF := hid hF
  go_enter Tryz.func3, Tryz.ntmps3
  go_upto_region 0 with (fail)
  apply wp_region_seg0 (w := W) (S := [.al 1000, .q []]) (E := [.al ((fun p => .pointer (some ⟨p, 0, none⟩)), _) 1000, .q0 _]) rfl (by kernel_rfl) rfl rfl
  intro th hge hne
  refine Seg.step _ rfl ⟨by rfl, fun U hU => ?_⟩ ?_
  · go_simp; exact vp_alloc rfl rfl rfl
  refine Seg.sa ?_
  refine Seg.sq ?_
  refine Seg.stop (fun U1 hU hk => ?_)
  have nb0 := hge 0 _ _ rfl
  have rb0 := (hk 0 _ _ rfl trivial).1.2 (by simp)
  clear hk hge hne
  generalize th (0 + 0) = p0_0 at *
  dsimp only at rb0
  have r_p0_0 := rb0
  clear rb0
  have n_p0_0 := nb0
  clear nb0
  have sz1 := hU.size
  have hB : Below W.heap.size W U1 := hU
  clear hU
  replace hT := hid (hT.out.on hB)
  replace hB := hid hB
  have r1 := hid r_p0_0
  clear r_p0_0 n_p0_0
  go_wp2_with (first | (refine wpList_load_row rfl 29 (.tmp 1) rfl p0_0 rfl 29 #[.bool a0_0, .int .i64 a0_1, .int .i64 a0_2, .int .i64 a0_3, .int .i64 a0_4, .bool a0_5, .bool a0_6, .int .i64 a0_7, .bool a0_8, .int .i64 a0_9, .bool a0_10, .int .i64 a0_11, .bool a0_12, .int .i64 a0_13, .bool a0_14, .int .i64 a0_15, .bool a0_16, .int .i64 a0_17, .int .i64 a0_18, .int .i64 a0_19] (0, 0) _ r1.out Tryz.underlying29 rfl (by kernel_rfl) ?_))
  refine (k1.out _ hT.out).mono ?_
  rintro e V1 ⟨a1, c1, rfl, g1, -, hA⟩
  rw [hF.out] at g1 ⊢
  replace g1 := hid g1
  replace hB := hid (bthen hB.out hA)
  replace hT := hid (hT.out.on hA)
  replace r1 := hid (held_after hA r1.out)
  clear hA
  obtain ⟨m, hm⟩ : ∃ m, F.length = m := ⟨_, rfl⟩
  rw [hm] at hFl
  rw [hm]
  replace g1 := hid (show Els V1 1 a1 m c1 (strV23 F) from hm ▸ g1.out)
  go_wp2_with (first | (refine wpList_load_row rfl 29 (.tmp 1) rfl p0_0 rfl 29 #[.bool a0_0, .int .i64 a0_1, .int .i64 a0_2, .int .i64 a0_3, .int .i64 a0_4, .bool a0_5, .bool a0_6, .int .i64 a0_7, .bool a0_8, .int .i64 a0_9, .bool a0_10, .int .i64 a0_11, .bool a0_12, .int .i64 a0_13, .bool a0_14, .int .i64 a0_15, .bool a0_16, .int .i64 a0_17, .int .i64 a0_18, .int .i64 a0_19] (0, 0) _ r1.out Tryz.underlying29 rfl (by kernel_rfl) ?_))
  refine (k2.out _).mono ?_
  rintro e V2 ⟨a2, c2, rfl, g2, -, hA⟩
  rw [hF.out] at g2 ⊢
  rw [hm]
  replace g2 := hid (show Els V2 1 a2 m c2 (strV23 F) from hm ▸ g2)
  replace g1 := hid (g1.out.below hA)
  replace hB := hid (bthen hB.out hA)
  replace hT := hid (hT.out.on hA)
  replace r1 := hid (held_after hA r1.out)
  clear hA
  replace hm := hid hm
  go_wp2_with (first | (refine wpList_load_row rfl 29 (.tmp 1) rfl p0_0 rfl 29 #[.bool a0_0, .int .i64 a0_1, .int .i64 a0_2, .int .i64 a0_3, .int .i64 a0_4, .bool a0_5, .bool a0_6, .int .i64 a0_7, .bool a0_8, .int .i64 a0_9, .bool a0_10, .int .i64 a0_11, .bool a0_12, .int .i64 a0_13, .bool a0_14, .int .i64 a0_15, .bool a0_16, .int .i64 a0_17, .int .i64 a0_18, .int .i64 a0_19] (0, 0) _ r1.out Tryz.underlying29 rfl (by kernel_rfl) ?_))
  refine (k3.out _).mono ?_
  rintro e X3 ⟨rfl, hA⟩
  replace g1 := hid (g1.out.below hA)
  replace g2 := hid (g2.out.below hA)
  replace hB := hid (bthen hB.out hA)
  replace hT := hid (hT.out.on hA)
  replace r1 := hid (held_after hA r1.out)
  clear hA
  go_wp2_with (first | (refine wpList_load_row rfl 29 (.tmp 1) rfl p0_0 rfl 29 #[.bool a0_0, .int .i64 a0_1, .int .i64 a0_2, .int .i64 a0_3, .int .i64 a0_4, .bool a0_5, .bool a0_6, .int .i64 a0_7, .bool a0_8, .int .i64 a0_9, .bool a0_10, .int .i64 a0_11, .bool a0_12, .int .i64 a0_13, .bool a0_14, .int .i64 a0_15, .bool a0_16, .int .i64 a0_17, .int .i64 a0_18, .int .i64 a0_19] (0, 0) _ r1.out Tryz.underlying29 rfl (by kernel_rfl) ?_))
  refine (k4.out _).mono ?_
  rintro e X4 ⟨rfl, hA⟩
  replace g1 := hid (g1.out.below hA)
  replace g2 := hid (g2.out.below hA)
  replace hB := hid (bthen hB.out hA)
  replace hT := hid (hT.out.on hA)
  replace r1 := hid (held_after hA r1.out)
  clear hA
  clear r1 k1 k2 k3 k4
  go_wp2_with fail
  refine (texts23_same a1 a2 c1 c2 m F _ hm.out g1.out g2.out (by omega)).mono ?_
  rintro e V3 ⟨rfl, hA⟩
  replace hB := hid (bthen hB.out hA)
  replace hT := hid (hT.out.on hA)
  clear hA
  go_wp2_with fail
  refine (num26_any E _).mono ?_
  rintro e V ⟨rfl, hv⟩
  obtain rfl : V3 = V := hv.symm
  go_wp2_with fail
  refine (num26_any E _).mono ?_
  rintro e V ⟨rfl, hv⟩
  obtain rfl : V3 = V := hv.symm
  go_wp2_with fail
  refine (knows26_any _ hT.out).mono ?_
  rintro e V4 ⟨rfl, hA⟩
  replace hB := hid (bthen hB.out hA)
  clear hA
  go_wp2_with fail
  go_ret
  exact ⟨ret_bool (by simp), hB.out⟩
set_option maxRecDepth 100000 in
set_option maxHeartbeats 16000000 in
theorem law_RmcTakes (a0 : Option Addr) (len0 cap0 : Nat) (x0 : List (List Value)) (W : World) (w0 : Els W 1 a0 len0 cap0 x0) (t0 : ∀ x ∈ x0, (∃ (c0 : ByteArray), x = [.string c0] ∧ (c0.size ≤ maxLen))) (hT : Tab W) :
    Calls Tryz.prog 4 #[.slice a0 len0 cap0] W fun e w' => e = .returned (.bool true) ∧ Below W.heap.size W w' := by
  obtain ⟨F, rfl⟩ : ∃ F, x0 = strV23 F := strV23_of x0 (fun x hx => by obtain ⟨c, h, -⟩ := t0 x hx; exact ⟨c, h⟩)
  have hlen := w0.1
  rw [strV23_len] at hlen
  have hEl := hid w0
  clear t0 w0
  replace hT := hid hT
  go_enter Tryz.func4, Tryz.ntmps4
  go_wp2_with fail
  refine (few25_any a0 len0 cap0 F _ hlen hEl.out).mono ?_
  rintro e V1 ⟨b, rfl, hfew, hA⟩
  have hB := hid hA
  replace hT := hid (hT.out.on hA)
  replace hEl := hid (hEl.out.below hA)
  clear hA
  cases b
  case false =>
    clear hfew
    go_wp2_with fail
    refine (knows26_any _ hT.out).mono ?_
    rintro e V2 ⟨rfl, hA⟩
    replace hB := hid (bthen hB.out hA)
    clear hA
    go_wp2_with fail
    go_ret
    exact ⟨rfl, hB.out⟩
  obtain ⟨h40, h100⟩ := hfew rfl
  clear hfew
  go_wp2_with fail
  refine (knows26_any _ hT.out).mono ?_
  rintro e V2 ⟨rfl, hA⟩
  replace hB := hid (bthen hB.out hA)
  replace hT := hid (hT.out.on hA)
  replace hEl := hid (hEl.out.below hA)
  clear hA
  obtain ⟨b, ho, mi, se, ce, ac, ai, an, oi, on, pi, pn, ci, cn, vi, vn, db, dd, dm, dy, E, k1, k2⟩ := two26 F len0 hlen h100
  clear h40 h100 hlen
  replace k1 := hid k1
  replace k2 := hid k2
  replace hB := hB.out
  go_upto_region 3 with (fail)
  apply wp_region_seg0 (w := V2) (S := [.q [], .q [], .q [], .q [], .q [], .al 6, .st 5 [], .q []]) (E := [.q0 _, .c0 _, .q0 _, .q0 _, .q0 _, .al ((fun p => .pointer (some ⟨p, 0, none⟩)), _) 6, .s0 5 (.cells _ _), .q0 _]) rfl (by kernel_rfl) rfl rfl
  intro th hge hne
  refine Seg.sq ?_
  refine Seg.step _ rfl (Or.inl ⟨by rfl, fun U hU => ?_⟩) ?_
  · go_simp
    refine vp_call (k1.out _ _ _ (hEl.out.below hU.1))
  refine Seg.sa ?_
  iterate 3 refine Seg.sq ?_
  refine Seg.step _ rfl ⟨by rfl, fun U hU => ?_⟩ ?_
  · go_simp; exact vp_alloc rfl rfl rfl
  refine Seg.sa ?_
  refine Seg.step _ rfl ⟨by rfl, fun U z k hz hU hc => ?_⟩ ?_
  · have hz2 := Option.some.inj hz
    cases hz2; clear hz
    exact vp_store_agg _ _ _ rfl hc rfl rfl (by kernel_rfl) rfl (by rfl)
  refine Seg.sa ?_
  refine Seg.sq ?_
  refine Seg.stop (fun U21 hU hk => ?_)
  have nb5 := hge 5 _ _ rfl
  have rb5 := (hk 5 _ 6 rfl trivial).1.1 trivial _ (Nat.zero_le _) rfl
  clear hk hge hne
  generalize th (0 + 5) = p3_5 at *
  simp only [Ent.obj] at rb5
  have r_p3_5 := rb5
  clear rb5
  have n_p3_5 := nb5
  clear nb5
  have sz21 := hU.size
  replace hB := bthen hB hU
  replace hEl := hid (hEl.out.below hU)
  clear hU
  go_upto_region 4 with (fail)
  apply wp_region_seg0 (w := U21) (S := [.q [], .q [], .q [], .q [], .q [], .al 6, .st 5 [], .q []]) (E := [.q0 _, .c0 _, .q0 _, .q0 _, .q0 _, .al ((fun p => .pointer (some ⟨p, 0, none⟩)), _) 6, .s0 5 (.cells _ _), .q0 _]) rfl (by kernel_rfl) rfl rfl
  intro th hge hne
  refine Seg.sq ?_
  refine Seg.step _ rfl (Or.inl ⟨by rfl, fun U hU => ?_⟩) ?_
  · go_simp
    refine vp_call (k2.out _ _ _ (hEl.out.below hU.1))
  refine Seg.sa ?_
  iterate 3 refine Seg.sq ?_
  refine Seg.step _ rfl ⟨by rfl, fun U hU => ?_⟩ ?_
  · go_simp; exact vp_alloc rfl rfl rfl
  refine Seg.sa ?_
  refine Seg.step _ rfl ⟨by rfl, fun U z k hz hU hc => ?_⟩ ?_
  · have hz2 := Option.some.inj hz
    cases hz2; clear hz
    exact vp_store_agg _ _ _ rfl hc rfl rfl (by kernel_rfl) rfl (by rfl)
  refine Seg.sa ?_
  refine Seg.sq ?_
  refine Seg.stop (fun U22 hU hk => ?_)
  have nb5 := hge 5 _ _ rfl
  have rb5 := (hk 5 _ 6 rfl trivial).1.1 trivial _ (Nat.zero_le _) rfl
  clear hk hge hne
  generalize th (0 + 5) = p4_5 at *
  simp only [Ent.obj] at rb5
  replace r_p3_5 := held_after hU r_p3_5
  have r_p4_5 := rb5
  clear rb5
  have n_p4_5 := nb5
  clear nb5
  have sz22 := hU.size
  replace hB := bthen hB hU
  clear hU
  have r1 := hid r_p3_5
  have r2 := hid r_p4_5
  replace hB := hid hB
  clear r_p3_5 r_p4_5
  have hq := fun W => eqR20 b ho mi se ce ac ai an oi on pi pn ci cn vi vn db dd dm dy W
  go_wp2_with (first | (refine wpList_load_row rfl 29 (.tmp 3) rfl p3_5 rfl 29 #[.bool b, .int .i64 ho, .int .i64 mi, .int .i64 se, .int .i64 ce, .bool ac, .bool ai, .int .i64 an, .bool oi, .int .i64 on, .bool pi, .int .i64 pn, .bool ci, .int .i64 cn, .bool vi, .int .i64 vn, .bool db, .int .i64 dd, .int .i64 dm, .int .i64 dy] (0, 0) _ r1.out Tryz.underlying29 rfl (by kernel_rfl) ?_) | (refine wpList_load_row rfl 29 (.tmp 5) rfl p4_5 rfl 29 #[.bool b, .int .i64 ho, .int .i64 mi, .int .i64 se, .int .i64 ce, .bool ac, .bool ai, .int .i64 an, .bool oi, .int .i64 on, .bool pi, .int .i64 pn, .bool ci, .int .i64 cn, .bool vi, .int .i64 vn, .bool db, .int .i64 dd, .int .i64 dm, .int .i64 dy] (0, 0) _ r2.out Tryz.underlying29 rfl (by kernel_rfl) ?_))
  refine (num26_any E _).mono ?_
  rintro e V ⟨rfl, hv⟩
  obtain rfl : U22 = V := hv.symm
  go_wp2_with fail
  refine (num26_any E _).mono ?_
  rintro e V ⟨rfl, hv⟩
  obtain rfl : U22 = V := hv.symm
  go_wp2_with fail
  go_ret
  exact ⟨ret_bool (by simp), hB.out⟩

end Go.Proofs.YthnoomdhgbaecaaGreatDoor
