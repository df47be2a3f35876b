/- The laws of layer 28: VtgPuts. -/
import Derived.Test.YtcacgejljbofjaaDoorVtg5
import Derived.Laws.StructEq
import Derived.Laws.Tables
import Derived.Deep.DeepCutAuto
namespace Go.Proofs.YtcacgejljbofjaaDoor
open Go.ChangeShapes Go.WideShapes Go.ChangeAt Go.RowKit
set_option linter.unusedVariables false
set_option linter.unusedSimpArgs false

set_option maxRecDepth 100000 in
set_option maxHeartbeats 8000000 in
theorem law_VtgPuts (a0_0 : Bool) (a0_1 : Int) (a0_2 : Bool) (a0_3 : Int) (a0_4 : Bool) (a0_5 : Int) (a0_6 : Bool) (a0_7 : Int) (W : World) (w0_1 : (Lit.int .i64 a0_1).wf = true) (w0_3 : (Lit.int .i64 a0_3).wf = true) (w0_5 : (Lit.int .i64 a0_5).wf = true) (w0_7 : (Lit.int .i64 a0_7).wf = true) (hT : Tab W) :
    Calls Tryd.prog 3 #[.agg #[.bool a0_0, .int .i64 a0_1, .bool a0_2, .int .i64 a0_3, .bool a0_4, .int .i64 a0_5, .bool a0_6, .int .i64 a0_7]] W fun e w' => e = .returned (.bool true) ∧ Below W.heap.size W w' := by
  have hbd := And.intro (bounds_i64 w0_1) (And.intro (bounds_i64 w0_3) (And.intro (bounds_i64 w0_5) (bounds_i64 w0_7)))
  clear w0_1 w0_3 w0_5 w0_7
  have k1 := hid (fun U (h : Tab U) => vtput_any a0_0 a0_1 a0_2 a0_3 a0_4 a0_5 a0_6 a0_7 U hbd h)
  have k2 := hid (fun U => rvtput_any a0_0 a0_1 a0_2 a0_3 a0_4 a0_5 a0_6 a0_7 U hbd)
  obtain ⟨ag, hag⟩ : ∃ x, agB a0_4 a0_5 a0_6 a0_7 = x := ⟨_, rfl⟩
  obtain ⟨km, hkm⟩ : ∃ x, kmS a0_5 = x := ⟨_, rfl⟩
  have k3 := hid (fun U => hag ▸ agrees28_any a0_0 a0_1 a0_2 a0_3 a0_4 a0_5 a0_6 a0_7 U hbd.2.2.1)
  have k4 := hid (fun U => hag ▸ ragrees28_any a0_0 a0_1 a0_2 a0_3 a0_4 a0_5 a0_6 a0_7 U hbd.2.2.1)
  have k5 := hid (fun U => hkm ▸ kmh28_any a0_5 U hbd.2.2.1)
  have k6 := hid (fun U => hkm ▸ rkmh28_any a0_5 U hbd.2.2.1)
  obtain ⟨E, hE⟩ : ∃ E, fE (vtI a0_0 a0_1 a0_2 a0_3 a0_4 a0_5 a0_6 a0_7) = E := ⟨_, rfl⟩
  obtain ⟨L, hL⟩ : ∃ L, fL (vtI a0_0 a0_1 a0_2 a0_3 a0_4 a0_5 a0_6 a0_7) = L := ⟨_, rfl⟩
  rw [hE, hL] at k1 k2
  have hLl : L.length ≤ 14 := by rw [← hL]; simp [vtI, fL]
  obtain ⟨F, hF⟩ : ∃ F, (if E = 0 then L else []) = F := ⟨_, rfl⟩
  have hFl : F.length ≤ 14 := by rw [← hF]; split <;> first | omega | simp
  clear hE hL hag hkm hbd hLl
  replace hT := hid hT
  replace hF := hid hF
  go_enter Tryd.func3, Tryd.ntmps3
  go_upto_region 0 with (fail)
  apply wp_region_seg0 (w := W) (S := [.al 1000, .q []]) (E := [.al ((fun p => .pointer (some ⟨p, 0, none⟩)), _) 1000, .q0 _]) rfl (by kernel_rfl) rfl rfl
  intro th hge hne
  refine Seg.step _ rfl ⟨by rfl, fun U hU => ?_⟩ ?_
  · go_simp; exact vp_alloc rfl rfl rfl
  refine Seg.sa ?_
  refine Seg.sq ?_
  refine Seg.stop (fun U1 hU hk => ?_)
  have nb0 := hge 0 _ _ rfl
  have rb0 := (hk 0 _ _ rfl trivial).1.2 (by simp)
  clear hk hge hne
  generalize th (0 + 0) = p0_0 at *
  dsimp only at rb0
  have r_p0_0 := rb0
  clear rb0
  have n_p0_0 := nb0
  clear nb0
  have sz1 := hU.size
  have hB : Below W.heap.size W U1 := hU
  clear hU
  replace hT := hid (hT.out.on hB)
  replace hB := hid hB
  have r1 := hid r_p0_0
  clear r_p0_0 n_p0_0
  go_wp2_with (first | (refine wpList_load_row rfl 25 (.tmp 1) rfl p0_0 rfl 25 #[.bool a0_0, .int .i64 a0_1, .bool a0_2, .int .i64 a0_3, .bool a0_4, .int .i64 a0_5, .bool a0_6, .int .i64 a0_7] (0, 0) _ r1.out Tryd.underlying25 rfl (by kernel_rfl) ?_))
  refine (k1.out _ hT.out).mono ?_
  rintro e V1 ⟨a1, c1, rfl, g1, -, hA⟩
  rw [hF.out] at g1 ⊢
  replace g1 := hid g1
  replace hB := hid (bthen hB.out hA)
  replace hT := hid (hT.out.on hA)
  replace r1 := hid (held_after hA r1.out)
  clear hA
  obtain ⟨m, hm⟩ : ∃ m, F.length = m := ⟨_, rfl⟩
  rw [hm] at hFl
  rw [hm]
  replace g1 := hid (show Els V1 1 a1 m c1 (strV23 F) from hm ▸ g1.out)
  go_wp2_with (first | (refine wpList_load_row rfl 25 (.tmp 1) rfl p0_0 rfl 25 #[.bool a0_0, .int .i64 a0_1, .bool a0_2, .int .i64 a0_3, .bool a0_4, .int .i64 a0_5, .bool a0_6, .int .i64 a0_7] (0, 0) _ r1.out Tryd.underlying25 rfl (by kernel_rfl) ?_))
  refine (k2.out _).mono ?_
  rintro e V2 ⟨a2, c2, rfl, g2, -, hA⟩
  rw [hF.out] at g2 ⊢
  rw [hm]
  replace g2 := hid (show Els V2 1 a2 m c2 (strV23 F) from hm ▸ g2)
  replace g1 := hid (g1.out.below hA)
  replace hB := hid (bthen hB.out hA)
  replace hT := hid (hT.out.on hA)
  replace r1 := held_after hA r1.out
  clear hA
  replace hm := hid hm
  have hFb := hid hFl
  clear hFl
  have hB0 := hB
  clear hB
  go_upto_region 3 with (fail)
  apply wp_region_seg (w := V2) (S := (.q [] :: .q [] :: .q [] :: .q [] :: .q [] :: .q [] :: .q [] :: .q [] :: .q [] :: .q [] :: .q [] :: .q [] :: .q [] :: .q [] :: .q [] :: .q [] :: .q [] :: .q [] :: .q [] :: .q [] :: .q [] :: .q [] :: .q [] :: .q [] :: .q [] :: .q [] :: .q [] :: .q [] :: .q [] :: .q [] :: .q [] :: .q [] :: [])) (E := (.q0 _ :: .q0 _ :: .c0 _ :: .q0 _ :: .q0 _ :: .c0 _ :: .q0 _ :: .c0 _ :: .q0 _ :: .q0 _ :: .q0 _ :: .q0 _ :: .c0 _ :: .q0 _ :: .c0 _ :: .q0 _ :: .q0 _ :: .q0 _ :: .q0 _ :: .q0 _ :: .q0 _ :: .c0 _ :: .q0 _ :: .q0 _ :: .q0 _ :: .c0 _ :: .q0 _ :: .q0 _ :: .q0 _ :: .c0 _ :: .q0 _ :: .q0 _ :: [])) (by kernel_rfl) rfl (by kernel_rfl) rfl rfl
  intro th hge hne
  refine Seg.sq ?_
  refine Seg.sq ?_
  refine Seg.step _ rfl (Or.inl ⟨by rfl, fun U hU => ?_⟩) ?_
  · go_simp
    refine vp_call (texts23_same a1 a2 c1 c2 m F _ hm.out (g1.out.below hU.1) (g2.out.below hU.1) (by have := hFb.out; omega))
  refine Seg.sa ?_
  refine Seg.sq ?_
  refine Seg.sq ?_
  refine Seg.step _ rfl (Or.inl ⟨by rfl, fun U hU => ?_⟩) ?_
  · go_simp
    refine vp_call (num28_aft E _)
  refine Seg.sa ?_
  refine Seg.sq ?_
  refine Seg.step _ rfl (Or.inl ⟨by rfl, fun U hU => ?_⟩) ?_
  · go_simp
    refine vp_call (num28_aft E _)
  refine Seg.sa ?_
  iterate 3 refine Seg.sq ?_
  refine Seg.sq ?_ (ht := Or.inl ⟨by rfl, fun U hU => vp_quiet (by (have h0 := held_cell (held_after hU.1 r1) 0 _ rfl; have h1 := held_cell (held_after hU.1 r1) 1 _ rfl; have h2 := held_cell (held_after hU.1 r1) 2 _ rfl; have h3 := held_cell (held_after hU.1 r1) 3 _ rfl; have h4 := held_cell (held_after hU.1 r1) 4 _ rfl; have h5 := held_cell (held_after hU.1 r1) 5 _ rfl; have h6 := held_cell (held_after hU.1 r1) 6 _ rfl; have h7 := held_cell (held_after hU.1 r1) 7 _ rfl; go_simp <;> exact rfl))⟩)
  refine Seg.step _ rfl (Or.inl ⟨by rfl, fun U hU => ?_⟩) ?_
  · go_simp
    refine vp_call (k3.out _)
  refine Seg.sa ?_
  refine Seg.sq ?_ (ht := Or.inl ⟨by rfl, fun U hU => vp_quiet (by (have h0 := held_cell (held_after hU.1 r1) 0 _ rfl; have h1 := held_cell (held_after hU.1 r1) 1 _ rfl; have h2 := held_cell (held_after hU.1 r1) 2 _ rfl; have h3 := held_cell (held_after hU.1 r1) 3 _ rfl; have h4 := held_cell (held_after hU.1 r1) 4 _ rfl; have h5 := held_cell (held_after hU.1 r1) 5 _ rfl; have h6 := held_cell (held_after hU.1 r1) 6 _ rfl; have h7 := held_cell (held_after hU.1 r1) 7 _ rfl; go_simp <;> exact rfl))⟩)
  refine Seg.step _ rfl (Or.inl ⟨by rfl, fun U hU => ?_⟩) ?_
  · go_simp
    refine vp_call (k4.out _)
  refine Seg.sa ?_
  iterate 5 refine Seg.sq ?_
  refine Seg.sq ?_ (ht := Or.inl ⟨by rfl, fun U hU => vp_quiet (by (have h0 := held_cell (held_after hU.1 r1) 5 _ rfl; go_simp <;> exact rfl))⟩)
  refine Seg.step _ rfl (Or.inl ⟨by rfl, fun U hU => ?_⟩) ?_
  · go_simp
    refine vp_call (k5.out _)
  refine Seg.sa ?_
  refine Seg.sq ?_
  refine Seg.sq ?_
  refine Seg.sq ?_ (ht := Or.inl ⟨by rfl, fun U hU => vp_quiet (by (have h0 := held_cell (held_after hU.1 r1) 5 _ rfl; go_simp <;> exact rfl))⟩)
  refine Seg.step _ rfl (Or.inl ⟨by rfl, fun U hU => ?_⟩) ?_
  · go_simp
    refine vp_call (k6.out _)
  refine Seg.sa ?_
  iterate 3 refine Seg.sq ?_
  refine Seg.step _ rfl (Or.inl ⟨by rfl, fun U hU => ?_⟩) ?_
  · go_simp
    refine vp_call (knows28_any _ (hT.out.on hU.1))
  refine Seg.sa ?_
  refine Seg.sq ?_
  refine Seg.sq ?_
  refine Seg.stop (fun U6 hU hk => ?_)
  clear hk hge hne
  replace r1 := held_after hU r1
  have sz6 := hU.size
  have hB : Below V2.heap.size V2 U6 := hU
  clear hU
  have hB9 := hid (bthen hB0.out hB)
  clear hB hB0 r1
  go_wp2_with fail
  go_ret
  exact ⟨ret_bool (by simp), hB9.out⟩

end Go.Proofs.YtcacgejljbofjaaDoor
