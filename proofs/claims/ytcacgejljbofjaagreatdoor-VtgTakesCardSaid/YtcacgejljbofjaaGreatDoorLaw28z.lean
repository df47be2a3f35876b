/- The laws of layer 28: VtgTakes. -/
import Derived.Test.YtcacgejljbofjaaGreatDoorVtg6
import Derived.Laws.StructEq
import Derived.Deep.DeepCutAuto
namespace Go.Proofs.YtcacgejljbofjaaGreatDoor
open Go.ChangeShapes Go.WideShapes Go.ChangeAt Go.RowKit
set_option linter.unusedVariables false
set_option linter.unusedSimpArgs false

set_option maxRecDepth 100000 in
set_option maxHeartbeats 16000000 in
theorem law_VtgTakes (a0 : Option Addr) (len0 cap0 : Nat) (x0 : List (List Value)) (W : World) (w0 : Els W 1 a0 len0 cap0 x0) (t0 : ∀ x ∈ x0, (∃ (c0 : ByteArray), x = [.string c0] ∧ (c0.size ≤ maxLen))) (hT : Tab W) :
    Calls Tryz.prog 3 #[.slice a0 len0 cap0] W fun e w' => e = .returned (.bool true) ∧ Below W.heap.size W w' := by
  obtain ⟨F, rfl⟩ : ∃ F, x0 = strV23 F := strV23_of x0 (fun x hx => by obtain ⟨c, h, -⟩ := t0 x hx; exact ⟨c, h⟩)
  have hlen := w0.1
  rw [strV23_len] at hlen
  have hEl := hid w0
  clear t0 w0
  replace hT := hid hT
  go_enter Tryz.func3, Tryz.ntmps3
  go_wp2_with fail
  refine (few25_any a0 len0 cap0 F _ hlen hEl.out).mono ?_
  rintro e V1 ⟨b, rfl, hfew, hA⟩
  have hB := hid hA
  replace hT := hid (hT.out.on hA)
  replace hEl := hid (hEl.out.below hA)
  clear hA
  cases b
  case false =>
    clear hfew
    go_wp2_with fail
    refine (knows28_any _ hT.out).mono ?_
    rintro e V2 ⟨rfl, hA⟩
    replace hB := hid (bthen hB.out hA)
    clear hA
    go_wp2_with fail
    go_ret
    exact ⟨rfl, hB.out⟩
  obtain ⟨h40, h100⟩ := hfew rfl
  clear hfew
  go_wp2_with fail
  refine (knows28_any _ hT.out).mono ?_
  rintro e V2 ⟨rfl, hA⟩
  replace hB := hid (bthen hB.out hA)
  replace hT := hid (hT.out.on hA)
  replace hEl := hid (hEl.out.below hA)
  clear hA
  obtain ⟨g0i, g0n, g1i, g1n, g2i, g2n, g3i, g3n, E, k1, k2⟩ := two28 F len0 hlen h100
  clear h40 h100 hlen
  replace k1 := hid k1
  replace k2 := hid k2
  replace hB := hB.out
  go_upto_region 3 with (fail)
  apply wp_region_seg0 (w := V2) (S := [.q [], .q [], .q [], .q [], .q [], .al 6, .st 5 [], .q []]) (E := [.q0 _, .c0 _, .q0 _, .q0 _, .q0 _, .al ((fun p => .pointer (some ⟨p, 0, none⟩)), _) 6, .s0 5 (.cells _ _), .q0 _]) rfl (by kernel_rfl) rfl rfl
  intro th hge hne
  refine Seg.sq ?_
  refine Seg.step _ rfl (Or.inl ⟨by rfl, fun U hU => ?_⟩) ?_
  · go_simp
    refine vp_call (k1.out _ _ _ (hEl.out.below hU.1))
  refine Seg.sa ?_
  iterate 3 refine Seg.sq ?_
  refine Seg.step _ rfl ⟨by rfl, fun U hU => ?_⟩ ?_
  · go_simp; exact vp_alloc rfl rfl rfl
  refine Seg.sa ?_
  refine Seg.step _ rfl ⟨by rfl, fun U z k hz hU hc => ?_⟩ ?_
  · have hz2 := Option.some.inj hz
    cases hz2; clear hz
    exact vp_store_agg _ _ _ rfl hc rfl rfl (by kernel_rfl) rfl (by rfl)
  refine Seg.sa ?_
  refine Seg.sq ?_
  refine Seg.stop (fun U21 hU hk => ?_)
  have nb5 := hge 5 _ _ rfl
  have rb5 := (hk 5 _ 6 rfl trivial).1.1 trivial _ (Nat.zero_le _) rfl
  clear hk hge hne
  generalize th (0 + 5) = p3_5 at *
  simp only [Ent.obj] at rb5
  have r_p3_5 := rb5
  clear rb5
  have n_p3_5 := nb5
  clear nb5
  have sz21 := hU.size
  replace hB := bthen hB hU
  replace hEl := hid (hEl.out.below hU)
  clear hU
  go_upto_region 4 with (fail)
  apply wp_region_seg0 (w := U21) (S := [.q [], .q [], .q [], .q [], .q [], .al 6, .st 5 [], .q []]) (E := [.q0 _, .c0 _, .q0 _, .q0 _, .q0 _, .al ((fun p => .pointer (some ⟨p, 0, none⟩)), _) 6, .s0 5 (.cells _ _), .q0 _]) rfl (by kernel_rfl) rfl rfl
  intro th hge hne
  refine Seg.sq ?_
  refine Seg.step _ rfl (Or.inl ⟨by rfl, fun U hU => ?_⟩) ?_
  · go_simp
    refine vp_call (k2.out _ _ _ (hEl.out.below hU.1))
  refine Seg.sa ?_
  iterate 3 refine Seg.sq ?_
  refine Seg.step _ rfl ⟨by rfl, fun U hU => ?_⟩ ?_
  · go_simp; exact vp_alloc rfl rfl rfl
  refine Seg.sa ?_
  refine Seg.step _ rfl ⟨by rfl, fun U z k hz hU hc => ?_⟩ ?_
  · have hz2 := Option.some.inj hz
    cases hz2; clear hz
    exact vp_store_agg _ _ _ rfl hc rfl rfl (by kernel_rfl) rfl (by rfl)
  refine Seg.sa ?_
  refine Seg.sq ?_
  refine Seg.stop (fun U22 hU hk => ?_)
  have nb5 := hge 5 _ _ rfl
  have rb5 := (hk 5 _ 6 rfl trivial).1.1 trivial _ (Nat.zero_le _) rfl
  clear hk hge hne
  generalize th (0 + 5) = p4_5 at *
  simp only [Ent.obj] at rb5
  replace r_p3_5 := held_after hU r_p3_5
  have r_p4_5 := rb5
  clear rb5
  have n_p4_5 := nb5
  clear nb5
  have sz22 := hU.size
  replace hB := bthen hB hU
  clear hU
  have r1 := hid r_p3_5
  have r2 := hid r_p4_5
  replace hB := hid hB
  clear r_p3_5 r_p4_5
  have hq := fun W => eqV8 g0i g0n g1i g1n g2i g2n g3i g3n W
  go_wp2_with (first | (refine wpList_load_row rfl 28 (.tmp 3) rfl p3_5 rfl 28 #[.bool g0i, .int .i64 g0n, .bool g1i, .int .i64 g1n, .bool g2i, .int .i64 g2n, .bool g3i, .int .i64 g3n] (0, 0) _ r1.out Tryz.underlying28 rfl (by kernel_rfl) ?_) | (refine wpList_load_row rfl 28 (.tmp 5) rfl p4_5 rfl 28 #[.bool g0i, .int .i64 g0n, .bool g1i, .int .i64 g1n, .bool g2i, .int .i64 g2n, .bool g3i, .int .i64 g3n] (0, 0) _ r2.out Tryz.underlying28 rfl (by kernel_rfl) ?_))
  refine (num28_any E _).mono ?_
  rintro e V ⟨rfl, hv⟩
  obtain rfl : U22 = V := hv.symm
  go_wp2_with fail
  refine (num28_any E _).mono ?_
  rintro e V ⟨rfl, hv⟩
  obtain rfl : U22 = V := hv.symm
  go_wp2_with fail
  go_ret
  exact ⟨ret_bool (by simp), hB.out⟩

end Go.Proofs.YtcacgejljbofjaaGreatDoor
