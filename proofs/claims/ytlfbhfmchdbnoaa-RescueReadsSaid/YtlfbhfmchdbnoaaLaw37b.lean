/- Laws of package rescue: RescueReads. -/
import Derived.Test.YtlfbhfmchdbnoaaLaw37
import Derived.Test.YtlfbhfmchdbnoaaLaw35
import Derived.Deep.DeepCutAuto
namespace Go.Proofs.Ytlfbhfmchdbnoaa
open Go.ChangeShapes Go.WideShapes Go.ChangeAt Go.RowKit
set_option linter.unusedVariables false
set_option linter.unusedSimpArgs false

set_option maxRecDepth 100000 in
set_option maxHeartbeats 8000000 in
theorem law_RescueReads (a0 : Option Addr) (len0 cap0 : Nat) (z0 : List Int) (a1_0 : Int) (a1_1 : Option Addr) (len1_1 cap1_1 : Nat) (x1_1 : List (List Value)) (W : World) (w0 : IsRow .u8 W a0 len0 cap0 z0) (w1_0 : (Lit.int .u32 a1_0).wf = true) (w1_1 : Els W 14 a1_1 len1_1 cap1_1 x1_1) (t1_1 : ∀ x ∈ x1_1, (∃ (c0 : Bool) (c1 : Int) (c2 : Int) (c3 : Int) (c4 : Int) (c5 : Int) (c6 : Int) (c7 : Int) (c8 : Int) (c9 : Int) (c10 : Int) (c11 : Int) (c12 : Int) (c13 : Int), x = [.bool c0, .int .u32 c1, .int .i32 c2, .int .i32 c3, .int .i32 c4, .int .i32 c5, .int .i32 c6, .int .i32 c7, .int .i32 c8, .int .i32 c9, .int .i32 c10, .int .i32 c11, .int .i32 c12, .int .i32 c13] ∧ ((Lit.int .u32 c1).wf = true) ∧ ((Lit.int .i32 c2).wf = true) ∧ ((Lit.int .i32 c3).wf = true) ∧ ((Lit.int .i32 c4).wf = true) ∧ ((Lit.int .i32 c5).wf = true) ∧ ((Lit.int .i32 c6).wf = true) ∧ ((Lit.int .i32 c7).wf = true) ∧ ((Lit.int .i32 c8).wf = true) ∧ ((Lit.int .i32 c9).wf = true) ∧ ((Lit.int .i32 c10).wf = true) ∧ ((Lit.int .i32 c11).wf = true) ∧ ((Lit.int .i32 c12).wf = true) ∧ ((Lit.int .i32 c13).wf = true))) :
    Calls Try.prog 3 #[.slice a0 len0 cap0, .agg #[.int .u32 a1_0, .slice a1_1 len1_1 cap1_1]] W fun e w' => e = .returned (.bool true) ∧ Below W.heap.size W w' := by
  clear w1_0
  obtain ⟨l, rfl, hwf⟩ := els_ents t1_1
  obtain rfl : l.length = len1_1 := by have := w1_1.1; simpa [entsV] using this
  replace hwf := hid hwf
  clear t1_1
  obtain ⟨hs1, hw1⟩ := w0.sl
  generalize z0.take len0 = bs at hs1 hw1
  clear w0
  replace hw1 := hid hw1
  have nw := alloc_new W (.cells #[.int .u32 a1_0, .slice a1_1 l.length cap1_1] 26)
  have hB := hid nw.2.1
  have rm := hid nw.2.2
  have hE := hid (w1_1.below nw.2.1)
  have hS := hid (hs1.below nw.2.1)
  clear nw w1_1 hs1
  obtain ⟨V0, hV0⟩ : ∃ X, W.alloc (.cells #[.int .u32 a1_0, .slice a1_1 l.length cap1_1] 26) = X := ⟨_, rfl⟩
  rw [hV0] at hB rm hE hS
  have z0_ := held_cell rm.out 0 _ rfl
  have z1_ := held_cell rm.out 1 _ rfl
  by_cases cb : (4096 : Int) < len0
  case pos =>
    go_enter Try.func3, Try.ntmps3
    go_wp2_with fail
    refine (knows37_any _).mono ?_
    rintro e V ⟨rfl, hst⟩
    replace hst := hid (bthen hB.out hst)
    go_wp2_with fail
    go_ret
    exact ⟨rfl, hst.out⟩
  by_cases cb2 : (100 : Int) < l.length
  case pos =>
    go_enter Try.func3, Try.ntmps3
    go_wp2_with fail
    refine (knows37_any _).mono ?_
    rintro e V ⟨rfl, hst⟩
    replace hst := hid (bthen hB.out hst)
    go_wp2_with fail
    go_ret
    exact ⟨rfl, hst.out⟩
  obtain ⟨nb, hnb⟩ : ∃ z, len0 / 256 = z := ⟨_, rfl⟩
  have hok := readS_ok hw1.out nb
  obtain ⟨⟨O, Bd⟩, hq⟩ : ∃ r, readS bs nb = r := ⟨_, rfl⟩
  rw [hq] at hok
  dsimp only at hok
  obtain ⟨on, hon⟩ : ∃ z, O.length = z := ⟨_, rfl⟩
  obtain ⟨bn, hbn⟩ : ∃ z, Bd.length = z := ⟨_, rfl⟩
  rw [hon, hbn] at hok
  have ho1 : on ≤ 100000 := by omega
  have ho2 : bn ≤ 100000 := by omega
  have hst := hid hok.2.1
  clear hok
  replace hq := hid hq
  replace hnb := hid hnb
  replace hon := hid hon
  replace hbn := hid hbn
  go_enter Try.func3, Try.ntmps3
  go_wp2_with fail
  refine (knows37_any _).mono ?_
  rintro e V1 ⟨rfl, hA⟩
  replace hB := hid (bthen hB.out hA)
  replace rm := hid (held_after hA rm.out)
  replace hE := hid (hE.out.below hA)
  replace hS := hid (hS.out.below hA)
  clear hA z0_ z1_ hV0
  go_wp2_with fail
  refine (read_any a0 len0 cap0 bs _ hS.out hw1.out (by omega)).mono ?_
  rintro e V2 ⟨ra2, rc2, ba2, bc2, rfl, hO, hI, hA⟩
  rw [hnb.out, hq.out] at hO hI ⊢
  dsimp only at hO hI ⊢
  have hEo := hO.els (xs := recsV O) (by rw [recsV_len]) (recsV_m hst.out)
  have hIo := hI.slf
  rw [hon.out] at hEo ⊢
  rw [hbn.out] at hIo ⊢
  have hE2 := hid hEo
  have hI2 := hid hIo
  replace hB := hid (bthen hB.out hA)
  replace rm := hid (held_after hA rm.out)
  replace hE := hid (hE.out.below hA)
  replace hS := hid (hS.out.below hA)
  clear hO hI hA hEo hIo
  go_wp2_with fail
  refine (rread_any a0 len0 cap0 bs _ hS.out hw1.out (by omega)).mono ?_
  rintro e V3 ⟨ra3, rc3, ba3, bc3, rfl, hO, hI, hA⟩
  rw [hnb.out, hq.out] at hO hI ⊢
  dsimp only at hO hI ⊢
  have hEo := hO.els (xs := recsV O) (by rw [recsV_len]) (recsV_m hst.out)
  have hIo := hI.slf
  rw [hon.out] at hEo ⊢
  rw [hbn.out] at hIo ⊢
  have hE3 := hid hEo
  have hI3 := hid hIo
  replace hE2 := hid (hE2.out.below hA)
  replace hI2 := hid (hI2.out.below hA)
  replace hB := hid (bthen hB.out hA)
  replace rm := hid (held_after hA rm.out)
  replace hE := hid (hE.out.below hA)
  replace hS := hid (hS.out.below hA)
  clear hO hI hA hEo hIo
  go_wp2_with fail
  have rD := hid (show V3.drew.heap[W.heap.size]? = _ from rm.out)
  have hD := hid (show After V3 V3.drew from (Below.refl _ V3).drew)
  clear hS
  refine wp_region_R (by kernel_rfl) ?_
  refine wpAnyR_take 0 rfl (by kernel_rfl) (by kernel_rfl) (by kernel_rfl) (fun _ _ _ _ h => h) ⟨_, Or.inl ⟨by rfl, fun w2 hb2 => by (go_simp; try with_reducible rfl)⟩, _, by (go_simp; try rfl), ?_⟩
  refine wpAnyR_take 1 rfl (by kernel_rfl) (by kernel_rfl) (by kernel_rfl) (fun _ _ _ _ h => h) ⟨_, Or.inl ⟨by rfl, fun w2 hb2 => by (go_simp; try with_reducible rfl)⟩, _, by (go_simp; try rfl), ?_⟩
  refine wpAnyR_only 2 rfl (by kernel_rfl) (by rfl) (fun K hK => ?_)
  go_simp
  refine (recs_same ra2 ra3 rc2 rc3 on O _ hon.out (hE2.out.below hD.out) (hE3.out.below hD.out) (by omega) hst.out).mono ?_
  rintro e V4 ⟨rfl, hA⟩
  go_simp
  refine hK _ _ ⟨hA, ?_⟩
  clear hK
  replace hD := hid (bthen hD.out hA)
  replace rD := hid (held_after hA rD.out)
  clear hA
  refine wpAnyR_take 3 rfl (by kernel_rfl) (by kernel_rfl) (by kernel_rfl) (fun _ _ _ _ h => h) ⟨_, Or.inl ⟨by rfl, fun w2 hb2 => by (go_simp; try with_reducible rfl)⟩, _, by (go_simp; try rfl), ?_⟩
  refine wpAnyR_take 4 rfl (by kernel_rfl) (by kernel_rfl) (by kernel_rfl) (fun _ _ _ _ h => h) ⟨_, Or.inl ⟨by rfl, fun w2 hb2 => by (go_simp; try with_reducible rfl)⟩, _, by (go_simp; try rfl), ?_⟩
  refine wpAnyR_take 5 rfl (by kernel_rfl) (by kernel_rfl) (by kernel_rfl) (fun _ _ _ _ h => h) ⟨_, Or.inl ⟨by rfl, fun w2 hb2 => by (go_simp; try with_reducible rfl)⟩, _, by (go_simp; try rfl), ?_⟩
  refine wpAnyR_only 6 rfl (by kernel_rfl) (by rfl) (fun K hK => ?_)
  go_simp
  refine (ints_same ba2 ba3 bc2 bc3 bn Bd _ (hI2.out.below hD.out) (hI3.out.below hD.out) (by omega)).mono ?_
  rintro e V5 ⟨rfl, hA⟩
  go_simp
  refine hK _ _ ⟨hA, ?_⟩
  clear hK
  replace hD := hid (bthen hD.out hA)
  replace rD := hid (held_after hA rD.out)
  clear hA
  refine wpAnyR_take 7 rfl (by kernel_rfl) (by kernel_rfl) (by kernel_rfl) (fun _ _ _ _ h => h) ⟨_, Or.inl ⟨by rfl, fun w2 hb2 => by (go_simp; try with_reducible rfl)⟩, _, by (go_simp; try rfl), ?_⟩
  refine wpAnyR_take 8 rfl (by kernel_rfl) (by kernel_rfl) (by kernel_rfl) (fun _ _ _ _ h => h) ⟨_, Or.inl ⟨by rfl, fun w2 hb2 => by (go_simp; try with_reducible rfl)⟩, _, by (go_simp; try rfl), ?_⟩
  refine wpAnyR_take 9 rfl (by kernel_rfl) (by kernel_rfl) (by kernel_rfl) (fun _ _ _ _ h => h) ⟨_, Or.inl ⟨by rfl, fun w2 hb2 => by (have hr := held_after hb2 rD.out; have q0 := held_cell hr 0 _ rfl; have q1 := held_cell hr 1 _ rfl; go_simp; try with_reducible rfl)⟩, _, by (go_simp; try rfl), ?_⟩
  refine wpAnyR_take 11 rfl (by kernel_rfl) (by kernel_rfl) (by kernel_rfl) (fun _ _ _ _ h => h) ⟨_, Or.inl ⟨by rfl, fun w2 hb2 => by (have hr := held_after hb2 rD.out; have q0 := held_cell hr 0 _ rfl; have q1 := held_cell hr 1 _ rfl; go_simp; try with_reducible rfl)⟩, _, by (go_simp; try rfl), ?_⟩
  refine wpAnyR_only 10 rfl (by kernel_rfl) (by rfl) (fun K hK => ?_)
  go_simp
  refine (resrec_any a1_0 a1_1 l.length cap1_1 l _ rfl (hE.out.below hD.out) (by omega) hwf.out).mono ?_
  rintro e Vx ⟨xa, xc, rfl, hOx, hA⟩
  go_simp
  refine hK _ _ ⟨hA, ?_⟩
  clear hK
  replace hD := hid (bthen hD.out hA)
  replace rD := hid (held_after hA rD.out)
  have hx := hid (hOx.els (by rw [recsV_len]) (recsV_m (recsOf_ok hwf.out)))
  try (replace hy := hid (hy.out.below hA))
  rw [recsOf_len] at hx ⊢
  clear hA hOx
  refine wpAnyR_only 12 rfl (by kernel_rfl) (by rfl) (fun K hK => ?_)
  go_simp
  refine (rresrec_any a1_0 a1_1 l.length cap1_1 l _ rfl (hE.out.below hD.out) (by omega) hwf.out).mono ?_
  rintro e Vy ⟨ya, yc, rfl, hOx, hA⟩
  go_simp
  refine hK _ _ ⟨hA, ?_⟩
  clear hK
  replace hD := hid (bthen hD.out hA)
  replace rD := hid (held_after hA rD.out)
  have hy := hid (hOx.els (by rw [recsV_len]) (recsV_m (recsOf_ok hwf.out)))
  try (replace hx := hid (hx.out.below hA))
  rw [recsOf_len] at hy ⊢
  clear hA hOx
  refine wpAnyR_only 13 rfl (by kernel_rfl) (by rfl) (fun K hK => ?_)
  go_simp
  refine (recs_same xa ya xc yc l.length (recsOf l) _ (recsOf_len l) hx.out hy.out (by omega) (recsOf_ok hwf.out)).mono ?_
  rintro e V8 ⟨rfl, hA⟩
  go_simp
  refine hK _ _ ⟨hA, ?_⟩
  clear hK
  have hB9 := hid (bthen (bthen hB.out hD.out) hA)
  clear hA
  refine wpAnyR_take 14 rfl (by kernel_rfl) (by kernel_rfl) (by kernel_rfl) (fun _ _ _ _ h => h) ⟨_, Or.inl ⟨by rfl, fun w2 hb2 => by (go_simp; try with_reducible rfl)⟩, _, by (go_simp; try rfl), ?_⟩
  refine wpAnyR_take 15 rfl (by kernel_rfl) (by kernel_rfl) (by kernel_rfl) (fun _ _ _ _ h => h) ⟨_, Or.inl ⟨by rfl, fun w2 hb2 => by (go_simp; try with_reducible rfl)⟩, _, by (go_simp; try rfl), ?_⟩
  refine wpAnyR_done (by kernel_rfl) ?_ _
  go_wp2_with fail
  go_ret
  exact ⟨rfl, hB9.out⟩

end Go.Proofs.Ytlfbhfmchdbnoaa
