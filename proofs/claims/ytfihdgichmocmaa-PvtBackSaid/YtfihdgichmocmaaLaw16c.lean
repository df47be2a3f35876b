/- The laws of layer 16: PvtBack. -/
import Derived.Test.YtfihdgichmocmaaLaw16b
import Derived.Laws.StructEq
import Derived.Deep.DeepCutAuto
namespace Go.Proofs.Ytfihdgichmocmaa
open Go.ChangeShapes Go.WideShapes Go.ChangeAt Go.RowKit
set_option linter.unusedVariables false
set_option linter.unusedSimpArgs false

theorem inP_bd {vs : List Int} (hl : vs.length = 33) (h : ∀ x ∈ vs, -9223372036854775808 ≤ x ∧ x ≤ 9223372036854775807) : ∀ x ∈ inP vs z32, -9223372036854775808 ≤ x ∧ x ≤ 9223372036854775807 := by
  have hg : ∀ i, -9223372036854775808 ≤ vs.getD i 0 ∧ vs.getD i 0 ≤ 9223372036854775807 := fun i => by
    by_cases c : i < vs.length
    · exact h _ (by rw [List.getD_eq_getElem?_getD, List.getElem?_eq_getElem c]; exact List.getElem_mem c)
    · rw [List.getD_eq_getElem?_getD, List.getElem?_eq_none (by omega)]; decide
  rw [inP_lit hl]
  intro x hx
  simp only [List.mem_cons, List.not_mem_nil, or_false] at hx
  rcases hx with rfl | rfl | rfl | rfl | rfl | rfl | rfl | rfl | rfl | rfl | rfl | rfl | rfl | rfl | rfl | rfl | rfl | rfl | rfl | rfl | rfl | rfl | rfl | rfl | rfl | rfl | rfl | rfl | rfl | rfl | rfl | rfl
  · exact hg 0
  · exact hg 1
  · exact hg 2
  · exact hg 3
  · exact hg 4
  · exact hg 5
  · exact hg 6
  · exact hg 7
  · exact hg 8
  · exact hg 9
  · exact hg 10
  · exact hg 11
  · exact hg 12
  · exact hg 13
  · exact hg 14
  · exact hg 15
  · exact hg 16
  · exact hg 17
  · exact hg 18
  · exact hg 19
  · exact hg 20
  · exact hg 21
  · exact hg 22
  · exact hg 23
  · exact hg 24
  · exact hg 25
  · exact hg 26
  · exact hg 27
  · exact hg 28
  · exact hg 30
  · exact hg 31
  · exact hg 32
set_option maxRecDepth 100000 in
set_option maxHeartbeats 16000000 in
theorem back16 (xs : List Int) (hl : xs.length = 32) (hb : ∀ x ∈ xs, -9223372036854775808 ≤ x ∧ x ≤ 9223372036854775807) (a1 : Option Addr) (len1 cap1 : Nat) (bs : List Int) (W : World) (hs1 : Sl .u8 W a1 len1 cap1 bs) (hw1 : ∀ n ∈ bs, (Lit.int .u8 n).wf = true) :
    Calls Try.prog 6 #[.agg (xs.map (Value.int .i64)).toArray, .slice a1 len1 cap1] W fun e w' => e = .returned (.bool true) ∧ Below W.heap.size W w' := by
  have hb2 := hid (bytes_bd hw1)
  replace hs1 := hid hs1
  replace hw1 := hid hw1
  have kP := hid (fun U => put16_any xs hl hb U)
  have hio := hid (in_out16 hl)
  have pe := putF_e (fN PD16) (fS PD16) (fL PD16) (fH PD16) PD16.length (outV xs)
  change 0 ≤ (putL PD16 (outV xs)).2 ∧ (putL PD16 (outV xs)).2 ≤ 9 at pe
  obtain ⟨⟨L, ee⟩, hr⟩ : ∃ r, putL PD16 (outV xs) = r := ⟨_, rfl⟩
  replace kP := hid (fun U => hr ▸ kP.out U)
  rw [hr] at pe
  have hLb := put_len hr (by decide)
  have hLl := hLb.1
  have hLw := hid (fun x hx => byte_wf (hLb.2 x hx).1 (hLb.2 x hx).2)
  have hL0 := hid (fun h => sput_bad hr h)
  clear hLb
  replace hr := hid hr
  dsimp only at pe
  obtain ⟨C, hC⟩ : ∃ C, ((xs).map (Value.int .i64)).toArray = C := ⟨_, rfl⟩
  have sC := hid (show C.size = 32 by rw [← hC, List.size_toArray, List.length_map]; exact hl)
  have oC := hid (show C.all (·.oneCell') = true from hC ▸ allOne16 _)
  have qC := hid (fun U => hC ▸ eqP16 _ (hl) U)
  rw [hC]
  have nw := alloc_new W (.cells C 23)
  have hB := hid nw.2.1
  have rm := hid nw.2.2
  clear nw
  go_enter Try.func6, Try.ntmps6
  go_upto_region 1 with (fail)
  obtain ⟨V0, hV0⟩ : ∃ X, W.alloc (.cells C 23) = X := ⟨_, rfl⟩
  rw [hV0] at hB rm ⊢
  clear hV0
  obtain ⟨qm, hqm⟩ : ∃ X, W.heap.size = X := ⟨_, rfl⟩
  rw [hqm] at rm ⊢
  replace hqm := hid hqm
  replace kP := hid (fun U => hC ▸ kP.out U)
  replace hC := hid hC
  clear hb
  by_cases cb : (200 : Int) < len1
  case pos =>
    go_wp2_with fail
    refine (knows16_any _).mono ?_
    rintro e V ⟨rfl, hst⟩
    replace hst := hid hst
    go_wp2_with fail
    go_ret
    exact ⟨rfl, bthen hB.out hst.out⟩
  go_wp2_with fail
  refine (knows16_any _).mono ?_
  rintro e V1 ⟨rfl, hA⟩
  replace rm := hid (held_after hA rm.out)
  replace hB := hid (bthen hB.out hA)
  clear hA
  go_wp2_with (refine wpList_load_rowG (by rfl) 23 (.tmp 2) rfl qm rfl 23 C (0, 0) _ rm.out Try.underlying23 rfl (by rw [sC.out]; kernel_rfl) ?_)
  refine (kP.out _).mono ?_
  rintro e V2 ⟨r1a, r1c, rfl, hO1, hA⟩
  replace rm := hid (held_after hA rm.out)
  replace hB := hid (bthen hB.out hA)
  clear hA
  dsimp only at hO1 ⊢
  replace hO1 := hid hO1
  go_wp2_with fail
  refine (num16_any ee _ (by omega) (by omega)).mono ?_
  rintro e V ⟨rfl, rfl⟩
  by_cases hee : ee = 0
  · subst hee
    have hPT := put_take hr.out
    have hW9 : widthS (fN PD16) (fS PD16) (fL PD16) (fH PD16) PD16.length = 92 := by kernel_rfl
    have hl92 : (L.length : Int) = 92 := by rw [← hPT.2]; exact hW9
    have hM0 : takM L = (xs, 0) := by rw [takM_ok hPT.1, hio.out.1]
    clear hPT hW9 hL0
    replace hM0 := hid hM0
    go_wp2_with fail
    refine (take16_any r1a L.length r1c L _ hO1.out.slf hLw.out (by omega)).mono ?_
    rintro e V3 ⟨rfl, hA⟩
    replace hO1 := hid (hO1.out.below hA)
    replace rm := hid (held_after hA rm.out)
    replace hB := hid (bthen hB.out hA)
    clear hA
    rw [hM0.out]
    dsimp only
    rw [hC.out]
    have n3 := alloc_new V3 (.cells #[.int .i64 0, .int .i64 0, .int .i64 0, .int .i64 0, .int .i64 0, .int .i64 0, .int .i64 0, .int .i64 0, .int .i64 0, .int .i64 0, .int .i64 0, .int .i64 0, .int .i64 0, .int .i64 0, .int .i64 0, .int .i64 0, .int .i64 0, .int .i64 0, .int .i64 0, .int .i64 0, .int .i64 0, .int .i64 0, .int .i64 0, .int .i64 0, .int .i64 0, .int .i64 0, .int .i64 0, .int .i64 0, .int .i64 0, .int .i64 0, .int .i64 0, .int .i64 0] 23)
    have hX4 := (show (V3.alloc (.cells #[.int .i64 0, .int .i64 0, .int .i64 0, .int .i64 0, .int .i64 0, .int .i64 0, .int .i64 0, .int .i64 0, .int .i64 0, .int .i64 0, .int .i64 0, .int .i64 0, .int .i64 0, .int .i64 0, .int .i64 0, .int .i64 0, .int .i64 0, .int .i64 0, .int .i64 0, .int .i64 0, .int .i64 0, .int .i64 0, .int .i64 0, .int .i64 0, .int .i64 0, .int .i64 0, .int .i64 0, .int .i64 0, .int .i64 0, .int .i64 0, .int .i64 0, .int .i64 0] 23)).heap[V3.heap.size]? = some (.cells zC 23 (0, 0)) from n3.2.2)
    have r7 := hid (setRow_heap (V3.alloc (.cells #[.int .i64 0, .int .i64 0, .int .i64 0, .int .i64 0, .int .i64 0, .int .i64 0, .int .i64 0, .int .i64 0, .int .i64 0, .int .i64 0, .int .i64 0, .int .i64 0, .int .i64 0, .int .i64 0, .int .i64 0, .int .i64 0, .int .i64 0, .int .i64 0, .int .i64 0, .int .i64 0, .int .i64 0, .int .i64 0, .int .i64 0, .int .i64 0, .int .i64 0, .int .i64 0, .int .i64 0, .int .i64 0, .int .i64 0, .int .i64 0, .int .i64 0, .int .i64 0] 23)) V3.heap.size zC C 23 (0, 0) hX4)
    have hA := hid (setRow_after n3.2.1 (cs := C) (Nat.le_refl _) hX4)
    replace hX4 := hid hX4
    clear n3
    go_wp2_with (refine wpList_store_row rfl 23 (.tmp 7) (.tmp 32) rfl V3.heap.size C rfl rfl 23 zC hX4.out (by rw [sC.out]; kernel_rfl) (by rw [sC.out]; rfl) oC.out ?_)
    clear hX4
    obtain ⟨V4, hV4⟩ : ∃ X, (V3.alloc (.cells #[.int .i64 0, .int .i64 0, .int .i64 0, .int .i64 0, .int .i64 0, .int .i64 0, .int .i64 0, .int .i64 0, .int .i64 0, .int .i64 0, .int .i64 0, .int .i64 0, .int .i64 0, .int .i64 0, .int .i64 0, .int .i64 0, .int .i64 0, .int .i64 0, .int .i64 0, .int .i64 0, .int .i64 0, .int .i64 0, .int .i64 0, .int .i64 0, .int .i64 0, .int .i64 0, .int .i64 0, .int .i64 0, .int .i64 0, .int .i64 0, .int .i64 0, .int .i64 0] 23)).setRow V3.heap.size C = X := ⟨_, rfl⟩
    have hA2 := hA.out
    clear hA
    have hA := hA2
    clear hA2
    rw [hV4] at hA r7 ⊢
    obtain ⟨q7, hq7⟩ : ∃ X, V3.heap.size = X := ⟨_, rfl⟩
    rw [hq7] at r7 ⊢
    replace hV4 := hid hV4
    replace hq7 := hid hq7
    replace hO1 := hid (hO1.out.below hA)
    replace rm := hid (held_after hA rm.out)
    replace hB := hid (bthen hB.out hA)
    clear hA
    replace r7 := hid r7.out
    refine (num16_any 0 _ (by omega) (by omega)).mono ?_
    rintro e V ⟨rfl, rfl⟩
    have pC := qC.out
    go_wp2_with (first | refine wpList_load_rowG (by rfl) 23 (.tmp 7) rfl q7 rfl 23 C (0, 0) _ r7.out Try.underlying23 rfl (by rw [sC.out]; kernel_rfl) ?_ | refine wpList_load_rowG (by rfl) 23 (.tmp 2) rfl qm rfl 23 C (0, 0) _ rm.out Try.underlying23 rfl (by rw [sC.out]; kernel_rfl) ?_)
    clear pC
    obtain ⟨⟨P, ge⟩, hq⟩ : ∃ r, takL PD16 bs = r := ⟨_, rfl⟩
    have te := takF_e (fN PD16) (fS PD16) (fL PD16) (fH PD16) PD16.length bs
    change 0 ≤ (takL PD16 bs).2 ∧ (takL PD16 bs).2 ≤ 9 at te
    rw [hq] at te
    dsimp only at te
    by_cases hge : ge = 0
    case neg =>
      have hM := takM_no hq hge
      replace hq := hid hq
      have hne : (ge != 0) = true := by simp [hge]
      refine (take16_any a1 len1 cap1 bs _ (hs1.out.below hB.out) hw1.out (by omega)).mono ?_
      rintro e V5 ⟨rfl, hA⟩
      replace hO1 := hid (hO1.out.below hA)
      replace rm := hid (held_after hA rm.out)
      replace r7 := hid (held_after hA r7.out)
      replace hB := hid (bthen hB.out hA)
      clear hA
      rw [hM]
      dsimp only
      clear hM
      obtain ⟨C4, hC4⟩ : ∃ C, ((z32).map (Value.int .i64)).toArray = C := ⟨_, rfl⟩
      have sC4 := hid (show C4.size = 32 by rw [← hC4, List.size_toArray, List.length_map]; exact rfl)
      have oC4 := hid (show C4.all (·.oneCell') = true from hC4 ▸ allOne16 _)
      have qC4 := hid (fun U => hC4 ▸ eqP16 _ (rfl) U)
      rw [hC4]
      have qz2 := hid (show ∀ U : World, (Op.equalIn 10000 23 (.agg C4) (.agg zC)).run Try.prog U = .ok true U from fun U => by have e : zC = C4 := hC4; rw [e]; exact qC4.out U)
      clear hC4
      have n3 := alloc_new V5 (.cells #[.int .i64 0, .int .i64 0, .int .i64 0, .int .i64 0, .int .i64 0, .int .i64 0, .int .i64 0, .int .i64 0, .int .i64 0, .int .i64 0, .int .i64 0, .int .i64 0, .int .i64 0, .int .i64 0, .int .i64 0, .int .i64 0, .int .i64 0, .int .i64 0, .int .i64 0, .int .i64 0, .int .i64 0, .int .i64 0, .int .i64 0, .int .i64 0, .int .i64 0, .int .i64 0, .int .i64 0, .int .i64 0, .int .i64 0, .int .i64 0, .int .i64 0, .int .i64 0] 23)
      have hX4 := (show (V5.alloc (.cells #[.int .i64 0, .int .i64 0, .int .i64 0, .int .i64 0, .int .i64 0, .int .i64 0, .int .i64 0, .int .i64 0, .int .i64 0, .int .i64 0, .int .i64 0, .int .i64 0, .int .i64 0, .int .i64 0, .int .i64 0, .int .i64 0, .int .i64 0, .int .i64 0, .int .i64 0, .int .i64 0, .int .i64 0, .int .i64 0, .int .i64 0, .int .i64 0, .int .i64 0, .int .i64 0, .int .i64 0, .int .i64 0, .int .i64 0, .int .i64 0, .int .i64 0, .int .i64 0] 23)).heap[V5.heap.size]? = some (.cells zC 23 (0, 0)) from n3.2.2)
      have r9 := hid (setRow_heap (V5.alloc (.cells #[.int .i64 0, .int .i64 0, .int .i64 0, .int .i64 0, .int .i64 0, .int .i64 0, .int .i64 0, .int .i64 0, .int .i64 0, .int .i64 0, .int .i64 0, .int .i64 0, .int .i64 0, .int .i64 0, .int .i64 0, .int .i64 0, .int .i64 0, .int .i64 0, .int .i64 0, .int .i64 0, .int .i64 0, .int .i64 0, .int .i64 0, .int .i64 0, .int .i64 0, .int .i64 0, .int .i64 0, .int .i64 0, .int .i64 0, .int .i64 0, .int .i64 0, .int .i64 0] 23)) V5.heap.size zC C4 23 (0, 0) hX4)
      have hA := hid (setRow_after n3.2.1 (cs := C4) (Nat.le_refl _) hX4)
      replace hX4 := hid hX4
      clear n3
      go_wp2_with (refine wpList_store_row rfl 23 (.tmp 9) (.tmp 50) rfl V5.heap.size C4 rfl rfl 23 zC hX4.out (by rw [sC4.out]; kernel_rfl) (by rw [sC4.out]; rfl) oC4.out ?_)
      clear hX4
      obtain ⟨V6, hV6⟩ : ∃ X, (V5.alloc (.cells #[.int .i64 0, .int .i64 0, .int .i64 0, .int .i64 0, .int .i64 0, .int .i64 0, .int .i64 0, .int .i64 0, .int .i64 0, .int .i64 0, .int .i64 0, .int .i64 0, .int .i64 0, .int .i64 0, .int .i64 0, .int .i64 0, .int .i64 0, .int .i64 0, .int .i64 0, .int .i64 0, .int .i64 0, .int .i64 0, .int .i64 0, .int .i64 0, .int .i64 0, .int .i64 0, .int .i64 0, .int .i64 0, .int .i64 0, .int .i64 0, .int .i64 0, .int .i64 0] 23)).setRow V5.heap.size C4 = X := ⟨_, rfl⟩
      have hA2 := hA.out
      clear hA
      have hA := hA2
      clear hA2
      rw [hV6] at hA r9 ⊢
      obtain ⟨q9, hq9⟩ : ∃ X, V5.heap.size = X := ⟨_, rfl⟩
      rw [hq9] at r9 ⊢
      replace hV6 := hid hV6
      replace hq9 := hid hq9
      replace hO1 := hid (hO1.out.below hA)
      replace rm := hid (held_after hA rm.out)
      replace r7 := hid (held_after hA r7.out)
      replace hB := hid (bthen hB.out hA)
      clear hA
      replace r9 := hid r9.out
      replace hge := hid hge
      refine (num16_any ge _ (by omega) (by omega)).mono ?_
      rintro e V ⟨rfl, rfl⟩
      have pz := qz2.out
      go_wp2_with (first | refine wpList_load_rowG (by rfl) 23 (.tmp 9) rfl q9 rfl 23 C4 (0, 0) _ r9.out Try.underlying23 rfl (by rw [sC4.out]; kernel_rfl) ?_ | refine wpList_built16 rfl 23 #[] rfl zC (by simp [Act.eval]; exact built_pvt) ?_)
      refine (num16_any 0 _ (by omega) (by omega)).mono ?_
      rintro e V ⟨rfl, rfl⟩
      go_wp2_with fail
      go_ret
      exact ⟨rfl, hB.out⟩
    subst hge
    have hM := takM_ok hq
    have h33 := tak29 hq
    have hTP := hid (take_put hq hb2.out).1
    have hPb := inP_bd h33.1 (tak_bd hq)
    have hoi := out_in16 h33.1 h33.2
    have hyl : (inP P z32).length = 32 := inP_len _ _
    replace hq := hid hq
    generalize inP P z32 = ys at *
    obtain ⟨C3, hC3⟩ : ∃ C, ((ys).map (Value.int .i64)).toArray = C := ⟨_, rfl⟩
    have sC3 := hid (show C3.size = 32 by rw [← hC3, List.size_toArray, List.length_map]; exact hyl)
    have oC3 := hid (show C3.all (·.oneCell') = true from hC3 ▸ allOne16 _)
    have qC3 := hid (fun U => hC3 ▸ eqP16 _ (hyl) U)
    have kQ := hid (fun U => (hC3 ▸ hoi ▸ put16_any ys hyl hPb U : Calls _ _ #[.agg C3] _ (BsOk U (putL PD16 P))))
    clear hoi hPb h33
    refine (take16_any a1 len1 cap1 bs _ (hs1.out.below hB.out) hw1.out (by omega)).mono ?_
    rintro e V5 ⟨rfl, hA⟩
    replace hO1 := hid (hO1.out.below hA)
    replace rm := hid (held_after hA rm.out)
    replace r7 := hid (held_after hA r7.out)
    replace hB := hid (bthen hB.out hA)
    clear hA
    rw [hM]
    dsimp only
    rw [hC3]
    clear hM hC3
    have n3 := alloc_new V5 (.cells #[.int .i64 0, .int .i64 0, .int .i64 0, .int .i64 0, .int .i64 0, .int .i64 0, .int .i64 0, .int .i64 0, .int .i64 0, .int .i64 0, .int .i64 0, .int .i64 0, .int .i64 0, .int .i64 0, .int .i64 0, .int .i64 0, .int .i64 0, .int .i64 0, .int .i64 0, .int .i64 0, .int .i64 0, .int .i64 0, .int .i64 0, .int .i64 0, .int .i64 0, .int .i64 0, .int .i64 0, .int .i64 0, .int .i64 0, .int .i64 0, .int .i64 0, .int .i64 0] 23)
    have hX4 := (show (V5.alloc (.cells #[.int .i64 0, .int .i64 0, .int .i64 0, .int .i64 0, .int .i64 0, .int .i64 0, .int .i64 0, .int .i64 0, .int .i64 0, .int .i64 0, .int .i64 0, .int .i64 0, .int .i64 0, .int .i64 0, .int .i64 0, .int .i64 0, .int .i64 0, .int .i64 0, .int .i64 0, .int .i64 0, .int .i64 0, .int .i64 0, .int .i64 0, .int .i64 0, .int .i64 0, .int .i64 0, .int .i64 0, .int .i64 0, .int .i64 0, .int .i64 0, .int .i64 0, .int .i64 0] 23)).heap[V5.heap.size]? = some (.cells zC 23 (0, 0)) from n3.2.2)
    have r9 := hid (setRow_heap (V5.alloc (.cells #[.int .i64 0, .int .i64 0, .int .i64 0, .int .i64 0, .int .i64 0, .int .i64 0, .int .i64 0, .int .i64 0, .int .i64 0, .int .i64 0, .int .i64 0, .int .i64 0, .int .i64 0, .int .i64 0, .int .i64 0, .int .i64 0, .int .i64 0, .int .i64 0, .int .i64 0, .int .i64 0, .int .i64 0, .int .i64 0, .int .i64 0, .int .i64 0, .int .i64 0, .int .i64 0, .int .i64 0, .int .i64 0, .int .i64 0, .int .i64 0, .int .i64 0, .int .i64 0] 23)) V5.heap.size zC C3 23 (0, 0) hX4)
    have hA := hid (setRow_after n3.2.1 (cs := C3) (Nat.le_refl _) hX4)
    replace hX4 := hid hX4
    clear n3
    go_wp2_with (refine wpList_store_row rfl 23 (.tmp 9) (.tmp 50) rfl V5.heap.size C3 rfl rfl 23 zC hX4.out (by rw [sC3.out]; kernel_rfl) (by rw [sC3.out]; rfl) oC3.out ?_)
    clear hX4
    obtain ⟨V6, hV6⟩ : ∃ X, (V5.alloc (.cells #[.int .i64 0, .int .i64 0, .int .i64 0, .int .i64 0, .int .i64 0, .int .i64 0, .int .i64 0, .int .i64 0, .int .i64 0, .int .i64 0, .int .i64 0, .int .i64 0, .int .i64 0, .int .i64 0, .int .i64 0, .int .i64 0, .int .i64 0, .int .i64 0, .int .i64 0, .int .i64 0, .int .i64 0, .int .i64 0, .int .i64 0, .int .i64 0, .int .i64 0, .int .i64 0, .int .i64 0, .int .i64 0, .int .i64 0, .int .i64 0, .int .i64 0, .int .i64 0] 23)).setRow V5.heap.size C3 = X := ⟨_, rfl⟩
    have hA2 := hA.out
    clear hA
    have hA := hA2
    clear hA2
    rw [hV6] at hA r9 ⊢
    obtain ⟨q9, hq9⟩ : ∃ X, V5.heap.size = X := ⟨_, rfl⟩
    rw [hq9] at r9 ⊢
    replace hV6 := hid hV6
    replace hq9 := hid hq9
    replace hO1 := hid (hO1.out.below hA)
    replace rm := hid (held_after hA rm.out)
    replace r7 := hid (held_after hA r7.out)
    replace hB := hid (bthen hB.out hA)
    clear hA
    replace r9 := hid r9.out
    refine (num16_any 0 _ (by omega) (by omega)).mono ?_
    rintro e V ⟨rfl, rfl⟩
    go_wp2_with (refine wpList_load_rowG (by rfl) 23 (.tmp 9) rfl q9 rfl 23 C3 (0, 0) _ r9.out Try.underlying23 rfl (by rw [sC3.out]; kernel_rfl) ?_)
    refine (kQ.out _).mono ?_
    rintro e V7 ⟨r5a, r5c, rfl, hO5, hA⟩
    replace hO1 := hid (hO1.out.below hA)
    replace rm := hid (held_after hA rm.out)
    replace r7 := hid (held_after hA r7.out)
    replace r9 := hid (held_after hA r9.out)
    replace hB := hid (bthen hB.out hA)
    clear hA
    have e9 : putL PD16 P = (bs, 0) := hTP.out
    rw [e9] at hO5 ⊢
    clear e9
    dsimp only at hO5 ⊢
    replace hO5 := hid hO5
    go_wp2_with fail
    have c1 := txt16 hO5.out.slf
    have c2 := txt16 (hs1.out.below hB.out)
    try dsimp only at c1
    generalize textOf bs = TX at *
    refine (num16_any 0 _ (by omega) (by omega)).mono ?_
    rintro e V ⟨rfl, rfl⟩
    go_wp2_with fail
    go_ret
    exact ⟨rfl, hB.out⟩
  · have hne0 : (ee == 0) = false := by simp [hee]
    obtain rfl : L = [] := hL0.out hee
    replace hee := hid hee
    go_wp2_with fail
    obtain ⟨⟨P, ge⟩, hq⟩ : ∃ r, takL PD16 bs = r := ⟨_, rfl⟩
    have te := takF_e (fN PD16) (fS PD16) (fL PD16) (fH PD16) PD16.length bs
    change 0 ≤ (takL PD16 bs).2 ∧ (takL PD16 bs).2 ≤ 9 at te
    rw [hq] at te
    dsimp only at te
    by_cases hge : ge = 0
    case neg =>
      have hM := takM_no hq hge
      replace hq := hid hq
      have hne : (ge != 0) = true := by simp [hge]
      refine (take16_any a1 len1 cap1 bs _ (hs1.out.below hB.out) hw1.out (by omega)).mono ?_
      rintro e V3 ⟨rfl, hA⟩
      replace hO1 := hid (hO1.out.below hA)
      replace rm := hid (held_after hA rm.out)
      replace hB := hid (bthen hB.out hA)
      clear hA
      rw [hM]
      dsimp only
      clear hM
      obtain ⟨C4, hC4⟩ : ∃ C, ((z32).map (Value.int .i64)).toArray = C := ⟨_, rfl⟩
      have sC4 := hid (show C4.size = 32 by rw [← hC4, List.size_toArray, List.length_map]; exact rfl)
      have oC4 := hid (show C4.all (·.oneCell') = true from hC4 ▸ allOne16 _)
      have qC4 := hid (fun U => hC4 ▸ eqP16 _ (rfl) U)
      rw [hC4]
      have qz2 := hid (show ∀ U : World, (Op.equalIn 10000 23 (.agg C4) (.agg zC)).run Try.prog U = .ok true U from fun U => by have e : zC = C4 := hC4; rw [e]; exact qC4.out U)
      clear hC4
      have n3 := alloc_new V3 (.cells #[.int .i64 0, .int .i64 0, .int .i64 0, .int .i64 0, .int .i64 0, .int .i64 0, .int .i64 0, .int .i64 0, .int .i64 0, .int .i64 0, .int .i64 0, .int .i64 0, .int .i64 0, .int .i64 0, .int .i64 0, .int .i64 0, .int .i64 0, .int .i64 0, .int .i64 0, .int .i64 0, .int .i64 0, .int .i64 0, .int .i64 0, .int .i64 0, .int .i64 0, .int .i64 0, .int .i64 0, .int .i64 0, .int .i64 0, .int .i64 0, .int .i64 0, .int .i64 0] 23)
      have hX4 := (show (V3.alloc (.cells #[.int .i64 0, .int .i64 0, .int .i64 0, .int .i64 0, .int .i64 0, .int .i64 0, .int .i64 0, .int .i64 0, .int .i64 0, .int .i64 0, .int .i64 0, .int .i64 0, .int .i64 0, .int .i64 0, .int .i64 0, .int .i64 0, .int .i64 0, .int .i64 0, .int .i64 0, .int .i64 0, .int .i64 0, .int .i64 0, .int .i64 0, .int .i64 0, .int .i64 0, .int .i64 0, .int .i64 0, .int .i64 0, .int .i64 0, .int .i64 0, .int .i64 0, .int .i64 0] 23)).heap[V3.heap.size]? = some (.cells zC 23 (0, 0)) from n3.2.2)
      have r9 := hid (setRow_heap (V3.alloc (.cells #[.int .i64 0, .int .i64 0, .int .i64 0, .int .i64 0, .int .i64 0, .int .i64 0, .int .i64 0, .int .i64 0, .int .i64 0, .int .i64 0, .int .i64 0, .int .i64 0, .int .i64 0, .int .i64 0, .int .i64 0, .int .i64 0, .int .i64 0, .int .i64 0, .int .i64 0, .int .i64 0, .int .i64 0, .int .i64 0, .int .i64 0, .int .i64 0, .int .i64 0, .int .i64 0, .int .i64 0, .int .i64 0, .int .i64 0, .int .i64 0, .int .i64 0, .int .i64 0] 23)) V3.heap.size zC C4 23 (0, 0) hX4)
      have hA := hid (setRow_after n3.2.1 (cs := C4) (Nat.le_refl _) hX4)
      replace hX4 := hid hX4
      clear n3
      go_wp2_with (refine wpList_store_row rfl 23 (.tmp 9) (.tmp 50) rfl V3.heap.size C4 rfl rfl 23 zC hX4.out (by rw [sC4.out]; kernel_rfl) (by rw [sC4.out]; rfl) oC4.out ?_)
      clear hX4
      obtain ⟨V4, hV4⟩ : ∃ X, (V3.alloc (.cells #[.int .i64 0, .int .i64 0, .int .i64 0, .int .i64 0, .int .i64 0, .int .i64 0, .int .i64 0, .int .i64 0, .int .i64 0, .int .i64 0, .int .i64 0, .int .i64 0, .int .i64 0, .int .i64 0, .int .i64 0, .int .i64 0, .int .i64 0, .int .i64 0, .int .i64 0, .int .i64 0, .int .i64 0, .int .i64 0, .int .i64 0, .int .i64 0, .int .i64 0, .int .i64 0, .int .i64 0, .int .i64 0, .int .i64 0, .int .i64 0, .int .i64 0, .int .i64 0] 23)).setRow V3.heap.size C4 = X := ⟨_, rfl⟩
      have hA2 := hA.out
      clear hA
      have hA := hA2
      clear hA2
      rw [hV4] at hA r9 ⊢
      obtain ⟨q9, hq9⟩ : ∃ X, V3.heap.size = X := ⟨_, rfl⟩
      rw [hq9] at r9 ⊢
      replace hV4 := hid hV4
      replace hq9 := hid hq9
      replace hO1 := hid (hO1.out.below hA)
      replace rm := hid (held_after hA rm.out)
      replace hB := hid (bthen hB.out hA)
      clear hA
      replace r9 := hid r9.out
      replace hge := hid hge
      refine (num16_any ge _ (by omega) (by omega)).mono ?_
      rintro e V ⟨rfl, rfl⟩
      have pz := qz2.out
      go_wp2_with (first | refine wpList_load_rowG (by rfl) 23 (.tmp 9) rfl q9 rfl 23 C4 (0, 0) _ r9.out Try.underlying23 rfl (by rw [sC4.out]; kernel_rfl) ?_ | refine wpList_built16 rfl 23 #[] rfl zC (by simp [Act.eval]; exact built_pvt) ?_)
      refine (num16_any ee _ (by omega) (by omega)).mono ?_
      rintro e V ⟨rfl, rfl⟩
      go_wp2_with fail
      go_ret
      exact ⟨ret_bool (by simp), hB.out⟩
    subst hge
    have hM := takM_ok hq
    have h33 := tak29 hq
    have hTP := hid (take_put hq hb2.out).1
    have hPb := inP_bd h33.1 (tak_bd hq)
    have hoi := out_in16 h33.1 h33.2
    have hyl : (inP P z32).length = 32 := inP_len _ _
    replace hq := hid hq
    generalize inP P z32 = ys at *
    obtain ⟨C3, hC3⟩ : ∃ C, ((ys).map (Value.int .i64)).toArray = C := ⟨_, rfl⟩
    have sC3 := hid (show C3.size = 32 by rw [← hC3, List.size_toArray, List.length_map]; exact hyl)
    have oC3 := hid (show C3.all (·.oneCell') = true from hC3 ▸ allOne16 _)
    have qC3 := hid (fun U => hC3 ▸ eqP16 _ (hyl) U)
    have kQ := hid (fun U => (hC3 ▸ hoi ▸ put16_any ys hyl hPb U : Calls _ _ #[.agg C3] _ (BsOk U (putL PD16 P))))
    clear hoi hPb h33
    refine (take16_any a1 len1 cap1 bs _ (hs1.out.below hB.out) hw1.out (by omega)).mono ?_
    rintro e V3 ⟨rfl, hA⟩
    replace hO1 := hid (hO1.out.below hA)
    replace rm := hid (held_after hA rm.out)
    replace hB := hid (bthen hB.out hA)
    clear hA
    rw [hM]
    dsimp only
    rw [hC3]
    clear hM hC3
    have n3 := alloc_new V3 (.cells #[.int .i64 0, .int .i64 0, .int .i64 0, .int .i64 0, .int .i64 0, .int .i64 0, .int .i64 0, .int .i64 0, .int .i64 0, .int .i64 0, .int .i64 0, .int .i64 0, .int .i64 0, .int .i64 0, .int .i64 0, .int .i64 0, .int .i64 0, .int .i64 0, .int .i64 0, .int .i64 0, .int .i64 0, .int .i64 0, .int .i64 0, .int .i64 0, .int .i64 0, .int .i64 0, .int .i64 0, .int .i64 0, .int .i64 0, .int .i64 0, .int .i64 0, .int .i64 0] 23)
    have hX4 := (show (V3.alloc (.cells #[.int .i64 0, .int .i64 0, .int .i64 0, .int .i64 0, .int .i64 0, .int .i64 0, .int .i64 0, .int .i64 0, .int .i64 0, .int .i64 0, .int .i64 0, .int .i64 0, .int .i64 0, .int .i64 0, .int .i64 0, .int .i64 0, .int .i64 0, .int .i64 0, .int .i64 0, .int .i64 0, .int .i64 0, .int .i64 0, .int .i64 0, .int .i64 0, .int .i64 0, .int .i64 0, .int .i64 0, .int .i64 0, .int .i64 0, .int .i64 0, .int .i64 0, .int .i64 0] 23)).heap[V3.heap.size]? = some (.cells zC 23 (0, 0)) from n3.2.2)
    have r9 := hid (setRow_heap (V3.alloc (.cells #[.int .i64 0, .int .i64 0, .int .i64 0, .int .i64 0, .int .i64 0, .int .i64 0, .int .i64 0, .int .i64 0, .int .i64 0, .int .i64 0, .int .i64 0, .int .i64 0, .int .i64 0, .int .i64 0, .int .i64 0, .int .i64 0, .int .i64 0, .int .i64 0, .int .i64 0, .int .i64 0, .int .i64 0, .int .i64 0, .int .i64 0, .int .i64 0, .int .i64 0, .int .i64 0, .int .i64 0, .int .i64 0, .int .i64 0, .int .i64 0, .int .i64 0, .int .i64 0] 23)) V3.heap.size zC C3 23 (0, 0) hX4)
    have hA := hid (setRow_after n3.2.1 (cs := C3) (Nat.le_refl _) hX4)
    replace hX4 := hid hX4
    clear n3
    go_wp2_with (refine wpList_store_row rfl 23 (.tmp 9) (.tmp 50) rfl V3.heap.size C3 rfl rfl 23 zC hX4.out (by rw [sC3.out]; kernel_rfl) (by rw [sC3.out]; rfl) oC3.out ?_)
    clear hX4
    obtain ⟨V4, hV4⟩ : ∃ X, (V3.alloc (.cells #[.int .i64 0, .int .i64 0, .int .i64 0, .int .i64 0, .int .i64 0, .int .i64 0, .int .i64 0, .int .i64 0, .int .i64 0, .int .i64 0, .int .i64 0, .int .i64 0, .int .i64 0, .int .i64 0, .int .i64 0, .int .i64 0, .int .i64 0, .int .i64 0, .int .i64 0, .int .i64 0, .int .i64 0, .int .i64 0, .int .i64 0, .int .i64 0, .int .i64 0, .int .i64 0, .int .i64 0, .int .i64 0, .int .i64 0, .int .i64 0, .int .i64 0, .int .i64 0] 23)).setRow V3.heap.size C3 = X := ⟨_, rfl⟩
    have hA2 := hA.out
    clear hA
    have hA := hA2
    clear hA2
    rw [hV4] at hA r9 ⊢
    obtain ⟨q9, hq9⟩ : ∃ X, V3.heap.size = X := ⟨_, rfl⟩
    rw [hq9] at r9 ⊢
    replace hV4 := hid hV4
    replace hq9 := hid hq9
    replace hO1 := hid (hO1.out.below hA)
    replace rm := hid (held_after hA rm.out)
    replace hB := hid (bthen hB.out hA)
    clear hA
    replace r9 := hid r9.out
    refine (num16_any 0 _ (by omega) (by omega)).mono ?_
    rintro e V ⟨rfl, rfl⟩
    go_wp2_with (refine wpList_load_rowG (by rfl) 23 (.tmp 9) rfl q9 rfl 23 C3 (0, 0) _ r9.out Try.underlying23 rfl (by rw [sC3.out]; kernel_rfl) ?_)
    refine (kQ.out _).mono ?_
    rintro e V5 ⟨r5a, r5c, rfl, hO5, hA⟩
    replace hO1 := hid (hO1.out.below hA)
    replace rm := hid (held_after hA rm.out)
    replace r9 := hid (held_after hA r9.out)
    replace hB := hid (bthen hB.out hA)
    clear hA
    have e9 : putL PD16 P = (bs, 0) := hTP.out
    rw [e9] at hO5 ⊢
    clear e9
    dsimp only at hO5 ⊢
    replace hO5 := hid hO5
    go_wp2_with fail
    have c1 := txt16 hO5.out.slf
    have c2 := txt16 (hs1.out.below hB.out)
    try dsimp only at c1
    generalize textOf bs = TX at *
    refine (num16_any 0 _ (by omega) (by omega)).mono ?_
    rintro e V ⟨rfl, rfl⟩
    go_wp2_with fail
    go_ret
    exact ⟨rfl, hB.out⟩


end Go.Proofs.Ytfihdgichmocmaa
