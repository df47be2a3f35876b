/- Package gsv: a book: New, right, Wait. -/
import Derived.Test.YtobgibmpodggkaaDoorGsv2
import Derived.Laws.Tables
import Derived.Deep.DeepCutAuto
namespace Go.Proofs.YtobgibmpodggkaaDoor
open Go.ChangeShapes Go.WideShapes Go.ChangeAt Go.RowKit
set_option linter.unusedVariables false
set_option linter.unusedSimpArgs false

/-- A message that may be added. -/
def rgB (tt no : Int) (vn : Nat) : Bool := decide (1 ≤ tt ∧ tt ≤ 9 ∧ 1 ≤ no ∧ no ≤ tt ∧ vn ≤ 4)
theorem bnew29_any (w : World) : Calls Tryd.prog 16 #[] w fun r w' => r = .returned (.pointer (some ⟨w.heap.size, 0, none⟩)) ∧ w' = w.alloc (.cells #[.bool true, .int .i64 0, .int .i64 0, .slice none 0 0] 56) := by
  go_enter Tryd.func16, Tryd.ntmps16
  go_wp2_with fail
  go_ret
  exact ⟨rfl, rfl⟩
set_option maxRecDepth 100000 in
set_option maxHeartbeats 4000000 in
theorem right29_any (tt no sn : Int) (va : Option Addr) (vn vc : Nat) (w : World) : Calls Tryd.prog 41 #[.agg #[.int .i64 tt, .int .i64 no, .int .i64 sn, .slice va vn vc]] w fun r w' => r = .returned (.bool (rgB tt no vn)) ∧ After w w' := by
  by_cases c0 : 1 ≤ tt
  case neg =>
    have b0 : decide (1 ≤ tt) = false := by simpa using c0
    have hv := hid (show rgB tt no vn = false by unfold rgB; exact decide_eq_false (fun h => c0 (by omega)))
    rw [hv.out]
    clear hv
    go_enter Tryd.func41, Tryd.ntmps41
    go_upto_region 0 with (fail)
    apply wp_region_seg0 (w := w) (S := [.al 1000, .q []]) (E := [.al ((fun p => .pointer (some ⟨p, 0, none⟩)), _) 1000, .q0 _]) rfl (by kernel_rfl) rfl rfl
    intro th hge hne
    refine Seg.step _ rfl ⟨by rfl, fun U hU => ?_⟩ ?_
    · go_simp; exact vp_alloc rfl rfl rfl
    refine Seg.sa ?_
    refine Seg.sq ?_
    refine Seg.stop (fun U1 hU hk => ?_)
    have nb0 := hge 0 _ _ rfl
    have rb0 := (hk 0 _ _ rfl trivial).1.2 (by simp)
    clear hk hge hne
    generalize th (0 + 0) = p0_0 at *
    dsimp only at rb0
    have r_p0_0 := rb0
    clear rb0
    have n_p0_0 := nb0
    clear nb0
    have sz1 := hU.size
    have hB : Below w.heap.size w U1 := hU
    clear hU
    have z0 := held_cell r_p0_0 0 _ rfl
    have z1 := held_cell r_p0_0 1 _ rfl
    have z3 := held_cell r_p0_0 3 _ rfl
    go_wp2_with fail
    go_ret
    exact ⟨rfl, hB⟩
  have b0 : decide (1 ≤ tt) = true := by simpa using c0
  by_cases c1 : tt ≤ 9
  case neg =>
    have b1 : decide (tt ≤ 9) = false := by simpa using c1
    have hv := hid (show rgB tt no vn = false by unfold rgB; exact decide_eq_false (fun h => c1 (by omega)))
    rw [hv.out]
    clear hv
    go_enter Tryd.func41, Tryd.ntmps41
    go_upto_region 0 with (fail)
    apply wp_region_seg0 (w := w) (S := [.al 1000, .q []]) (E := [.al ((fun p => .pointer (some ⟨p, 0, none⟩)), _) 1000, .q0 _]) rfl (by kernel_rfl) rfl rfl
    intro th hge hne
    refine Seg.step _ rfl ⟨by rfl, fun U hU => ?_⟩ ?_
    · go_simp; exact vp_alloc rfl rfl rfl
    refine Seg.sa ?_
    refine Seg.sq ?_
    refine Seg.stop (fun U1 hU hk => ?_)
    have nb0 := hge 0 _ _ rfl
    have rb0 := (hk 0 _ _ rfl trivial).1.2 (by simp)
    clear hk hge hne
    generalize th (0 + 0) = p0_0 at *
    dsimp only at rb0
    have r_p0_0 := rb0
    clear rb0
    have n_p0_0 := nb0
    clear nb0
    have sz1 := hU.size
    have hB : Below w.heap.size w U1 := hU
    clear hU
    have z0 := held_cell r_p0_0 0 _ rfl
    have z1 := held_cell r_p0_0 1 _ rfl
    have z3 := held_cell r_p0_0 3 _ rfl
    go_wp2_with fail
    go_ret
    exact ⟨rfl, hB⟩
  have b1 : decide (tt ≤ 9) = true := by simpa using c1
  by_cases c2 : 1 ≤ no
  case neg =>
    have b2 : decide (1 ≤ no) = false := by simpa using c2
    have hv := hid (show rgB tt no vn = false by unfold rgB; exact decide_eq_false (fun h => c2 (by omega)))
    rw [hv.out]
    clear hv
    go_enter Tryd.func41, Tryd.ntmps41
    go_upto_region 0 with (fail)
    apply wp_region_seg0 (w := w) (S := [.al 1000, .q []]) (E := [.al ((fun p => .pointer (some ⟨p, 0, none⟩)), _) 1000, .q0 _]) rfl (by kernel_rfl) rfl rfl
    intro th hge hne
    refine Seg.step _ rfl ⟨by rfl, fun U hU => ?_⟩ ?_
    · go_simp; exact vp_alloc rfl rfl rfl
    refine Seg.sa ?_
    refine Seg.sq ?_
    refine Seg.stop (fun U1 hU hk => ?_)
    have nb0 := hge 0 _ _ rfl
    have rb0 := (hk 0 _ _ rfl trivial).1.2 (by simp)
    clear hk hge hne
    generalize th (0 + 0) = p0_0 at *
    dsimp only at rb0
    have r_p0_0 := rb0
    clear rb0
    have n_p0_0 := nb0
    clear nb0
    have sz1 := hU.size
    have hB : Below w.heap.size w U1 := hU
    clear hU
    have z0 := held_cell r_p0_0 0 _ rfl
    have z1 := held_cell r_p0_0 1 _ rfl
    have z3 := held_cell r_p0_0 3 _ rfl
    go_wp2_with fail
    go_ret
    exact ⟨rfl, hB⟩
  have b2 : decide (1 ≤ no) = true := by simpa using c2
  by_cases c3 : no ≤ tt
  case neg =>
    have b3 : decide (no ≤ tt) = false := by simpa using c3
    have hv := hid (show rgB tt no vn = false by unfold rgB; exact decide_eq_false (fun h => c3 (by omega)))
    rw [hv.out]
    clear hv
    go_enter Tryd.func41, Tryd.ntmps41
    go_upto_region 0 with (fail)
    apply wp_region_seg0 (w := w) (S := [.al 1000, .q []]) (E := [.al ((fun p => .pointer (some ⟨p, 0, none⟩)), _) 1000, .q0 _]) rfl (by kernel_rfl) rfl rfl
    intro th hge hne
    refine Seg.step _ rfl ⟨by rfl, fun U hU => ?_⟩ ?_
    · go_simp; exact vp_alloc rfl rfl rfl
    refine Seg.sa ?_
    refine Seg.sq ?_
    refine Seg.stop (fun U1 hU hk => ?_)
    have nb0 := hge 0 _ _ rfl
    have rb0 := (hk 0 _ _ rfl trivial).1.2 (by simp)
    clear hk hge hne
    generalize th (0 + 0) = p0_0 at *
    dsimp only at rb0
    have r_p0_0 := rb0
    clear rb0
    have n_p0_0 := nb0
    clear nb0
    have sz1 := hU.size
    have hB : Below w.heap.size w U1 := hU
    clear hU
    have z0 := held_cell r_p0_0 0 _ rfl
    have z1 := held_cell r_p0_0 1 _ rfl
    have z3 := held_cell r_p0_0 3 _ rfl
    go_wp2_with fail
    go_ret
    exact ⟨rfl, hB⟩
  have b3 : decide (no ≤ tt) = true := by simpa using c3
  by_cases c4 : vn ≤ 4
  case neg =>
    have b4 : decide ((vn : Int) ≤ 4) = false := by simp; omega
    have hv := hid (show rgB tt no vn = false by unfold rgB; exact decide_eq_false (fun h => c4 (by omega)))
    rw [hv.out]
    clear hv
    go_enter Tryd.func41, Tryd.ntmps41
    go_upto_region 0 with (fail)
    apply wp_region_seg0 (w := w) (S := [.al 1000, .q []]) (E := [.al ((fun p => .pointer (some ⟨p, 0, none⟩)), _) 1000, .q0 _]) rfl (by kernel_rfl) rfl rfl
    intro th hge hne
    refine Seg.step _ rfl ⟨by rfl, fun U hU => ?_⟩ ?_
    · go_simp; exact vp_alloc rfl rfl rfl
    refine Seg.sa ?_
    refine Seg.sq ?_
    refine Seg.stop (fun U1 hU hk => ?_)
    have nb0 := hge 0 _ _ rfl
    have rb0 := (hk 0 _ _ rfl trivial).1.2 (by simp)
    clear hk hge hne
    generalize th (0 + 0) = p0_0 at *
    dsimp only at rb0
    have r_p0_0 := rb0
    clear rb0
    have n_p0_0 := nb0
    clear nb0
    have sz1 := hU.size
    have hB : Below w.heap.size w U1 := hU
    clear hU
    have z0 := held_cell r_p0_0 0 _ rfl
    have z1 := held_cell r_p0_0 1 _ rfl
    have z3 := held_cell r_p0_0 3 _ rfl
    go_wp2_with fail
    go_ret
    exact ⟨rfl, hB⟩
  have b4 : decide ((vn : Int) ≤ 4) = true := by simp; omega
  have hv := hid (show rgB tt no vn = true by unfold rgB; exact decide_eq_true ⟨c0, c1, c2, c3, c4⟩)
  rw [hv.out]
  clear hv
  go_enter Tryd.func41, Tryd.ntmps41
  go_upto_region 0 with (fail)
  apply wp_region_seg0 (w := w) (S := [.al 1000, .q []]) (E := [.al ((fun p => .pointer (some ⟨p, 0, none⟩)), _) 1000, .q0 _]) rfl (by kernel_rfl) rfl rfl
  intro th hge hne
  refine Seg.step _ rfl ⟨by rfl, fun U hU => ?_⟩ ?_
  · go_simp; exact vp_alloc rfl rfl rfl
  refine Seg.sa ?_
  refine Seg.sq ?_
  refine Seg.stop (fun U1 hU hk => ?_)
  have nb0 := hge 0 _ _ rfl
  have rb0 := (hk 0 _ _ rfl trivial).1.2 (by simp)
  clear hk hge hne
  generalize th (0 + 0) = p0_0 at *
  dsimp only at rb0
  have r_p0_0 := rb0
  clear rb0
  have n_p0_0 := nb0
  clear nb0
  have sz1 := hU.size
  have hB : Below w.heap.size w U1 := hU
  clear hU
  have z0 := held_cell r_p0_0 0 _ rfl
  have z1 := held_cell r_p0_0 1 _ rfl
  have z3 := held_cell r_p0_0 3 _ rfl
  go_wp2_with fail
  go_ret
  exact ⟨rfl, hB⟩
set_option maxRecDepth 100000 in
set_option maxHeartbeats 4000000 in
theorem bwait29_any (B : Nat) (t n : Int) (v : Value) (w : World) (hb : w.heap[B]? = some (.cells #[.bool true, .int .i64 t, .int .i64 n, v] 56 (0, 0))) : Calls Tryd.prog 19 #[.pointer (some ⟨B, 0, none⟩)] w fun r w' => r = .returned (.tuple #[.int .i64 t, .int .i64 n]) ∧ After w w' := by
  have z0 := held_cell hb 0 _ rfl
  go_enter Tryd.func19, Tryd.ntmps19
  go_upto_region 3 with (fail)
  clear z0
  apply wp_region_seg (w := w) (S := [.q [], .q [], .q [], .q [], .q [], .q [], .q [], .q [], .q [], .q [], .q [], .q []]) (E := [.q0 _, .q0 _, .q0 _, .q0 _, .q0 _, .q0 _, .q0 _, .q0 _, .q0 _, .q0 _, .q0 _, .q0 _]) (by kernel_rfl) rfl (by kernel_rfl) rfl rfl
  intro th hge hne
  iterate 4 refine Seg.sq ?_
  refine Seg.sq ?_ (ht := Or.inl ⟨by rfl, fun U hU => vp_quiet (by (have h40 := held_cell (held_after hU.1 hb) 1 _ rfl; go_simp <;> exact rfl))⟩)
  iterate 4 refine Seg.sq ?_
  refine Seg.sq ?_ (ht := Or.inl ⟨by rfl, fun U hU => vp_quiet (by (have h41 := held_cell (held_after hU.1 hb) 2 _ rfl; go_simp <;> exact rfl))⟩)
  refine Seg.sq ?_
  refine Seg.sq ?_
  refine Seg.stop (fun U1 hU hk => ?_)
  clear hk hge hne
  replace hb := held_after hU hb
  have sz1 := hU.size
  have hB : Below w.heap.size w U1 := hU
  go_wp2_with fail
  go_ret2
  exact ⟨rfl, hU⟩

end Go.Proofs.YtobgibmpodggkaaDoor
