/- Package gsv: the small functions. -/
import Derived.Test.YtobgibmpodggkaaDoorMsg
import Derived.Laws.Tables
import Derived.Deep.DeepCutAuto
namespace Go.Proofs.YtobgibmpodggkaaDoor
open Go.ChangeShapes Go.WideShapes Go.ChangeAt Go.RowKit
set_option linter.unusedVariables false
set_option linter.unusedSimpArgs false

/-- A digit from 1 to hi that is put: its text, its error. (Where hi is great the text is some byte: then an error came ahead.) -/
def dgV (n hi : Int) : List Nat × Int := if n < 1 ∨ hi < n then ([], 5) else ([((48 + n) % 256).toNat], 0)
/-- A digit from 1 to hi that is taken: it, and why it is none. -/
def fxV (s : ByteArray) (hi : Int) : Int × Int := if (dgS s 1 hi).2 = 0 then dgS s 1 hi else (0, (dgS s 1 hi).2)
theorem dgV_P {n hi : Int} (h : hi ≤ 9) : dgV n hi = dgP n 1 hi := by
  unfold dgV dgP
  by_cases c : n < 1 ∨ hi < n
  · rw [if_pos c, if_pos c]
  · rw [if_neg c, if_neg c]
    have e : (48 + n) % 256 = 48 + n := by omega
    rw [e, show (48 + n).toNat = 48 + n.toNat by omega]
set_option maxRecDepth 100000 in
set_option maxHeartbeats 2000000 in
theorem p29seenCol_any (w : World) : Calls Tryd.prog 25 #[] w fun r w' => r = .returned (.agg #[.int .i64 1, .int .i64 2, .int .i64 0, .int .i64 0, .int .i64 99]) ∧ After w w' := by
  go_enter Tryd.func25, Tryd.ntmps25
  go_upto_region 0 with (fail)
  apply wp_region_seg0 (w := w) (S := [.al 1000]) (E := [.al ((fun p => .pointer (some ⟨p, 0, none⟩)), _) 1000]) rfl (by kernel_rfl) rfl rfl
  intro th hge hne
  refine Seg.step _ rfl ⟨by rfl, fun U hU => ?_⟩ ?_
  · go_simp; exact vp_alloc rfl rfl rfl
  refine Seg.sa ?_
  refine Seg.stop (fun U1 hU hk => ?_)
  have nb0 := hge 0 _ _ rfl
  have rb0 := (hk 0 _ _ rfl trivial).1.2 (by simp)
  clear hk hge hne
  generalize th (0 + 0) = p0_0 at *
  dsimp only at rb0
  have r_p0_0 := rb0
  clear rb0
  have n_p0_0 := nb0
  clear nb0
  have sz1 := hU.size
  have hB : Below w.heap.size w U1 := hU
  clear hU
  have g0 := held_free r_p0_0 0
  have g1 := held_free r_p0_0 1
  have g2 := held_free r_p0_0 2
  have g3 := held_free r_p0_0 3
  have g4 := held_free r_p0_0 4
  have z0 := held_cell r_p0_0 0 _ rfl
  have z1 := held_cell r_p0_0 1 _ rfl
  have z2 := held_cell r_p0_0 2 _ rfl
  have z3 := held_cell r_p0_0 3 _ rfl
  have z4 := held_cell r_p0_0 4 _ rfl
  obtain ⟨W9, hW9, ya, yO⟩ := st5 r_p0_0 (.int .i64 1) (.int .i64 2) (.int .i64 0) (.int .i64 0) (.int .i64 99)
  have hB9 := hid (belowS hB yO (by omega))
  have ez0 := held_cell ya 0 _ rfl
  have ez1 := held_cell ya 1 _ rfl
  have ez2 := held_cell ya 2 _ rfl
  have ez3 := held_cell ya 3 _ rfl
  have ez4 := held_cell ya 4 _ rfl
  clear ya yO r_p0_0 hB
  go_wp2_with fail
  refine bodyPost_ret (v := .agg #[.int .i64 1, .int .i64 2, .int .i64 0, .int .i64 0, .int .i64 99]) (by simp [results, Tryd.results25, go_sem, ez0, ez1, ez2, ez3, ez4]) rfl ⟨rfl, hB9.out⟩
set_option maxRecDepth 100000 in
set_option maxHeartbeats 2000000 in
theorem p29idCol_any (w : World) : Calls Tryd.prog 26 #[] w fun r w' => r = .returned (.agg #[.int .i64 1, .int .i64 3, .int .i64 0, .int .i64 1, .int .i64 255]) ∧ After w w' := by
  go_enter Tryd.func26, Tryd.ntmps26
  go_upto_region 0 with (fail)
  apply wp_region_seg0 (w := w) (S := [.al 1000]) (E := [.al ((fun p => .pointer (some ⟨p, 0, none⟩)), _) 1000]) rfl (by kernel_rfl) rfl rfl
  intro th hge hne
  refine Seg.step _ rfl ⟨by rfl, fun U hU => ?_⟩ ?_
  · go_simp; exact vp_alloc rfl rfl rfl
  refine Seg.sa ?_
  refine Seg.stop (fun U1 hU hk => ?_)
  have nb0 := hge 0 _ _ rfl
  have rb0 := (hk 0 _ _ rfl trivial).1.2 (by simp)
  clear hk hge hne
  generalize th (0 + 0) = p0_0 at *
  dsimp only at rb0
  have r_p0_0 := rb0
  clear rb0
  have n_p0_0 := nb0
  clear nb0
  have sz1 := hU.size
  have hB : Below w.heap.size w U1 := hU
  clear hU
  have g0 := held_free r_p0_0 0
  have g1 := held_free r_p0_0 1
  have g2 := held_free r_p0_0 2
  have g3 := held_free r_p0_0 3
  have g4 := held_free r_p0_0 4
  have z0 := held_cell r_p0_0 0 _ rfl
  have z1 := held_cell r_p0_0 1 _ rfl
  have z2 := held_cell r_p0_0 2 _ rfl
  have z3 := held_cell r_p0_0 3 _ rfl
  have z4 := held_cell r_p0_0 4 _ rfl
  obtain ⟨W9, hW9, ya, yO⟩ := st5 r_p0_0 (.int .i64 1) (.int .i64 3) (.int .i64 0) (.int .i64 1) (.int .i64 255)
  have hB9 := hid (belowS hB yO (by omega))
  have ez0 := held_cell ya 0 _ rfl
  have ez1 := held_cell ya 1 _ rfl
  have ez2 := held_cell ya 2 _ rfl
  have ez3 := held_cell ya 3 _ rfl
  have ez4 := held_cell ya 4 _ rfl
  clear ya yO r_p0_0 hB
  go_wp2_with fail
  refine bodyPost_ret (v := .agg #[.int .i64 1, .int .i64 3, .int .i64 0, .int .i64 1, .int .i64 255]) (by simp [results, Tryd.results26, go_sem, ez0, ez1, ez2, ez3, ez4]) rfl ⟨rfl, hB9.out⟩
set_option maxRecDepth 100000 in
set_option maxHeartbeats 2000000 in
theorem p29elevCol_any (w : World) : Calls Tryd.prog 27 #[] w fun r w' => r = .returned (.agg #[.int .i64 1, .int .i64 2, .int .i64 0, .int .i64 0, .int .i64 90]) ∧ After w w' := by
  go_enter Tryd.func27, Tryd.ntmps27
  go_upto_region 0 with (fail)
  apply wp_region_seg0 (w := w) (S := [.al 1000]) (E := [.al ((fun p => .pointer (some ⟨p, 0, none⟩)), _) 1000]) rfl (by kernel_rfl) rfl rfl
  intro th hge hne
  refine Seg.step _ rfl ⟨by rfl, fun U hU => ?_⟩ ?_
  · go_simp; exact vp_alloc rfl rfl rfl
  refine Seg.sa ?_
  refine Seg.stop (fun U1 hU hk => ?_)
  have nb0 := hge 0 _ _ rfl
  have rb0 := (hk 0 _ _ rfl trivial).1.2 (by simp)
  clear hk hge hne
  generalize th (0 + 0) = p0_0 at *
  dsimp only at rb0
  have r_p0_0 := rb0
  clear rb0
  have n_p0_0 := nb0
  clear nb0
  have sz1 := hU.size
  have hB : Below w.heap.size w U1 := hU
  clear hU
  have g0 := held_free r_p0_0 0
  have g1 := held_free r_p0_0 1
  have g2 := held_free r_p0_0 2
  have g3 := held_free r_p0_0 3
  have g4 := held_free r_p0_0 4
  have z0 := held_cell r_p0_0 0 _ rfl
  have z1 := held_cell r_p0_0 1 _ rfl
  have z2 := held_cell r_p0_0 2 _ rfl
  have z3 := held_cell r_p0_0 3 _ rfl
  have z4 := held_cell r_p0_0 4 _ rfl
  obtain ⟨W9, hW9, ya, yO⟩ := st5 r_p0_0 (.int .i64 1) (.int .i64 2) (.int .i64 0) (.int .i64 0) (.int .i64 90)
  have hB9 := hid (belowS hB yO (by omega))
  have ez0 := held_cell ya 0 _ rfl
  have ez1 := held_cell ya 1 _ rfl
  have ez2 := held_cell ya 2 _ rfl
  have ez3 := held_cell ya 3 _ rfl
  have ez4 := held_cell ya 4 _ rfl
  clear ya yO r_p0_0 hB
  go_wp2_with fail
  refine bodyPost_ret (v := .agg #[.int .i64 1, .int .i64 2, .int .i64 0, .int .i64 0, .int .i64 90]) (by simp [results, Tryd.results27, go_sem, ez0, ez1, ez2, ez3, ez4]) rfl ⟨rfl, hB9.out⟩
set_option maxRecDepth 100000 in
set_option maxHeartbeats 2000000 in
theorem p29azimCol_any (w : World) : Calls Tryd.prog 28 #[] w fun r w' => r = .returned (.agg #[.int .i64 1, .int .i64 3, .int .i64 0, .int .i64 0, .int .i64 359]) ∧ After w w' := by
  go_enter Tryd.func28, Tryd.ntmps28
  go_upto_region 0 with (fail)
  apply wp_region_seg0 (w := w) (S := [.al 1000]) (E := [.al ((fun p => .pointer (some ⟨p, 0, none⟩)), _) 1000]) rfl (by kernel_rfl) rfl rfl
  intro th hge hne
  refine Seg.step _ rfl ⟨by rfl, fun U hU => ?_⟩ ?_
  · go_simp; exact vp_alloc rfl rfl rfl
  refine Seg.sa ?_
  refine Seg.stop (fun U1 hU hk => ?_)
  have nb0 := hge 0 _ _ rfl
  have rb0 := (hk 0 _ _ rfl trivial).1.2 (by simp)
  clear hk hge hne
  generalize th (0 + 0) = p0_0 at *
  dsimp only at rb0
  have r_p0_0 := rb0
  clear rb0
  have n_p0_0 := nb0
  clear nb0
  have sz1 := hU.size
  have hB : Below w.heap.size w U1 := hU
  clear hU
  have g0 := held_free r_p0_0 0
  have g1 := held_free r_p0_0 1
  have g2 := held_free r_p0_0 2
  have g3 := held_free r_p0_0 3
  have g4 := held_free r_p0_0 4
  have z0 := held_cell r_p0_0 0 _ rfl
  have z1 := held_cell r_p0_0 1 _ rfl
  have z2 := held_cell r_p0_0 2 _ rfl
  have z3 := held_cell r_p0_0 3 _ rfl
  have z4 := held_cell r_p0_0 4 _ rfl
  obtain ⟨W9, hW9, ya, yO⟩ := st5 r_p0_0 (.int .i64 1) (.int .i64 3) (.int .i64 0) (.int .i64 0) (.int .i64 359)
  have hB9 := hid (belowS hB yO (by omega))
  have ez0 := held_cell ya 0 _ rfl
  have ez1 := held_cell ya 1 _ rfl
  have ez2 := held_cell ya 2 _ rfl
  have ez3 := held_cell ya 3 _ rfl
  have ez4 := held_cell ya 4 _ rfl
  clear ya yO r_p0_0 hB
  go_wp2_with fail
  refine bodyPost_ret (v := .agg #[.int .i64 1, .int .i64 3, .int .i64 0, .int .i64 0, .int .i64 359]) (by simp [results, Tryd.results28, go_sem, ez0, ez1, ez2, ez3, ez4]) rfl ⟨rfl, hB9.out⟩
set_option maxRecDepth 100000 in
set_option maxHeartbeats 2000000 in
theorem p29levelCol_any (w : World) : Calls Tryd.prog 29 #[] w fun r w' => r = .returned (.agg #[.int .i64 1, .int .i64 2, .int .i64 0, .int .i64 0, .int .i64 99]) ∧ After w w' := by
  go_enter Tryd.func29, Tryd.ntmps29
  go_upto_region 0 with (fail)
  apply wp_region_seg0 (w := w) (S := [.al 1000]) (E := [.al ((fun p => .pointer (some ⟨p, 0, none⟩)), _) 1000]) rfl (by kernel_rfl) rfl rfl
  intro th hge hne
  refine Seg.step _ rfl ⟨by rfl, fun U hU => ?_⟩ ?_
  · go_simp; exact vp_alloc rfl rfl rfl
  refine Seg.sa ?_
  refine Seg.stop (fun U1 hU hk => ?_)
  have nb0 := hge 0 _ _ rfl
  have rb0 := (hk 0 _ _ rfl trivial).1.2 (by simp)
  clear hk hge hne
  generalize th (0 + 0) = p0_0 at *
  dsimp only at rb0
  have r_p0_0 := rb0
  clear rb0
  have n_p0_0 := nb0
  clear nb0
  have sz1 := hU.size
  have hB : Below w.heap.size w U1 := hU
  clear hU
  have g0 := held_free r_p0_0 0
  have g1 := held_free r_p0_0 1
  have g2 := held_free r_p0_0 2
  have g3 := held_free r_p0_0 3
  have g4 := held_free r_p0_0 4
  have z0 := held_cell r_p0_0 0 _ rfl
  have z1 := held_cell r_p0_0 1 _ rfl
  have z2 := held_cell r_p0_0 2 _ rfl
  have z3 := held_cell r_p0_0 3 _ rfl
  have z4 := held_cell r_p0_0 4 _ rfl
  obtain ⟨W9, hW9, ya, yO⟩ := st5 r_p0_0 (.int .i64 1) (.int .i64 2) (.int .i64 0) (.int .i64 0) (.int .i64 99)
  have hB9 := hid (belowS hB yO (by omega))
  have ez0 := held_cell ya 0 _ rfl
  have ez1 := held_cell ya 1 _ rfl
  have ez2 := held_cell ya 2 _ rfl
  have ez3 := held_cell ya 3 _ rfl
  have ez4 := held_cell ya 4 _ rfl
  clear ya yO r_p0_0 hB
  go_wp2_with fail
  refine bodyPost_ret (v := .agg #[.int .i64 1, .int .i64 2, .int .i64 0, .int .i64 0, .int .i64 99]) (by simp [results, Tryd.results29, go_sem, ez0, ez1, ez2, ez3, ez4]) rfl ⟨rfl, hB9.out⟩
set_option maxRecDepth 100000 in
set_option maxHeartbeats 4000000 in
theorem pdigit29_any (n hi : Int) (w : World) : Calls Tryd.prog 23 #[.int .i64 n, .int .i64 hi] w fun r w' => r = .returned (.tuple #[.string (nb (dgV n hi).1), .int .i64 (dgV n hi).2]) ∧ After w w' := by
  by_cases c1 : n < 1
  case pos =>
    have b1 : decide (n < 1) = true := by simpa using c1
    have hd := hid (show dgV n hi = ([], 5) by unfold dgV; rw [if_pos (by omega)])
    rw [hd.out]
    clear c1
    go_enter Tryd.func23, Tryd.ntmps23
    go_wp2_with fail
    go_ret2
    exact ⟨by rfl, After.refl _⟩
  have b1 : decide (n < 1) = false := by simpa using c1
  by_cases c2 : hi < n
  case pos =>
    have b2 : decide (hi < n) = true := by simpa using c2
    have hd := hid (show dgV n hi = ([], 5) by unfold dgV; rw [if_pos (by omega)])
    rw [hd.out]
    clear c1
    go_enter Tryd.func23, Tryd.ntmps23
    go_wp2_with fail
    go_ret2
    exact ⟨by rfl, After.refl _⟩
  have b2 : decide (hi < n) = false := by simpa using c2
  obtain ⟨c, hc⟩ : ∃ c : Nat, ((48 + n) % 256).toNat = c := ⟨_, rfl⟩
  have hcb : c ≤ 255 := by omega
  have hd := hid (show dgV n hi = ([c], 0) by unfold dgV; rw [if_neg (by omega), hc])
  have e2 : IntKind.u8.wrap (IntKind.i64.wrap (48 + n)) = (c : Int) := by simp [IntKind.wrap, IntKind.bits, IntKind.signed]; omega
  obtain ⟨x, hx⟩ : ∃ x, (c : Int) = x := ⟨_, rfl⟩
  have hds := digit_str c x (by omega) (by omega) w
  rw [hx] at e2
  obtain ⟨y, hy⟩ : ∃ y, IntKind.i64.wrap (48 + n) = y := ⟨_, rfl⟩
  rw [hy] at e2
  have hA := hid (alloc_new w (.cells #[.int .u8 x] 5)).2.1
  rw [hd.out]
  clear c1 c2 hc hx hcb
  go_enter Tryd.func23, Tryd.ntmps23
  go_wp2_with fail
  go_ret2
  exact ⟨by rfl, hA.out⟩
set_option maxRecDepth 100000 in
set_option maxHeartbeats 4000000 in
theorem takedigit29_any (s : ByteArray) (hi : Int) (w : World) : Calls Tryd.prog 36 #[.string s, .int .i64 hi] w fun r w' => r = .returned (.tuple #[.int .i64 (fxV s hi).1, .int .i64 (fxV s hi).2]) ∧ w' = w := by
  by_cases c1 : s.size = 1
  case neg =>
    have b1 : ((s.size : Int) != 1) = true := by simp; omega
    have hd := hid (show fxV s hi = (0, 3) by (unfold fxV; rw [show dgS s 1 hi = (0, 3) from by unfold dgS; rw [if_neg (by omega)]]; rfl))
    clear c1
    go_enter Tryd.func36, Tryd.ntmps36
    go_wp2_with fail
    go_ret2
    exact ⟨by rw [hd.out]; rfl, rfl⟩
  obtain ⟨c, hc⟩ : ∃ c, (sb s).getD 0 0 = c := ⟨_, rfl⟩
  have hix := fun W => tidx (P := Tryd.prog) 9 Tryd.underlying9 s 0 c (by omega) hc .i64 0 rfl W
  have hcb : c ≤ 255 := by rw [← hc, List.getD_eq_getElem?_getD, List.getElem?_eq_getElem (show 0 < (sb s).length by rw [sb_len]; omega)]; have := sb_lt s _ (List.getElem_mem (show 0 < (sb s).length by rw [sb_len]; omega)); simp only [Option.getD_some]; omega
  have b1 : ((s.size : Int) != 1) = false := by simp; omega
  by_cases c2 : c < 48
  case pos =>
    have b3 : decide ((c : Int) < 48) = true := by simp; omega
    have hd := hid (show fxV s hi = (0, 3) by (unfold fxV; rw [show dgS s 1 hi = (0, 3) from by unfold dgS; rw [if_neg (by omega)]]; rfl))
    clear c1
    go_enter Tryd.func36, Tryd.ntmps36
    go_wp2_with fail
    go_ret2
    exact ⟨by rw [hd.out]; rfl, rfl⟩
  have b3 : decide ((c : Int) < 48) = false := by simp; omega
  by_cases c3 : 57 < c
  case pos =>
    have b4 : decide ((57 : Int) < (c : Int)) = true := by simp; omega
    have hd := hid (show fxV s hi = (0, 3) by (unfold fxV; rw [show dgS s 1 hi = (0, 3) from by unfold dgS; rw [if_neg (by omega)]]; rfl))
    clear c1
    go_enter Tryd.func36, Tryd.ntmps36
    go_wp2_with fail
    go_ret2
    exact ⟨by rw [hd.out]; rfl, rfl⟩
  have b4 : decide ((57 : Int) < (c : Int)) = false := by simp; omega
  have e1 : ((c : Int) - 48) % 256 = (c : Int) - 48 := by omega
  have e2 : IntKind.i64.wrap ((c : Int) - 48) = (c : Int) - 48 := by simp [IntKind.wrap, IntKind.bits, IntKind.signed]; omega
  by_cases c5 : (c : Int) - 48 < 1
  case pos =>
    have r1 : decide ((c : Int) - 48 < 1) = true := by simpa using c5
    have hd := hid (show fxV s hi = (0, 5) by (unfold fxV; rw [show dgS s 1 hi = ((c : Int) - 48, 5) from by unfold dgS; rw [if_pos (by omega), hc, if_pos (by omega)]]; rfl))
    clear c1
    go_enter Tryd.func36, Tryd.ntmps36
    go_wp2_with fail
    go_ret2
    exact ⟨by rw [hd.out]; rfl, rfl⟩
  have r1 : decide ((c : Int) - 48 < 1) = false := by simpa using c5
  by_cases c6 : hi < (c : Int) - 48
  case pos =>
    have r2 : decide (hi < (c : Int) - 48) = true := by simpa using c6
    have hd := hid (show fxV s hi = (0, 5) by (unfold fxV; rw [show dgS s 1 hi = ((c : Int) - 48, 5) from by unfold dgS; rw [if_pos (by omega), hc, if_pos (by omega)]]; rfl))
    clear c1
    go_enter Tryd.func36, Tryd.ntmps36
    go_wp2_with fail
    go_ret2
    exact ⟨by rw [hd.out]; rfl, rfl⟩
  have r2 : decide (hi < (c : Int) - 48) = false := by simpa using c6
  have hd := hid (show fxV s hi = ((c : Int) - 48, 0) by (unfold fxV; rw [show dgS s 1 hi = ((c : Int) - 48, 0) from by unfold dgS; rw [if_pos (by omega), hc, if_neg (by omega)]]; rfl))
  clear c1
  go_enter Tryd.func36, Tryd.ntmps36
  go_wp2_with fail
  go_ret2
  exact ⟨by rw [hd.out]; rfl, rfl⟩

end Go.Proofs.YtobgibmpodggkaaDoor
