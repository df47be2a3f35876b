/- Several texts in one: Gsv, Gsv2. -/
import Derived.Test.YtobgibmpodggkaaDoorMsg
import Derived.Laws.Tables
import Derived.Deep.DeepCutAuto

/- Package gsv: the small functions. -/
namespace Go.Proofs.YtobgibmpodggkaaDoor
open Go.ChangeShapes Go.WideShapes Go.ChangeAt Go.RowKit
set_option linter.unusedVariables false
set_option linter.unusedSimpArgs false

/-- A digit from 1 to hi that is put: its text, its error. (Where hi is great the text is some byte: then an error came ahead.) -/
def dgV (n hi : Int) : List Nat × Int := if n < 1 ∨ hi < n then ([], 5) else ([((48 + n) % 256).toNat], 0)
/-- A digit from 1 to hi that is taken: it, and why it is none. -/
def fxV (s : ByteArray) (hi : Int) : Int × Int := if (dgS s 1 hi).2 = 0 then dgS s 1 hi else (0, (dgS s 1 hi).2)
theorem dgV_P {n hi : Int} (h : hi ≤ 9) : dgV n hi = dgP n 1 hi := by
  unfold dgV dgP
  by_cases c : n < 1 ∨ hi < n
  · rw [if_pos c, if_pos c]
  · rw [if_neg c, if_neg c]
    have e : (48 + n) % 256 = 48 + n := by omega
    rw [e, show (48 + n).toNat = 48 + n.toNat by omega]
set_option maxRecDepth 100000 in
set_option maxHeartbeats 2000000 in
theorem p29seenCol_any (w : World) : Calls Tryd.prog 25 #[] w fun r w' => r = .returned (.agg #[.int .i64 1, .int .i64 2, .int .i64 0, .int .i64 0, .int .i64 99]) ∧ After w w' := by
  go_enter Tryd.func25, Tryd.ntmps25
  go_upto_region 0 with (fail)
  apply wp_region_seg0 (w := w) (S := [.al 1000]) (E := [.al ((fun p => .pointer (some ⟨p, 0, none⟩)), _) 1000]) rfl (by kernel_rfl) rfl rfl
  intro th hge hne
  refine Seg.step _ rfl ⟨by rfl, fun U hU => ?_⟩ ?_
  · go_simp; exact vp_alloc rfl rfl rfl
  refine Seg.sa ?_
  refine Seg.stop (fun U1 hU hk => ?_)
  have nb0 := hge 0 _ _ rfl
  have rb0 := (hk 0 _ _ rfl trivial).1.2 (by simp)
  clear hk hge hne
  generalize th (0 + 0) = p0_0 at *
  dsimp only at rb0
  have r_p0_0 := rb0
  clear rb0
  have n_p0_0 := nb0
  clear nb0
  have sz1 := hU.size
  have hB : Below w.heap.size w U1 := hU
  clear hU
  have g0 := held_free r_p0_0 0
  have g1 := held_free r_p0_0 1
  have g2 := held_free r_p0_0 2
  have g3 := held_free r_p0_0 3
  have g4 := held_free r_p0_0 4
  have z0 := held_cell r_p0_0 0 _ rfl
  have z1 := held_cell r_p0_0 1 _ rfl
  have z2 := held_cell r_p0_0 2 _ rfl
  have z3 := held_cell r_p0_0 3 _ rfl
  have z4 := held_cell r_p0_0 4 _ rfl
  obtain ⟨W9, hW9, ya, yO⟩ := st5 r_p0_0 (.int .i64 1) (.int .i64 2) (.int .i64 0) (.int .i64 0) (.int .i64 99)
  have hB9 := hid (belowS hB yO (by omega))
  have ez0 := held_cell ya 0 _ rfl
  have ez1 := held_cell ya 1 _ rfl
  have ez2 := held_cell ya 2 _ rfl
  have ez3 := held_cell ya 3 _ rfl
  have ez4 := held_cell ya 4 _ rfl
  clear ya yO r_p0_0 hB
  go_wp2_with fail
  refine bodyPost_ret (v := .agg #[.int .i64 1, .int .i64 2, .int .i64 0, .int .i64 0, .int .i64 99]) (by simp [results, Tryd.results25, go_sem, ez0, ez1, ez2, ez3, ez4]) rfl ⟨rfl, hB9.out⟩
set_option maxRecDepth 100000 in
set_option maxHeartbeats 2000000 in
theorem p29idCol_any (w : World) : Calls Tryd.prog 26 #[] w fun r w' => r = .returned (.agg #[.int .i64 1, .int .i64 3, .int .i64 0, .int .i64 1, .int .i64 255]) ∧ After w w' := by
  go_enter Tryd.func26, Tryd.ntmps26
  go_upto_region 0 with (fail)
  apply wp_region_seg0 (w := w) (S := [.al 1000]) (E := [.al ((fun p => .pointer (some ⟨p, 0, none⟩)), _) 1000]) rfl (by kernel_rfl) rfl rfl
  intro th hge hne
  refine Seg.step _ rfl ⟨by rfl, fun U hU => ?_⟩ ?_
  · go_simp; exact vp_alloc rfl rfl rfl
  refine Seg.sa ?_
  refine Seg.stop (fun U1 hU hk => ?_)
  have nb0 := hge 0 _ _ rfl
  have rb0 := (hk 0 _ _ rfl trivial).1.2 (by simp)
  clear hk hge hne
  generalize th (0 + 0) = p0_0 at *
  dsimp only at rb0
  have r_p0_0 := rb0
  clear rb0
  have n_p0_0 := nb0
  clear nb0
  have sz1 := hU.size
  have hB : Below w.heap.size w U1 := hU
  clear hU
  have g0 := held_free r_p0_0 0
  have g1 := held_free r_p0_0 1
  have g2 := held_free r_p0_0 2
  have g3 := held_free r_p0_0 3
  have g4 := held_free r_p0_0 4
  have z0 := held_cell r_p0_0 0 _ rfl
  have z1 := held_cell r_p0_0 1 _ rfl
  have z2 := held_cell r_p0_0 2 _ rfl
  have z3 := held_cell r_p0_0 3 _ rfl
  have z4 := held_cell r_p0_0 4 _ rfl
  obtain ⟨W9, hW9, ya, yO⟩ := st5 r_p0_0 (.int .i64 1) (.int .i64 3) (.int .i64 0) (.int .i64 1) (.int .i64 255)
  have hB9 := hid (belowS hB yO (by omega))
  have ez0 := held_cell ya 0 _ rfl
  have ez1 := held_cell ya 1 _ rfl
  have ez2 := held_cell ya 2 _ rfl
  have ez3 := held_cell ya 3 _ rfl
  have ez4 := held_cell ya 4 _ rfl
  clear ya yO r_p0_0 hB
  go_wp2_with fail
  refine bodyPost_ret (v := .agg #[.int .i64 1, .int .i64 3, .int .i64 0, .int .i64 1, .int .i64 255]) (by simp [results, Tryd.results26, go_sem, ez0, ez1, ez2, ez3, ez4]) rfl ⟨rfl, hB9.out⟩
set_option maxRecDepth 100000 in
set_option maxHeartbeats 2000000 in
theorem p29elevCol_any (w : World) : Calls Tryd.prog 27 #[] w fun r w' => r = .returned (.agg #[.int .i64 1, .int .i64 2, .int .i64 0, .int .i64 0, .int .i64 90]) ∧ After w w' := by
  go_enter Tryd.func27, Tryd.ntmps27
  go_upto_region 0 with (fail)
  apply wp_region_seg0 (w := w) (S := [.al 1000]) (E := [.al ((fun p => .pointer (some ⟨p, 0, none⟩)), _) 1000]) rfl (by kernel_rfl) rfl rfl
  intro th hge hne
  refine Seg.step _ rfl ⟨by rfl, fun U hU => ?_⟩ ?_
  · go_simp; exact vp_alloc rfl rfl rfl
  refine Seg.sa ?_
  refine Seg.stop (fun U1 hU hk => ?_)
  have nb0 := hge 0 _ _ rfl
  have rb0 := (hk 0 _ _ rfl trivial).1.2 (by simp)
  clear hk hge hne
  generalize th (0 + 0) = p0_0 at *
  dsimp only at rb0
  have r_p0_0 := rb0
  clear rb0
  have n_p0_0 := nb0
  clear nb0
  have sz1 := hU.size
  have hB : Below w.heap.size w U1 := hU
  clear hU
  have g0 := held_free r_p0_0 0
  have g1 := held_free r_p0_0 1
  have g2 := held_free r_p0_0 2
  have g3 := held_free r_p0_0 3
  have g4 := held_free r_p0_0 4
  have z0 := held_cell r_p0_0 0 _ rfl
  have z1 := held_cell r_p0_0 1 _ rfl
  have z2 := held_cell r_p0_0 2 _ rfl
  have z3 := held_cell r_p0_0 3 _ rfl
  have z4 := held_cell r_p0_0 4 _ rfl
  obtain ⟨W9, hW9, ya, yO⟩ := st5 r_p0_0 (.int .i64 1) (.int .i64 2) (.int .i64 0) (.int .i64 0) (.int .i64 90)
  have hB9 := hid (belowS hB yO (by omega))
  have ez0 := held_cell ya 0 _ rfl
  have ez1 := held_cell ya 1 _ rfl
  have ez2 := held_cell ya 2 _ rfl
  have ez3 := held_cell ya 3 _ rfl
  have ez4 := held_cell ya 4 _ rfl
  clear ya yO r_p0_0 hB
  go_wp2_with fail
  refine bodyPost_ret (v := .agg #[.int .i64 1, .int .i64 2, .int .i64 0, .int .i64 0, .int .i64 90]) (by simp [results, Tryd.results27, go_sem, ez0, ez1, ez2, ez3, ez4]) rfl ⟨rfl, hB9.out⟩
set_option maxRecDepth 100000 in
set_option maxHeartbeats 2000000 in
theorem p29azimCol_any (w : World) : Calls Tryd.prog 28 #[] w fun r w' => r = .returned (.agg #[.int .i64 1, .int .i64 3, .int .i64 0, .int .i64 0, .int .i64 359]) ∧ After w w' := by
  go_enter Tryd.func28, Tryd.ntmps28
  go_upto_region 0 with (fail)
  apply wp_region_seg0 (w := w) (S := [.al 1000]) (E := [.al ((fun p => .pointer (some ⟨p, 0, none⟩)), _) 1000]) rfl (by kernel_rfl) rfl rfl
  intro th hge hne
  refine Seg.step _ rfl ⟨by rfl, fun U hU => ?_⟩ ?_
  · go_simp; exact vp_alloc rfl rfl rfl
  refine Seg.sa ?_
  refine Seg.stop (fun U1 hU hk => ?_)
  have nb0 := hge 0 _ _ rfl
  have rb0 := (hk 0 _ _ rfl trivial).1.2 (by simp)
  clear hk hge hne
  generalize th (0 + 0) = p0_0 at *
  dsimp only at rb0
  have r_p0_0 := rb0
  clear rb0
  have n_p0_0 := nb0
  clear nb0
  have sz1 := hU.size
  have hB : Below w.heap.size w U1 := hU
  clear hU
  have g0 := held_free r_p0_0 0
  have g1 := held_free r_p0_0 1
  have g2 := held_free r_p0_0 2
  have g3 := held_free r_p0_0 3
  have g4 := held_free r_p0_0 4
  have z0 := held_cell r_p0_0 0 _ rfl
  have z1 := held_cell r_p0_0 1 _ rfl
  have z2 := held_cell r_p0_0 2 _ rfl
  have z3 := held_cell r_p0_0 3 _ rfl
  have z4 := held_cell r_p0_0 4 _ rfl
  obtain ⟨W9, hW9, ya, yO⟩ := st5 r_p0_0 (.int .i64 1) (.int .i64 3) (.int .i64 0) (.int .i64 0) (.int .i64 359)
  have hB9 := hid (belowS hB yO (by omega))
  have ez0 := held_cell ya 0 _ rfl
  have ez1 := held_cell ya 1 _ rfl
  have ez2 := held_cell ya 2 _ rfl
  have ez3 := held_cell ya 3 _ rfl
  have ez4 := held_cell ya 4 _ rfl
  clear ya yO r_p0_0 hB
  go_wp2_with fail
  refine bodyPost_ret (v := .agg #[.int .i64 1, .int .i64 3, .int .i64 0, .int .i64 0, .int .i64 359]) (by simp [results, Tryd.results28, go_sem, ez0, ez1, ez2, ez3, ez4]) rfl ⟨rfl, hB9.out⟩
set_option maxRecDepth 100000 in
set_option maxHeartbeats 2000000 in
theorem p29levelCol_any (w : World) : Calls Tryd.prog 29 #[] w fun r w' => r = .returned (.agg #[.int .i64 1, .int .i64 2, .int .i64 0, .int .i64 0, .int .i64 99]) ∧ After w w' := by
  go_enter Tryd.func29, Tryd.ntmps29
  go_upto_region 0 with (fail)
  apply wp_region_seg0 (w := w) (S := [.al 1000]) (E := [.al ((fun p => .pointer (some ⟨p, 0, none⟩)), _) 1000]) rfl (by kernel_rfl) rfl rfl
  intro th hge hne
  refine Seg.step _ rfl ⟨by rfl, fun U hU => ?_⟩ ?_
  · go_simp; exact vp_alloc rfl rfl rfl
  refine Seg.sa ?_
  refine Seg.stop (fun U1 hU hk => ?_)
  have nb0 := hge 0 _ _ rfl
  have rb0 := (hk 0 _ _ rfl trivial).1.2 (by simp)
  clear hk hge hne
  generalize th (0 + 0) = p0_0 at *
  dsimp only at rb0
  have r_p0_0 := rb0
  clear rb0
  have n_p0_0 := nb0
  clear nb0
  have sz1 := hU.size
  have hB : Below w.heap.size w U1 := hU
  clear hU
  have g0 := held_free r_p0_0 0
  have g1 := held_free r_p0_0 1
  have g2 := held_free r_p0_0 2
  have g3 := held_free r_p0_0 3
  have g4 := held_free r_p0_0 4
  have z0 := held_cell r_p0_0 0 _ rfl
  have z1 := held_cell r_p0_0 1 _ rfl
  have z2 := held_cell r_p0_0 2 _ rfl
  have z3 := held_cell r_p0_0 3 _ rfl
  have z4 := held_cell r_p0_0 4 _ rfl
  obtain ⟨W9, hW9, ya, yO⟩ := st5 r_p0_0 (.int .i64 1) (.int .i64 2) (.int .i64 0) (.int .i64 0) (.int .i64 99)
  have hB9 := hid (belowS hB yO (by omega))
  have ez0 := held_cell ya 0 _ rfl
  have ez1 := held_cell ya 1 _ rfl
  have ez2 := held_cell ya 2 _ rfl
  have ez3 := held_cell ya 3 _ rfl
  have ez4 := held_cell ya 4 _ rfl
  clear ya yO r_p0_0 hB
  go_wp2_with fail
  refine bodyPost_ret (v := .agg #[.int .i64 1, .int .i64 2, .int .i64 0, .int .i64 0, .int .i64 99]) (by simp [results, Tryd.results29, go_sem, ez0, ez1, ez2, ez3, ez4]) rfl ⟨rfl, hB9.out⟩
set_option maxRecDepth 100000 in
set_option maxHeartbeats 4000000 in
theorem pdigit29_any (n hi : Int) (w : World) : Calls Tryd.prog 23 #[.int .i64 n, .int .i64 hi] w fun r w' => r = .returned (.tuple #[.string (nb (dgV n hi).1), .int .i64 (dgV n hi).2]) ∧ After w w' := by
  by_cases c1 : n < 1
  case pos =>
    have b1 : decide (n < 1) = true := by simpa using c1
    have hd := hid (show dgV n hi = ([], 5) by unfold dgV; rw [if_pos (by omega)])
    rw [hd.out]
    clear c1
    go_enter Tryd.func23, Tryd.ntmps23
    go_wp2_with fail
    go_ret2
    exact ⟨by rfl, After.refl _⟩
  have b1 : decide (n < 1) = false := by simpa using c1
  by_cases c2 : hi < n
  case pos =>
    have b2 : decide (hi < n) = true := by simpa using c2
    have hd := hid (show dgV n hi = ([], 5) by unfold dgV; rw [if_pos (by omega)])
    rw [hd.out]
    clear c1
    go_enter Tryd.func23, Tryd.ntmps23
    go_wp2_with fail
    go_ret2
    exact ⟨by rfl, After.refl _⟩
  have b2 : decide (hi < n) = false := by simpa using c2
  obtain ⟨c, hc⟩ : ∃ c : Nat, ((48 + n) % 256).toNat = c := ⟨_, rfl⟩
  have hcb : c ≤ 255 := by omega
  have hd := hid (show dgV n hi = ([c], 0) by unfold dgV; rw [if_neg (by omega), hc])
  have e2 : IntKind.u8.wrap (IntKind.i64.wrap (48 + n)) = (c : Int) := by simp [IntKind.wrap, IntKind.bits, IntKind.signed]; omega
  obtain ⟨x, hx⟩ : ∃ x, (c : Int) = x := ⟨_, rfl⟩
  have hds := digit_str c x (by omega) (by omega) w
  rw [hx] at e2
  obtain ⟨y, hy⟩ : ∃ y, IntKind.i64.wrap (48 + n) = y := ⟨_, rfl⟩
  rw [hy] at e2
  have hA := hid (alloc_new w (.cells #[.int .u8 x] 5)).2.1
  rw [hd.out]
  clear c1 c2 hc hx hcb
  go_enter Tryd.func23, Tryd.ntmps23
  go_wp2_with fail
  go_ret2
  exact ⟨by rfl, hA.out⟩
set_option maxRecDepth 100000 in
set_option maxHeartbeats 4000000 in
theorem takedigit29_any (s : ByteArray) (hi : Int) (w : World) : Calls Tryd.prog 36 #[.string s, .int .i64 hi] w fun r w' => r = .returned (.tuple #[.int .i64 (fxV s hi).1, .int .i64 (fxV s hi).2]) ∧ w' = w := by
  by_cases c1 : s.size = 1
  case neg =>
    have b1 : ((s.size : Int) != 1) = true := by simp; omega
    have hd := hid (show fxV s hi = (0, 3) by (unfold fxV; rw [show dgS s 1 hi = (0, 3) from by unfold dgS; rw [if_neg (by omega)]]; rfl))
    clear c1
    go_enter Tryd.func36, Tryd.ntmps36
    go_wp2_with fail
    go_ret2
    exact ⟨by rw [hd.out]; rfl, rfl⟩
  obtain ⟨c, hc⟩ : ∃ c, (sb s).getD 0 0 = c := ⟨_, rfl⟩
  have hix := fun W => tidx (P := Tryd.prog) 9 Tryd.underlying9 s 0 c (by omega) hc .i64 0 rfl W
  have hcb : c ≤ 255 := by rw [← hc, List.getD_eq_getElem?_getD, List.getElem?_eq_getElem (show 0 < (sb s).length by rw [sb_len]; omega)]; have := sb_lt s _ (List.getElem_mem (show 0 < (sb s).length by rw [sb_len]; omega)); simp only [Option.getD_some]; omega
  have b1 : ((s.size : Int) != 1) = false := by simp; omega
  by_cases c2 : c < 48
  case pos =>
    have b3 : decide ((c : Int) < 48) = true := by simp; omega
    have hd := hid (show fxV s hi = (0, 3) by (unfold fxV; rw [show dgS s 1 hi = (0, 3) from by unfold dgS; rw [if_neg (by omega)]]; rfl))
    clear c1
    go_enter Tryd.func36, Tryd.ntmps36
    go_wp2_with fail
    go_ret2
    exact ⟨by rw [hd.out]; rfl, rfl⟩
  have b3 : decide ((c : Int) < 48) = false := by simp; omega
  by_cases c3 : 57 < c
  case pos =>
    have b4 : decide ((57 : Int) < (c : Int)) = true := by simp; omega
    have hd := hid (show fxV s hi = (0, 3) by (unfold fxV; rw [show dgS s 1 hi = (0, 3) from by unfold dgS; rw [if_neg (by omega)]]; rfl))
    clear c1
    go_enter Tryd.func36, Tryd.ntmps36
    go_wp2_with fail
    go_ret2
    exact ⟨by rw [hd.out]; rfl, rfl⟩
  have b4 : decide ((57 : Int) < (c : Int)) = false := by simp; omega
  have e1 : ((c : Int) - 48) % 256 = (c : Int) - 48 := by omega
  have e2 : IntKind.i64.wrap ((c : Int) - 48) = (c : Int) - 48 := by simp [IntKind.wrap, IntKind.bits, IntKind.signed]; omega
  by_cases c5 : (c : Int) - 48 < 1
  case pos =>
    have r1 : decide ((c : Int) - 48 < 1) = true := by simpa using c5
    have hd := hid (show fxV s hi = (0, 5) by (unfold fxV; rw [show dgS s 1 hi = ((c : Int) - 48, 5) from by unfold dgS; rw [if_pos (by omega), hc, if_pos (by omega)]]; rfl))
    clear c1
    go_enter Tryd.func36, Tryd.ntmps36
    go_wp2_with fail
    go_ret2
    exact ⟨by rw [hd.out]; rfl, rfl⟩
  have r1 : decide ((c : Int) - 48 < 1) = false := by simpa using c5
  by_cases c6 : hi < (c : Int) - 48
  case pos =>
    have r2 : decide (hi < (c : Int) - 48) = true := by simpa using c6
    have hd := hid (show fxV s hi = (0, 5) by (unfold fxV; rw [show dgS s 1 hi = ((c : Int) - 48, 5) from by unfold dgS; rw [if_pos (by omega), hc, if_pos (by omega)]]; rfl))
    clear c1
    go_enter Tryd.func36, Tryd.ntmps36
    go_wp2_with fail
    go_ret2
    exact ⟨by rw [hd.out]; rfl, rfl⟩
  have r2 : decide (hi < (c : Int) - 48) = false := by simpa using c6
  have hd := hid (show fxV s hi = ((c : Int) - 48, 0) by (unfold fxV; rw [show dgS s 1 hi = ((c : Int) - 48, 0) from by unfold dgS; rw [if_pos (by omega), hc, if_neg (by omega)]]; rfl))
  clear c1
  go_enter Tryd.func36, Tryd.ntmps36
  go_wp2_with fail
  go_ret2
  exact ⟨by rw [hd.out]; rfl, rfl⟩

end Go.Proofs.YtobgibmpodggkaaDoor

/- Package gsv: what is put; Put. -/
namespace Go.Proofs.YtobgibmpodggkaaDoor
open Go.ChangeShapes Go.WideShapes Go.ChangeAt Go.RowKit
set_option linter.unusedVariables false
set_option linter.unusedSimpArgs false

abbrev V4 := (Bool × Int) × (Bool × Int) × (Bool × Int) × (Bool × Int)
/-- A view's cells. -/
def enV (v : V4) : List Value := [.bool v.1.1, .int .i64 v.1.2, .bool v.2.1.1, .int .i64 v.2.1.2, .bool v.2.2.1.1, .int .i64 v.2.2.1.2, .bool v.2.2.2.1, .int .i64 v.2.2.2.2]
def okV (v : V4) : Prop := (-9223372036854775808 ≤ v.1.2 ∧ v.1.2 ≤ 9223372036854775807) ∧ (-9223372036854775808 ≤ v.2.1.2 ∧ v.2.1.2 ≤ 9223372036854775807) ∧ (-9223372036854775808 ≤ v.2.2.1.2 ∧ v.2.2.1.2 ≤ 9223372036854775807) ∧ (-9223372036854775808 ≤ v.2.2.2.2 ∧ v.2.2.2.2 ≤ 9223372036854775807)
def nuT (x : Bool × Int) (W M F lo hi : Int) : List ByteArray × Int := ([nb (putD x.1 x.2 W M F lo hi).1], (putD x.1 x.2 W M F lo hi).2)
/-- A view's fields. -/
def vwI (v : V4) : List (List ByteArray × Int) := [nuT v.1 1 3 0 1 255, nuT v.2.1 1 2 0 0 90, nuT v.2.2.1 1 3 0 0 359, nuT v.2.2.2 1 2 0 0 99]
def gE9 (e : Int) (l : List (List ByteArray × Int)) : Int := l.foldl (fun e x => kp e x.2) e
theorem gE9_app (e : Int) (a b : List (List ByteArray × Int)) : gE9 e (a ++ b) = gE9 (gE9 e a) b := by simp [gE9]
theorem fL9_app (a b : List (List ByteArray × Int)) : fL (a ++ b) = fL a ++ fL b := by simp [fL]
def hdI (tt no sn : Int) : List (List ByteArray × Int) := [([nb (dgV tt 9).1], (dgV tt 9).2), ([nb (dgV no tt).1], (dgV no tt).2), nuT (true, sn) 1 2 0 0 99]
/-- What a message's fields are. -/
def gvI (tt no sn : Int) (vs : List V4) : List (List ByteArray × Int) := hdI tt no sn ++ vs.flatMap vwI
def gvE (tt no sn : Int) (vs : List V4) : Int := if 4 < vs.length then 7 else gE9 0 (gvI tt no sn vs)
theorem vw_len (vs : List V4) : (fL (vs.flatMap vwI)).length = 4 * vs.length := by
  induction vs with
  | nil => rfl
  | cons v vs ih => rw [List.flatMap_cons, fL9_app, List.length_append, ih, List.length_cons]; show 4 + 4 * vs.length = _; omega
theorem vw_next (e : Int) (L : List ByteArray) (vs : List V4) (k : Nat) (v : V4) (h : vs[k]? = some v) : gE9 e ((vs.take (k + 1)).flatMap vwI) = gE9 (gE9 e ((vs.take k).flatMap vwI)) (vwI v) ∧ L ++ fL ((vs.take (k + 1)).flatMap vwI) = (L ++ fL ((vs.take k).flatMap vwI)) ++ fL (vwI v) := by
  rw [List.take_add_one, h]
  show gE9 e ((vs.take k ++ [v]).flatMap vwI) = _ ∧ L ++ fL ((vs.take k ++ [v]).flatMap vwI) = _
  rw [List.flatMap_append, gE9_app, fL9_app, List.append_assoc]
  simp
theorem Els.at8 {w : World} {a : Option Addr} {len cap i : Nat} {xs : List (List Value)} {v0 v1 v2 v3 v4 v5 v6 v7 : Value} (h : Els w 8 a len cap xs) (hx : xs[i]? = some [v0, v1, v2, v3, v4, v5, v6, v7]) : ∃ b off, a = some ⟨b, off, none⟩ ∧ w.cell? ⟨b, off + i * 8, none⟩ = some v0 ∧ w.cell? ⟨b, off + i * 8 + 1, none⟩ = some v1 ∧ w.cell? ⟨b, off + i * 8 + 2, none⟩ = some v2 ∧ w.cell? ⟨b, off + i * 8 + 3, none⟩ = some v3 ∧ w.cell? ⟨b, off + i * 8 + 4, none⟩ = some v4 ∧ w.cell? ⟨b, off + i * 8 + 5, none⟩ = some v5 ∧ w.cell? ⟨b, off + i * 8 + 6, none⟩ = some v6 ∧ w.cell? ⟨b, off + i * 8 + 7, none⟩ = some v7 := by
  obtain ⟨-, b, off, e, hc⟩ := h.2.2.2.2 i _ hx
  exact ⟨b, off, e, hc 0 _ rfl, hc 1 _ rfl, hc 2 _ rfl, hc 3 _ rfl, hc 4 _ rfl, hc 5 _ rfl, hc 6 _ rfl, hc 7 _ rfl⟩
/-- A row that is written, the message beside it. -/
structure PGv (W0 : World) (B mb : Nat) (M : Array Value) (e : Int) (L : List ByteArray) (W : World) : Prop where
  pen : PenIn W W0.heap.size B e L
  m : W.heap[mb]? = some (.cells M 24 (0, 0))
  tab : Tab W
  bel : After W0 W
  nm : mb ≠ B
  hb : W0.heap.size ≤ B
theorem PGv.below {W0 : World} {B mb : Nat} {M : Array Value} {e : Int} {L : List ByteArray} {W W' : World} (h : PGv W0 B mb M e L W) (hA : After W W') : PGv W0 B mb M e L W' :=
  ⟨h.pen.aft hA, held_after hA h.m, h.tab.on hA, bthen h.bel hA, h.nm, h.hb⟩
theorem PGv.eff {W0 : World} {B mb : Nat} {M : Array Value} {e e' : Int} {L L' : List ByteArray} {W W' : World} (h : PGv W0 B mb M e L W) (hT0 : Tab W0) (hP : PenIn W' W0.heap.size B e' L') (hK : PEff W0.heap.size B 2 W W') : PGv W0 B mb M e' L' W' :=
  have hA : After W0 W' := (show Below W0.heap.size W0 W from h.bel).trans hK.below
  ⟨hP, h.pen.besides hK h.m h.nm (by decide), hT0.on hA, hA, h.nm, h.hb⟩
theorem dn_long9 (w w' : World) (L : List ByteArray) (h : After w w') : DnOk w 7 L (.returned (.tuple #[.slice none 0 0, .int .i64 7])) w' := ⟨none, 0, rfl, Els.nil _ _, (fun x hx => by cases hx), h⟩
/-- A block that stays. -/
structure HasV (p B : Nat) (c : Array Value) (W : World) : Prop where
  it : W.heap[p]? = some (.cells c 69 (0, 0))
  ne : p ≠ B
theorem HasV.below {p B : Nat} {c : Array Value} {W W' : World} (h : HasV p B c W) (hA : After W W') : HasV p B c W' := ⟨held_after hA h.it, h.ne⟩
theorem PGv.has {W0 : World} {B mb p : Nat} {M c : Array Value} {e : Int} {L : List ByteArray} {W W' : World} (h : PGv W0 B mb M e L W) (hK : PEff W0.heap.size B 2 W W') (hv : HasV p B c W) : HasV p B c W' := ⟨h.pen.besides hK hv.it hv.ne (by decide), hv.ne⟩
set_option maxRecDepth 100000 in
set_option maxHeartbeats 16000000 in
theorem gvput_any (tt no sn : Int) (va : Option Addr) (vn vc : Nat) (vs : List V4) (w : World) (bs : (-9223372036854775808 ≤ sn ∧ sn ≤ 9223372036854775807)) (hv : ∀ v ∈ vs, okV v) (hS : Els w 8 va vn vc (vs.map enV)) (hT : Tab w) : Calls Tryd.prog 9 #[.agg #[.int .i64 tt, .int .i64 no, .int .i64 sn, .slice va vn vc]] w fun r w' => DnOk w (gvE tt no sn vs) (fL (gvI tt no sn vs)) r w' := by
  have hlv : vs.length = vn := by have := hS.1; rw [List.length_map] at this; exact this
  replace hT := hid hT
  replace hv := hid hv
  replace bs := hid bs
  have hmx := hS.2.2.1
  have hmm : maxLen ≤ 9223372036854775807 := by decide
  have hvc := hS.2.1
  by_cases hlong : 4 < vn
  case pos =>
    have hE : gvE tt no sn vs = 7 := by unfold gvE; rw [if_pos (by omega)]
    have b1 : decide ((4 : Int) < (vn : Int)) = true := by simp; omega
    rw [hE]
    clear hE hlv hlong
    replace hS := hid hS
    go_enter Tryd.func9, Tryd.ntmps9
    go_upto_region 0 with (fail)
    apply wp_region_seg0 (w := w) (S := [.al 1000, .q [], .q []]) (E := [.al ((fun p => .pointer (some ⟨p, 0, none⟩)), _) 1000, .q0 _, .q0 _]) rfl (by kernel_rfl) rfl rfl
    intro th hge hne
    refine Seg.step _ rfl ⟨by rfl, fun U hU => ?_⟩ ?_
    · go_simp; exact vp_alloc rfl rfl rfl
    refine Seg.sa ?_
    refine Seg.sq ?_
    refine Seg.sq ?_
    refine Seg.stop (fun U1 hU hk => ?_)
    have nb0 := hge 0 _ _ rfl
    have rb0 := (hk 0 _ _ rfl trivial).1.2 (by simp)
    clear hk hge hne
    generalize th (0 + 0) = p0_0 at *
    dsimp only at rb0
    have r_p0_0 := rb0
    clear rb0
    have n_p0_0 := nb0
    clear nb0
    have sz1 := hU.size
    have hB : Below w.heap.size w U1 := hU
    clear hU
    have c2 := held_cell r_p0_0 3 _ rfl
    clear r_p0_0
    go_wp2_with fail
    go_ret2
    exact dn_long9 _ _ _ hB
  have hEq : gvE tt no sn vs = gE9 (gE9 0 (hdI tt no sn)) (vs.flatMap vwI) := by unfold gvE gvI; rw [if_neg (by omega), gE9_app]
  have hLq : fL (gvI tt no sn vs) = fL (hdI tt no sn) ++ fL (vs.flatMap vwI) := by unfold gvI; rw [fL9_app]
  have b1 : decide ((4 : Int) < (vn : Int)) = false := by simp; omega
  rw [hEq, hLq]
  clear hEq hLq
  replace hlv := hid hlv
  go_enter Tryd.func9, Tryd.ntmps9
  go_upto_region 0 with (fail)
  apply wp_region_seg0 (w := w) (S := [.al 1000, .q [], .q []]) (E := [.al ((fun p => .pointer (some ⟨p, 0, none⟩)), _) 1000, .q0 _, .q0 _]) rfl (by kernel_rfl) rfl rfl
  intro th hge hne
  refine Seg.step _ rfl ⟨by rfl, fun U hU => ?_⟩ ?_
  · go_simp; exact vp_alloc rfl rfl rfl
  refine Seg.sa ?_
  refine Seg.sq ?_
  refine Seg.sq ?_
  refine Seg.stop (fun U1 hU hk => ?_)
  have nb0 := hge 0 _ _ rfl
  have rb0 := (hk 0 _ _ rfl trivial).1.2 (by simp)
  clear hk hge hne
  generalize th (0 + 0) = p0_0 at *
  dsimp only at rb0
  have r_p0_0 := rb0
  clear rb0
  have n_p0_0 := nb0
  clear nb0
  have sz1 := hU.size
  have hB : Below w.heap.size w U1 := hU
  clear hU
  replace hT := hid (hT.out.on hB)
  have hlg := held_lt r_p0_0
  have hS2 := hid (hS.below hB)
  clear hS
  have c3 := held_cell r_p0_0 3 _ rfl
  have hBU := hid hB
  clear hB
  go_wp2_with fail
  refine (prow_any U1.heap.size _ (Nat.le_refl _)).mono ?_
  rintro r V ⟨B, rfl, hP, hA, hlB⟩
  replace r_p0_0 := held_after hA r_p0_0
  have h : PGv U1 B p0_0 #[.int .i64 tt, .int .i64 no, .int .i64 sn, .slice va vn vc] 0 [] V := ⟨hP, r_p0_0, hT.out.on hA, hA, by omega, hlB⟩
  have hSU := hid hS2.out
  clear hP r_p0_0 hA hlg hlB hS2 c3
  have c0 := held_cell h.m 0 _ rfl
  go_wp2_with fail
  refine (pdigit29_any tt 9 _).mono ?_
  rintro r V1 ⟨rfl, hA⟩
  replace h := h.below hA
  clear hA c0
  go_wp2_with fail
  refine (ptext_any U1.heap.size B 0 (dgV tt 9).2 [] (nb (dgV tt 9).1) _ h.pen (by simp) h.hb).mono ?_
  rintro r V2 ⟨rfl, hP2, hf2⟩
  replace h := h.eff hT.out hP2 hf2
  clear hP2 hf2
  obtain ⟨e1, he1⟩ : ∃ e, kp 0 (dgV tt 9).2 = e := ⟨_, rfl⟩
  obtain ⟨L1, hL1⟩ : ∃ L, ([] ++ [nb (dgV tt 9).1] : List ByteArray) = L := ⟨_, rfl⟩
  rw [he1, hL1] at h
  have hl1 : L1.length = 1 := by rw [← hL1]; rfl
  replace he1 := hid he1
  replace hL1 := hid hL1
  have c0 := held_cell h.m 0 _ rfl
  have c1 := held_cell h.m 1 _ rfl
  go_wp2_with fail
  refine (pdigit29_any no tt _).mono ?_
  rintro r V3 ⟨rfl, hA⟩
  replace h := h.below hA
  clear hA c0 c1
  go_wp2_with fail
  refine (ptext_any U1.heap.size B e1 (dgV no tt).2 L1 (nb (dgV no tt).1) _ h.pen (by omega) h.hb).mono ?_
  rintro r V4 ⟨rfl, hP2, hf2⟩
  replace h := h.eff hT.out hP2 hf2
  clear hP2 hf2
  obtain ⟨e2, he2⟩ : ∃ e, kp e1 (dgV no tt).2 = e := ⟨_, rfl⟩
  obtain ⟨L2, hL2⟩ : ∃ L, L1 ++ [nb (dgV no tt).1] = L := ⟨_, rfl⟩
  rw [he2, hL2] at h
  have hl2 : L2.length = 2 := by rw [← hL2, List.length_append, hl1]; rfl
  replace he2 := hid he2
  replace hL2 := hid hL2
  have hm := h.m
  go_upto_region 6 with (fail)
  apply wp_region_part (w := V4) (S := [.q [], .q [], .q [], .q [], .q []]) (E := [.q0 _, .q0 _, .q0 _, .q0 _, .c0 _]) 5 1 (by kernel_rfl) rfl (by kernel_rfl) rfl rfl rfl
  intro th hge hne
  refine Seg.sq ?_
  refine Seg.sq ?_
  refine Seg.sq ?_ (ht := Or.inl ⟨by rfl, fun U hU => vp_quiet (by (have h0 := held_cell (held_after hU.1 hm) 2 _ rfl; go_simp <;> exact rfl))⟩)
  refine Seg.sq ?_
  refine Seg.step _ rfl (Or.inl ⟨by rfl, fun U hU => ?_⟩) ?_
  · go_simp
    refine vp_call (p29seenCol_any _)
  refine Seg.sa ?_
  refine Seg.stop (fun U11 hU hk => ?_)
  clear hk hge hne
  replace hm := held_after hU hm
  replace h := h.below hU
  have sz11 := hU.size
  have hB : Below V4.heap.size V4 U11 := hU
  clear hm hU hB
  have kt := hid (fun U hh ht => pnum_any U1.heap.size B e2 L2 true sn 1 2 0 0 99 U hh (by omega) h.hb bs.out (by decide) ht)
  refine Seg.only (m := 5) (k := 0) rfl (by kernel_rfl) (by rfl) (fun K hK => ?_)
  go_simp
  refine (kt.out _ h.pen h.tab).mono ?_
  rintro r V5 ⟨rfl, hP2, hf2⟩
  replace h := h.eff hT.out hP2 hf2
  clear hP2 hf2
  refine hK _ _ (Seg.finish ?_ _)
  clear hK kt
  obtain ⟨E3, he3⟩ : ∃ e, kp e2 (putD true sn 1 2 0 0 99).2 = e := ⟨_, rfl⟩
  obtain ⟨L3, hL3⟩ : ∃ L, L2 ++ [nb (putD true sn 1 2 0 0 99).1] = L := ⟨_, rfl⟩
  rw [he3, hL3] at h
  have hl3 : L3.length = 3 := by rw [← hL3, List.length_append, hl2]; rfl
  have hq1 : gE9 0 (hdI tt no sn) = E3 := by rw [← he3, ← he2.out, ← he1.out]; rfl
  have hq2 : fL (hdI tt no sn) = L3 := by rw [← hL3, ← hL2.out, ← hL1.out]; rfl
  replace hq1 := hid hq1
  replace hq2 := hid hq2
  clear he3 hL3 he1 he2 hL1 hL2
  have c3 := held_cell h.m 3 _ rfl
  go_wp2_with fail
  go_loopw [37] (fun ix wr => ∃ k : Nat, ix = .int .i64 k ∧ k ≤ vn ∧ PGv U1 B p0_0 #[.int .i64 tt, .int .i64 no, .int .i64 sn, .slice va vn vc] (gE9 E3 ((vs.take k).flatMap vwI)) (L3 ++ fL ((vs.take k).flatMap vwI)) wr) (fun ix _ => vn - (intOf ix).toNat)
  case atStart => exact ⟨0, rfl, by omega, by simpa [gE9, fL] using h⟩
  case round =>
    clear h c3
    obtain ⟨k, rfl, hk, h⟩ := hrel
    by_cases hlt : (k : Int) < vn
    case neg =>
      obtain rfl : k = vn := by omega
      have e9 : vs.take k = vs := List.take_of_length_le (by have := hlv.out; omega)
      rw [e9] at h
      have hlL : (L3 ++ fL (vs.flatMap vwI)).length ≤ 1000 := by rw [List.length_append, vw_len, hl3]; have := hlv.out; omega
      obtain ⟨EP, hEP⟩ : ∃ X, gE9 E3 (vs.flatMap vwI) = X := ⟨_, rfl⟩
      obtain ⟨LP, hLP⟩ : ∃ X, L3 ++ fL (vs.flatMap vwI) = X := ⟨_, rfl⟩
      rw [hEP, hLP] at h
      rw [hLP] at hlL
      replace hEP := hid hEP
      replace hLP := hid hLP
      clear e9
      go_wp2_with fail
      refine (pdone_any U1.heap.size B EP LP _ h.pen hlL).mono ?_
      rintro r V9 ⟨a9, c9, rfl, g1, g2, g3⟩
      have hD9 : DnOk w EP LP (.returned (.tuple #[.slice a9 (if EP = 0 then LP else []).length c9, .int .i64 EP])) V9 := ⟨a9, c9, rfl, g1, g2, bthen hBU.out (bthen h.bel g3)⟩
      obtain ⟨n9, hn9⟩ : ∃ n, (if EP = 0 then LP else []).length = n := ⟨_, rfl⟩
      rw [hn9] at hD9 ⊢
      clear hn9 g1 g2 g3 h
      replace hD9 := hid hD9
      go_wp2_with fail
      go_ret2
      rw [hq1.out, hq2.out, hEP.out, hLP.out]
      exact hD9.out
    obtain ⟨v, hvk⟩ : ∃ v, vs[k]? = some v := ⟨_, List.getElem?_eq_getElem (by have := hlv.out; omega)⟩
    have hok := hv.out v (List.mem_of_getElem? hvk)
    have hnx := vw_next E3 L3 vs k v hvk
    have hxk : (vs.map enV)[k]? = some (enV v) := by rw [List.getElem?_map, hvk]; rfl
    have hle : (L3 ++ fL ((vs.take k).flatMap vwI)).length ≤ 15 := by rw [List.length_append, vw_len, hl3, List.length_take]; omega
    obtain ⟨Ek, hEk⟩ : ∃ e, gE9 E3 ((vs.take k).flatMap vwI) = e := ⟨_, rfl⟩
    obtain ⟨Lk, hLk⟩ : ∃ l, L3 ++ fL ((vs.take k).flatMap vwI) = l := ⟨_, rfl⟩
    rw [hEk, hLk] at h hnx
    rw [hLk] at hle
    clear hEk hLk
    obtain ⟨⟨i0, m0⟩, ⟨i1, m1⟩, ⟨i2, m2⟩, i3, m3⟩ := v
    obtain ⟨o0, o1, o2, o3⟩ := hok
    dsimp only at o0 o1 o2 o3
    obtain ⟨b, off, rfl, d0, d1, d2, d3, d4, d5, d6, d7⟩ := (hSU.out.below h.bel).at8 hxk
    have kz : (0 : Int) ≤ k := by omega
    have wk : IntKind.i64.wrap ((k : Int) + 1) = (k : Int) + 1 := by rw [IntKind.wrap_i64]; omega
    have hk1 := hid (show k + 1 ≤ vn by omega)
    have hms := hid (show vn - (k + 1) < vn - k by omega)
    replace o0 := hid o0
    replace o1 := hid o1
    replace o2 := hid o2
    replace o3 := hid o3
    replace hnx := hid hnx
    clear hvk hxk hk
    have nw := alloc_new wr (.cells #[.bool i0, .int .i64 m0, .bool i1, .int .i64 m1, .bool i2, .int .i64 m2, .bool i3, .int .i64 m3] 69)
    go_upto_region 10 with (fail)
    obtain ⟨S1, hS1⟩ : ∃ X, wr.alloc (.cells #[.bool i0, .int .i64 m0, .bool i1, .int .i64 m1, .bool i2, .int .i64 m2, .bool i3, .int .i64 m3] 69) = X := ⟨_, rfl⟩
    rw [hS1] at nw ⊢
    obtain ⟨pv, hpv⟩ : ∃ X, wr.heap.size = X := ⟨_, rfl⟩
    rw [hpv] at nw ⊢
    replace hS1 := hid hS1
    have g : HasV pv B #[.bool i0, .int .i64 m0, .bool i1, .int .i64 m1, .bool i2, .int .i64 m2, .bool i3, .int .i64 m3] S1 := ⟨nw.2.2, by have := h.pen.lt; omega⟩
    replace h := h.below nw.2.1
    replace hpv := hid hpv
    clear nw d0 d1 d2 d3 d4 d5 d6 d7
    have hm := g.it
    go_upto_region 10 with (fail)
    apply wp_region_part (w := S1) (S := [.q [], .q [], .q [], .q []]) (E := [.q0 _, .q0 _, .q0 _, .c0 _]) 4 1 (by kernel_rfl) rfl (by kernel_rfl) rfl rfl rfl
    intro th hge hne
    refine Seg.sq ?_
    refine Seg.sq ?_
    refine Seg.sq ?_ (ht := Or.inl ⟨by rfl, fun U hU => vp_quiet (by (have h0 := held_cell (held_after hU.1 hm) 0 _ rfl; have h1 := held_cell (held_after hU.1 hm) 1 _ rfl; go_simp <;> exact rfl))⟩)
    refine Seg.step _ rfl (Or.inl ⟨by rfl, fun U hU => ?_⟩) ?_
    · go_simp
      refine vp_call (p29idCol_any _)
    refine Seg.sa ?_
    refine Seg.stop (fun U21 hU hk => ?_)
    clear hk hge hne
    replace hm := held_after hU hm
    replace h := h.below hU
    replace g := g.below hU
    have sz21 := hU.size
    have hB : Below S1.heap.size S1 U21 := hU
    clear hm hU hB
    have kt := hid (fun U hh ht => pnum_any U1.heap.size B Ek Lk i0 m0 1 3 0 1 255 U hh (by omega) h.hb o0.out (by decide) ht)
    refine Seg.only (m := 4) (k := 0) rfl (by kernel_rfl) (by rfl) (fun K hK => ?_)
    go_simp
    refine (kt.out _ h.pen h.tab).mono ?_
    rintro r X0 ⟨rfl, hP2, hf2⟩
    replace g := h.has hf2 g
    replace h := h.eff hT.out hP2 hf2
    clear hP2 hf2
    refine hK _ _ (Seg.finish ?_ _)
    clear hK kt
    obtain ⟨F0, hF0⟩ : ∃ e, kp Ek (putD i0 m0 1 3 0 1 255).2 = e := ⟨_, rfl⟩
    obtain ⟨K0, hK0⟩ : ∃ l, Lk ++ [nb (putD i0 m0 1 3 0 1 255).1] = l := ⟨_, rfl⟩
    rw [hF0, hK0] at h
    have hl5 : K0.length ≤ 16 := by rw [← hK0, List.length_append, List.length_singleton]; omega
    replace hF0 := hid hF0
    replace hK0 := hid hK0
    have hm := g.it
    go_upto_region 11 with (fail)
    apply wp_region_part (w := X0) (S := [.q [], .q [], .q [], .q []]) (E := [.q0 _, .q0 _, .q0 _, .c0 _]) 4 1 (by kernel_rfl) rfl (by kernel_rfl) rfl rfl rfl
    intro th hge hne
    refine Seg.sq ?_
    refine Seg.sq ?_
    refine Seg.sq ?_ (ht := Or.inl ⟨by rfl, fun U hU => vp_quiet (by (have h0 := held_cell (held_after hU.1 hm) 2 _ rfl; have h1 := held_cell (held_after hU.1 hm) 3 _ rfl; go_simp <;> exact rfl))⟩)
    refine Seg.step _ rfl (Or.inl ⟨by rfl, fun U hU => ?_⟩) ?_
    · go_simp
      refine vp_call (p29elevCol_any _)
    refine Seg.sa ?_
    refine Seg.stop (fun U31 hU hk => ?_)
    clear hk hge hne
    replace hm := held_after hU hm
    replace h := h.below hU
    replace g := g.below hU
    have sz31 := hU.size
    have hB : Below X0.heap.size X0 U31 := hU
    clear hm hU hB
    have kt := hid (fun U hh ht => pnum_any U1.heap.size B F0 K0 i1 m1 1 2 0 0 90 U hh (by omega) h.hb o1.out (by decide) ht)
    refine Seg.only (m := 4) (k := 0) rfl (by kernel_rfl) (by rfl) (fun K hK => ?_)
    go_simp
    refine (kt.out _ h.pen h.tab).mono ?_
    rintro r X1 ⟨rfl, hP2, hf2⟩
    replace g := h.has hf2 g
    replace h := h.eff hT.out hP2 hf2
    clear hP2 hf2
    refine hK _ _ (Seg.finish ?_ _)
    clear hK kt
    obtain ⟨F1, hF1⟩ : ∃ e, kp F0 (putD i1 m1 1 2 0 0 90).2 = e := ⟨_, rfl⟩
    obtain ⟨K1, hK1⟩ : ∃ l, K0 ++ [nb (putD i1 m1 1 2 0 0 90).1] = l := ⟨_, rfl⟩
    rw [hF1, hK1] at h
    have hl6 : K1.length ≤ 17 := by rw [← hK1, List.length_append, List.length_singleton]; omega
    replace hF1 := hid hF1
    replace hK1 := hid hK1
    have hm := g.it
    go_upto_region 12 with (fail)
    apply wp_region_part (w := X1) (S := [.q [], .q [], .q [], .q []]) (E := [.q0 _, .q0 _, .q0 _, .c0 _]) 4 1 (by kernel_rfl) rfl (by kernel_rfl) rfl rfl rfl
    intro th hge hne
    refine Seg.sq ?_
    refine Seg.sq ?_
    refine Seg.sq ?_ (ht := Or.inl ⟨by rfl, fun U hU => vp_quiet (by (have h0 := held_cell (held_after hU.1 hm) 4 _ rfl; have h1 := held_cell (held_after hU.1 hm) 5 _ rfl; go_simp <;> exact rfl))⟩)
    refine Seg.step _ rfl (Or.inl ⟨by rfl, fun U hU => ?_⟩) ?_
    · go_simp
      refine vp_call (p29azimCol_any _)
    refine Seg.sa ?_
    refine Seg.stop (fun U41 hU hk => ?_)
    clear hk hge hne
    replace hm := held_after hU hm
    replace h := h.below hU
    replace g := g.below hU
    have sz41 := hU.size
    have hB : Below X1.heap.size X1 U41 := hU
    clear hm hU hB
    have kt := hid (fun U hh ht => pnum_any U1.heap.size B F1 K1 i2 m2 1 3 0 0 359 U hh (by omega) h.hb o2.out (by decide) ht)
    refine Seg.only (m := 4) (k := 0) rfl (by kernel_rfl) (by rfl) (fun K hK => ?_)
    go_simp
    refine (kt.out _ h.pen h.tab).mono ?_
    rintro r X2 ⟨rfl, hP2, hf2⟩
    replace g := h.has hf2 g
    replace h := h.eff hT.out hP2 hf2
    clear hP2 hf2
    refine hK _ _ (Seg.finish ?_ _)
    clear hK kt
    obtain ⟨F2, hF2⟩ : ∃ e, kp F1 (putD i2 m2 1 3 0 0 359).2 = e := ⟨_, rfl⟩
    obtain ⟨K2, hK2⟩ : ∃ l, K1 ++ [nb (putD i2 m2 1 3 0 0 359).1] = l := ⟨_, rfl⟩
    rw [hF2, hK2] at h
    have hl7 : K2.length ≤ 18 := by rw [← hK2, List.length_append, List.length_singleton]; omega
    replace hF2 := hid hF2
    replace hK2 := hid hK2
    have hm := g.it
    go_upto_region 13 with (fail)
    apply wp_region_part (w := X2) (S := [.q [], .q [], .q [], .q []]) (E := [.q0 _, .q0 _, .q0 _, .c0 _]) 4 1 (by kernel_rfl) rfl (by kernel_rfl) rfl rfl rfl
    intro th hge hne
    refine Seg.sq ?_
    refine Seg.sq ?_
    refine Seg.sq ?_ (ht := Or.inl ⟨by rfl, fun U hU => vp_quiet (by (have h0 := held_cell (held_after hU.1 hm) 6 _ rfl; have h1 := held_cell (held_after hU.1 hm) 7 _ rfl; go_simp <;> exact rfl))⟩)
    refine Seg.step _ rfl (Or.inl ⟨by rfl, fun U hU => ?_⟩) ?_
    · go_simp
      refine vp_call (p29levelCol_any _)
    refine Seg.sa ?_
    refine Seg.stop (fun U51 hU hk => ?_)
    clear hk hge hne
    replace hm := held_after hU hm
    replace h := h.below hU
    replace g := g.below hU
    have sz51 := hU.size
    have hB : Below X2.heap.size X2 U51 := hU
    clear hm hU hB
    have kt := hid (fun U hh ht => pnum_any U1.heap.size B F2 K2 i3 m3 1 2 0 0 99 U hh (by omega) h.hb o3.out (by decide) ht)
    refine Seg.only (m := 4) (k := 0) rfl (by kernel_rfl) (by rfl) (fun K hK => ?_)
    go_simp
    refine (kt.out _ h.pen h.tab).mono ?_
    rintro r X3 ⟨rfl, hP2, hf2⟩
    replace g := h.has hf2 g
    replace h := h.eff hT.out hP2 hf2
    clear hP2 hf2
    refine hK _ _ (Seg.finish ?_ _)
    clear hK kt
    obtain ⟨F3, hF3⟩ : ∃ e, kp F2 (putD i3 m3 1 2 0 0 99).2 = e := ⟨_, rfl⟩
    obtain ⟨K3, hK3⟩ : ∃ l, K2 ++ [nb (putD i3 m3 1 2 0 0 99).1] = l := ⟨_, rfl⟩
    rw [hF3, hK3] at h
    have hl8 : K3.length ≤ 19 := by rw [← hK3, List.length_append, List.length_singleton]; omega
    replace hF3 := hid hF3
    replace hK3 := hid hK3
    have z1 : gE9 Ek (vwI ((i0, m0), (i1, m1), (i2, m2), i3, m3)) = F3 := by rw [← hF3.out, ← hF2.out, ← hF1.out, ← hF0.out]; rfl
    have z2 : Lk ++ fL (vwI ((i0, m0), (i1, m1), (i2, m2), i3, m3)) = K3 := by rw [← hK3.out, ← hK2.out, ← hK1.out, ← hK0.out]; simp only [List.append_assoc]; rfl
    replace hnx := hid (show gE9 E3 ((vs.take (k + 1)).flatMap vwI) = F3 ∧ L3 ++ fL ((vs.take (k + 1)).flatMap vwI) = K3 from ⟨hnx.out.1.trans z1, hnx.out.2.trans z2⟩)
    clear z1 z2 g hF0 hF1 hF2 hF3 hK0 hK1 hK2 hK3
    go_wp2_with fail
    go_roundw
    case rel => exact ⟨k + 1, by simp, hk1.out, by rw [hnx.out.1, hnx.out.2]; exact h⟩
    case measure => simp [intOf]; have := hms.out; omega

end Go.Proofs.YtobgibmpodggkaaDoor
