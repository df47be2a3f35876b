/- Package vtg: the small functions. -/
import Derived.Test.YtcacgejljbofjaaGreatDoorMsg
import Derived.Test.YtcacgejljbofjaaGreatDoorFix
import Derived.Test.YtcacgejljbofjaaGreatDoorFixRef
import Derived.Test.YtcacgejljbofjaaGreatDoorGS
import Derived.Laws.Tables
import Derived.Deep.DeepCutAuto
namespace Go.Proofs.YtcacgejljbofjaaGreatDoor
open Go.ChangeShapes Go.WideShapes Go.ChangeAt Go.RowKit
set_option linter.unusedVariables false
set_option linter.unusedSimpArgs false

/-- A letter behind a number, if that is there. -/
def ulS (i : Bool) (l : ByteArray) : ByteArray := if i = true then l else ⟨#[]⟩
def kmS (n : Int) : Int := overS (1852 * max 0 (min n 999999)) 1000
def agB (ki : Bool) (kn : Int) (hi : Bool) (hn : Int) : Bool := if ki = true ∧ hi = true then decide (kmS kn - 2 ≤ hn ∧ hn ≤ kmS kn + 2) else true
theorem kmS_of {n m N : Int} (hm : max 0 (min n 999999) = m) (hN : 1852 * m = N) : kmS n = overS N 1000 := by unfold kmS; rw [hm, hN]
theorem kmS_bd (n : Int) : 0 ≤ kmS n ∧ kmS n ≤ 2000000 := by
  obtain ⟨m, hm⟩ : ∃ m, max 0 (min n 999999) = m := ⟨_, rfl⟩
  have hb : 0 ≤ m ∧ m ≤ 999999 := by omega
  obtain ⟨N, hN⟩ : ∃ N, 1852 * m = N := ⟨_, rfl⟩
  rw [kmS_of hm hN]
  have hNb : 0 ≤ N ∧ N ≤ 1851998148 := by omega
  have hq : qn N.natAbs 1000 ≤ 1851999 := by
    unfold qn
    split <;> omega
  have e : overS N 1000 = (qn N.natAbs 1000 : Int) := by
    unfold overS
    rw [if_neg (by decide), if_neg (by omega)]
    exact if_pos (by show qn N.natAbs 1000 ≤ _; omega)
  omega
set_option maxRecDepth 100000 in
set_option maxHeartbeats 2000000 in
theorem p28courseCol_any (w : World) : Calls Tryz.prog 35 #[] w fun r w' => r = .returned (.agg #[.int .i64 1, .int .i64 3, .int .i64 2, .int .i64 0, .int .i64 36000]) ∧ After w w' := by
  go_enter Tryz.func35, Tryz.ntmps35
  go_upto_region 0 with (fail)
  apply wp_region_seg0 (w := w) (S := [.al 1000]) (E := [.al ((fun p => .pointer (some ⟨p, 0, none⟩)), _) 1000]) rfl (by kernel_rfl) rfl rfl
  intro th hge hne
  refine Seg.step _ rfl ⟨by rfl, fun U hU => ?_⟩ ?_
  · go_simp; exact vp_alloc rfl rfl rfl
  refine Seg.sa ?_
  refine Seg.stop (fun U1 hU hk => ?_)
  have nb0 := hge 0 _ _ rfl
  have rb0 := (hk 0 _ _ rfl trivial).1.2 (by simp)
  clear hk hge hne
  generalize th (0 + 0) = p0_0 at *
  dsimp only at rb0
  have r_p0_0 := rb0
  clear rb0
  have n_p0_0 := nb0
  clear nb0
  have sz1 := hU.size
  have hB : Below w.heap.size w U1 := hU
  clear hU
  have g0 := held_free r_p0_0 0
  have g1 := held_free r_p0_0 1
  have g2 := held_free r_p0_0 2
  have g3 := held_free r_p0_0 3
  have g4 := held_free r_p0_0 4
  have z0 := held_cell r_p0_0 0 _ rfl
  have z1 := held_cell r_p0_0 1 _ rfl
  have z2 := held_cell r_p0_0 2 _ rfl
  have z3 := held_cell r_p0_0 3 _ rfl
  have z4 := held_cell r_p0_0 4 _ rfl
  obtain ⟨W9, hW9, ya, yO⟩ := st5 r_p0_0 (.int .i64 1) (.int .i64 3) (.int .i64 2) (.int .i64 0) (.int .i64 36000)
  have hB9 := hid (belowS hB yO (by omega))
  have ez0 := held_cell ya 0 _ rfl
  have ez1 := held_cell ya 1 _ rfl
  have ez2 := held_cell ya 2 _ rfl
  have ez3 := held_cell ya 3 _ rfl
  have ez4 := held_cell ya 4 _ rfl
  clear ya yO r_p0_0 hB
  go_wp2_with fail
  refine bodyPost_ret (v := .agg #[.int .i64 1, .int .i64 3, .int .i64 2, .int .i64 0, .int .i64 36000]) (by simp [results, Tryz.results35, go_sem, ez0, ez1, ez2, ez3, ez4]) rfl ⟨rfl, hB9.out⟩
set_option maxRecDepth 100000 in
set_option maxHeartbeats 2000000 in
theorem p28speedCol_any (w : World) : Calls Tryz.prog 36 #[] w fun r w' => r = .returned (.agg #[.int .i64 1, .int .i64 4, .int .i64 2, .int .i64 0, .int .i64 999999]) ∧ After w w' := by
  go_enter Tryz.func36, Tryz.ntmps36
  go_upto_region 0 with (fail)
  apply wp_region_seg0 (w := w) (S := [.al 1000]) (E := [.al ((fun p => .pointer (some ⟨p, 0, none⟩)), _) 1000]) rfl (by kernel_rfl) rfl rfl
  intro th hge hne
  refine Seg.step _ rfl ⟨by rfl, fun U hU => ?_⟩ ?_
  · go_simp; exact vp_alloc rfl rfl rfl
  refine Seg.sa ?_
  refine Seg.stop (fun U1 hU hk => ?_)
  have nb0 := hge 0 _ _ rfl
  have rb0 := (hk 0 _ _ rfl trivial).1.2 (by simp)
  clear hk hge hne
  generalize th (0 + 0) = p0_0 at *
  dsimp only at rb0
  have r_p0_0 := rb0
  clear rb0
  have n_p0_0 := nb0
  clear nb0
  have sz1 := hU.size
  have hB : Below w.heap.size w U1 := hU
  clear hU
  have g0 := held_free r_p0_0 0
  have g1 := held_free r_p0_0 1
  have g2 := held_free r_p0_0 2
  have g3 := held_free r_p0_0 3
  have g4 := held_free r_p0_0 4
  have z0 := held_cell r_p0_0 0 _ rfl
  have z1 := held_cell r_p0_0 1 _ rfl
  have z2 := held_cell r_p0_0 2 _ rfl
  have z3 := held_cell r_p0_0 3 _ rfl
  have z4 := held_cell r_p0_0 4 _ rfl
  obtain ⟨W9, hW9, ya, yO⟩ := st5 r_p0_0 (.int .i64 1) (.int .i64 4) (.int .i64 2) (.int .i64 0) (.int .i64 999999)
  have hB9 := hid (belowS hB yO (by omega))
  have ez0 := held_cell ya 0 _ rfl
  have ez1 := held_cell ya 1 _ rfl
  have ez2 := held_cell ya 2 _ rfl
  have ez3 := held_cell ya 3 _ rfl
  have ez4 := held_cell ya 4 _ rfl
  clear ya yO r_p0_0 hB
  go_wp2_with fail
  refine bodyPost_ret (v := .agg #[.int .i64 1, .int .i64 4, .int .i64 2, .int .i64 0, .int .i64 999999]) (by simp [results, Tryz.results36, go_sem, ez0, ez1, ez2, ez3, ez4]) rfl ⟨rfl, hB9.out⟩
set_option maxRecDepth 100000 in
set_option maxHeartbeats 2000000 in
theorem r28courseCol_any (w : World) : Calls Tryz.prog 22 #[] w fun r w' => r = .returned (.agg #[.int .i64 1, .int .i64 3, .int .i64 2, .int .i64 0, .int .i64 36000]) ∧ After w w' := by
  go_enter Tryz.func22, Tryz.ntmps22
  go_upto_region 0 with (fail)
  apply wp_region_seg0 (w := w) (S := [.al 1000]) (E := [.al ((fun p => .pointer (some ⟨p, 0, none⟩)), _) 1000]) rfl (by kernel_rfl) rfl rfl
  intro th hge hne
  refine Seg.step _ rfl ⟨by rfl, fun U hU => ?_⟩ ?_
  · go_simp; exact vp_alloc rfl rfl rfl
  refine Seg.sa ?_
  refine Seg.stop (fun U1 hU hk => ?_)
  have nb0 := hge 0 _ _ rfl
  have rb0 := (hk 0 _ _ rfl trivial).1.2 (by simp)
  clear hk hge hne
  generalize th (0 + 0) = p0_0 at *
  dsimp only at rb0
  have r_p0_0 := rb0
  clear rb0
  have n_p0_0 := nb0
  clear nb0
  have sz1 := hU.size
  have hB : Below w.heap.size w U1 := hU
  clear hU
  have g0 := held_free r_p0_0 0
  have g1 := held_free r_p0_0 1
  have g2 := held_free r_p0_0 2
  have g3 := held_free r_p0_0 3
  have g4 := held_free r_p0_0 4
  have z0 := held_cell r_p0_0 0 _ rfl
  have z1 := held_cell r_p0_0 1 _ rfl
  have z2 := held_cell r_p0_0 2 _ rfl
  have z3 := held_cell r_p0_0 3 _ rfl
  have z4 := held_cell r_p0_0 4 _ rfl
  obtain ⟨W9, hW9, ya, yO⟩ := st5 r_p0_0 (.int .i64 1) (.int .i64 3) (.int .i64 2) (.int .i64 0) (.int .i64 36000)
  have hB9 := hid (belowS hB yO (by omega))
  have ez0 := held_cell ya 0 _ rfl
  have ez1 := held_cell ya 1 _ rfl
  have ez2 := held_cell ya 2 _ rfl
  have ez3 := held_cell ya 3 _ rfl
  have ez4 := held_cell ya 4 _ rfl
  clear ya yO r_p0_0 hB
  go_wp2_with fail
  refine bodyPost_ret (v := .agg #[.int .i64 1, .int .i64 3, .int .i64 2, .int .i64 0, .int .i64 36000]) (by simp [results, Tryz.results22, go_sem, ez0, ez1, ez2, ez3, ez4]) rfl ⟨rfl, hB9.out⟩
set_option maxRecDepth 100000 in
set_option maxHeartbeats 2000000 in
theorem r28speedCol_any (w : World) : Calls Tryz.prog 24 #[] w fun r w' => r = .returned (.agg #[.int .i64 1, .int .i64 4, .int .i64 2, .int .i64 0, .int .i64 999999]) ∧ After w w' := by
  go_enter Tryz.func24, Tryz.ntmps24
  go_upto_region 0 with (fail)
  apply wp_region_seg0 (w := w) (S := [.al 1000]) (E := [.al ((fun p => .pointer (some ⟨p, 0, none⟩)), _) 1000]) rfl (by kernel_rfl) rfl rfl
  intro th hge hne
  refine Seg.step _ rfl ⟨by rfl, fun U hU => ?_⟩ ?_
  · go_simp; exact vp_alloc rfl rfl rfl
  refine Seg.sa ?_
  refine Seg.stop (fun U1 hU hk => ?_)
  have nb0 := hge 0 _ _ rfl
  have rb0 := (hk 0 _ _ rfl trivial).1.2 (by simp)
  clear hk hge hne
  generalize th (0 + 0) = p0_0 at *
  dsimp only at rb0
  have r_p0_0 := rb0
  clear rb0
  have n_p0_0 := nb0
  clear nb0
  have sz1 := hU.size
  have hB : Below w.heap.size w U1 := hU
  clear hU
  have g0 := held_free r_p0_0 0
  have g1 := held_free r_p0_0 1
  have g2 := held_free r_p0_0 2
  have g3 := held_free r_p0_0 3
  have g4 := held_free r_p0_0 4
  have z0 := held_cell r_p0_0 0 _ rfl
  have z1 := held_cell r_p0_0 1 _ rfl
  have z2 := held_cell r_p0_0 2 _ rfl
  have z3 := held_cell r_p0_0 3 _ rfl
  have z4 := held_cell r_p0_0 4 _ rfl
  obtain ⟨W9, hW9, ya, yO⟩ := st5 r_p0_0 (.int .i64 1) (.int .i64 4) (.int .i64 2) (.int .i64 0) (.int .i64 999999)
  have hB9 := hid (belowS hB yO (by omega))
  have ez0 := held_cell ya 0 _ rfl
  have ez1 := held_cell ya 1 _ rfl
  have ez2 := held_cell ya 2 _ rfl
  have ez3 := held_cell ya 3 _ rfl
  have ez4 := held_cell ya 4 _ rfl
  clear ya yO r_p0_0 hB
  go_wp2_with fail
  refine bodyPost_ret (v := .agg #[.int .i64 1, .int .i64 4, .int .i64 2, .int .i64 0, .int .i64 999999]) (by simp [results, Tryz.results24, go_sem, ez0, ez1, ez2, ez3, ez4]) rfl ⟨rfl, hB9.out⟩
set_option maxRecDepth 100000 in
set_option maxHeartbeats 2000000 in
theorem kmh28_any (n : Int) (w : World) (hn : (-9223372036854775808 ≤ n ∧ n ≤ 9223372036854775807)) : Calls Tryz.prog 10 #[.int .i64 n] w fun r w' => r = .returned (.int .i64 (kmS n)) ∧ After w w' := by
  obtain ⟨m, hm⟩ : ∃ m, max 0 (min n 999999) = m := ⟨_, rfl⟩
  have hb : 0 ≤ m ∧ m ≤ 999999 := by omega
  obtain ⟨N, hN⟩ : ∃ N, 1852 * m = N := ⟨_, rfl⟩
  have hk := hid (kmS_of hm hN)
  have kO := hid (fun U => over_any N 1000 U (by omega) (by omega) (by decide) (by decide))
  go_enter Tryz.func10, Tryz.ntmps10
  go_wp2_with fail
  try rw [hm]
  try rw [hN]
  refine (kO.out _).mono ?_
  rintro r V ⟨rfl, hv⟩
  have hA := hid (bquiet hv)
  clear hv
  go_wp2_with fail
  go_ret
  exact ⟨by rw [hk.out]; rfl, hA.out⟩
set_option maxRecDepth 100000 in
set_option maxHeartbeats 2000000 in
theorem agrees28_any (g0i : Bool) (g0n : Int) (g1i : Bool) (g1n : Int) (g2i : Bool) (g2n : Int) (g3i : Bool) (g3n : Int) (w : World) (hn : (-9223372036854775808 ≤ g2n ∧ g2n ≤ 9223372036854775807)) : Calls Tryz.prog 11 #[.agg #[.bool g0i, .int .i64 g0n, .bool g1i, .int .i64 g1n, .bool g2i, .int .i64 g2n, .bool g3i, .int .i64 g3n]] w fun r w' => r = .returned (.bool (agB g2i g2n g3i g3n)) ∧ After w w' := by
  cases g2i
  case false =>
    rw [show agB false g2n g3i g3n = true from by unfold agB; rw [if_neg (fun h => by cases h.1)]]
    go_enter Tryz.func11, Tryz.ntmps11
    go_upto_region 0 with (fail)
    apply wp_region_seg0 (w := w) (S := [.al 1000, .q []]) (E := [.al ((fun p => .pointer (some ⟨p, 0, none⟩)), _) 1000, .q0 _]) rfl (by kernel_rfl) rfl rfl
    intro th hge hne
    refine Seg.step _ rfl ⟨by rfl, fun U hU => ?_⟩ ?_
    · go_simp; exact vp_alloc rfl rfl rfl
    refine Seg.sa ?_
    refine Seg.sq ?_
    refine Seg.stop (fun U1 hU hk => ?_)
    have nb0 := hge 0 _ _ rfl
    have rb0 := (hk 0 _ _ rfl trivial).1.2 (by simp)
    clear hk hge hne
    generalize th (0 + 0) = p0_0 at *
    dsimp only at rb0
    have r_p0_0 := rb0
    clear rb0
    have n_p0_0 := nb0
    clear nb0
    have sz1 := hU.size
    have hB : Below w.heap.size w U1 := hU
    clear hU
    have c4 := held_cell r_p0_0 4 _ rfl
    have c5 := held_cell r_p0_0 5 _ rfl
    have c6 := held_cell r_p0_0 6 _ rfl
    have c7 := held_cell r_p0_0 7 _ rfl
    replace r_p0_0 := hid r_p0_0
    replace hB := hid hB
    go_wp2_with fail
    go_ret
    exact ⟨by first | rfl | exact ret_bool (by simp <;> omega), hB.out⟩
  cases g3i
  case false =>
    rw [show agB true g2n false g3n = true from by unfold agB; rw [if_neg (fun h => by cases h.2)]]
    go_enter Tryz.func11, Tryz.ntmps11
    go_upto_region 0 with (fail)
    apply wp_region_seg0 (w := w) (S := [.al 1000, .q []]) (E := [.al ((fun p => .pointer (some ⟨p, 0, none⟩)), _) 1000, .q0 _]) rfl (by kernel_rfl) rfl rfl
    intro th hge hne
    refine Seg.step _ rfl ⟨by rfl, fun U hU => ?_⟩ ?_
    · go_simp; exact vp_alloc rfl rfl rfl
    refine Seg.sa ?_
    refine Seg.sq ?_
    refine Seg.stop (fun U1 hU hk => ?_)
    have nb0 := hge 0 _ _ rfl
    have rb0 := (hk 0 _ _ rfl trivial).1.2 (by simp)
    clear hk hge hne
    generalize th (0 + 0) = p0_0 at *
    dsimp only at rb0
    have r_p0_0 := rb0
    clear rb0
    have n_p0_0 := nb0
    clear nb0
    have sz1 := hU.size
    have hB : Below w.heap.size w U1 := hU
    clear hU
    have c4 := held_cell r_p0_0 4 _ rfl
    have c5 := held_cell r_p0_0 5 _ rfl
    have c6 := held_cell r_p0_0 6 _ rfl
    have c7 := held_cell r_p0_0 7 _ rfl
    replace r_p0_0 := hid r_p0_0
    replace hB := hid hB
    go_wp2_with fail
    go_ret
    exact ⟨by first | rfl | exact ret_bool (by simp <;> omega), hB.out⟩
  have kb := kmS_bd g2n
  have kk := hid (fun U => kmh28_any g2n U hn)
  obtain ⟨q, hq⟩ : ∃ q, kmS g2n = q := ⟨_, rfl⟩
  have hA : agB true g2n true g3n = decide (q - 2 ≤ g3n ∧ g3n ≤ q + 2) := by unfold agB; rw [if_pos ⟨rfl, rfl⟩, hq]
  rw [hq] at kk kb
  rw [hA]
  clear hq hA hn
  have w1 : IntKind.i64.wrap (q - 2) = q - 2 := by rw [IntKind.wrap_i64]; omega
  have w2 : IntKind.i64.wrap (q + 2) = q + 2 := by rw [IntKind.wrap_i64]; omega
  by_cases c1 : q - 2 ≤ g3n
  case neg =>
    rw [decide_eq_false (fun h => c1 h.1)]
    go_enter Tryz.func11, Tryz.ntmps11
    go_upto_region 0 with (fail)
    apply wp_region_seg0 (w := w) (S := [.al 1000, .q []]) (E := [.al ((fun p => .pointer (some ⟨p, 0, none⟩)), _) 1000, .q0 _]) rfl (by kernel_rfl) rfl rfl
    intro th hge hne
    refine Seg.step _ rfl ⟨by rfl, fun U hU => ?_⟩ ?_
    · go_simp; exact vp_alloc rfl rfl rfl
    refine Seg.sa ?_
    refine Seg.sq ?_
    refine Seg.stop (fun U1 hU hk => ?_)
    have nb0 := hge 0 _ _ rfl
    have rb0 := (hk 0 _ _ rfl trivial).1.2 (by simp)
    clear hk hge hne
    generalize th (0 + 0) = p0_0 at *
    dsimp only at rb0
    have r_p0_0 := rb0
    clear rb0
    have n_p0_0 := nb0
    clear nb0
    have sz1 := hU.size
    have hB : Below w.heap.size w U1 := hU
    clear hU
    have c4 := held_cell r_p0_0 4 _ rfl
    have c5 := held_cell r_p0_0 5 _ rfl
    have c6 := held_cell r_p0_0 6 _ rfl
    have c7 := held_cell r_p0_0 7 _ rfl
    replace r_p0_0 := hid r_p0_0
    replace hB := hid hB
    go_wp2_with fail
    refine (kk.out _).mono ?_
    rintro r V ⟨rfl, hA⟩
    have d7 := held_cell (held_after hA r_p0_0.out) 7 _ rfl
    replace hB := hid (bthen hB.out hA)
    clear hA c4 c5 c6 c7
    go_wp2_with fail
    go_ret
    exact ⟨by first | rfl | exact ret_bool (by simp <;> omega), hB.out⟩
  by_cases c2 : g3n ≤ q + 2
  case neg =>
    rw [decide_eq_false (fun h => c2 h.2)]
    go_enter Tryz.func11, Tryz.ntmps11
    go_upto_region 0 with (fail)
    apply wp_region_seg0 (w := w) (S := [.al 1000, .q []]) (E := [.al ((fun p => .pointer (some ⟨p, 0, none⟩)), _) 1000, .q0 _]) rfl (by kernel_rfl) rfl rfl
    intro th hge hne
    refine Seg.step _ rfl ⟨by rfl, fun U hU => ?_⟩ ?_
    · go_simp; exact vp_alloc rfl rfl rfl
    refine Seg.sa ?_
    refine Seg.sq ?_
    refine Seg.stop (fun U1 hU hk => ?_)
    have nb0 := hge 0 _ _ rfl
    have rb0 := (hk 0 _ _ rfl trivial).1.2 (by simp)
    clear hk hge hne
    generalize th (0 + 0) = p0_0 at *
    dsimp only at rb0
    have r_p0_0 := rb0
    clear rb0
    have n_p0_0 := nb0
    clear nb0
    have sz1 := hU.size
    have hB : Below w.heap.size w U1 := hU
    clear hU
    have c4 := held_cell r_p0_0 4 _ rfl
    have c5 := held_cell r_p0_0 5 _ rfl
    have c6 := held_cell r_p0_0 6 _ rfl
    have c7 := held_cell r_p0_0 7 _ rfl
    replace r_p0_0 := hid r_p0_0
    replace hB := hid hB
    go_wp2_with fail
    refine (kk.out _).mono ?_
    rintro r V ⟨rfl, hA⟩
    have d7 := held_cell (held_after hA r_p0_0.out) 7 _ rfl
    replace hB := hid (bthen hB.out hA)
    clear hA c4 c5 c6 c7
    go_wp2_with fail
    go_ret
    exact ⟨by first | rfl | exact ret_bool (by simp <;> omega), hB.out⟩
  rw [decide_eq_true ⟨c1, c2⟩]
  go_enter Tryz.func11, Tryz.ntmps11
  go_upto_region 0 with (fail)
  apply wp_region_seg0 (w := w) (S := [.al 1000, .q []]) (E := [.al ((fun p => .pointer (some ⟨p, 0, none⟩)), _) 1000, .q0 _]) rfl (by kernel_rfl) rfl rfl
  intro th hge hne
  refine Seg.step _ rfl ⟨by rfl, fun U hU => ?_⟩ ?_
  · go_simp; exact vp_alloc rfl rfl rfl
  refine Seg.sa ?_
  refine Seg.sq ?_
  refine Seg.stop (fun U1 hU hk => ?_)
  have nb0 := hge 0 _ _ rfl
  have rb0 := (hk 0 _ _ rfl trivial).1.2 (by simp)
  clear hk hge hne
  generalize th (0 + 0) = p0_0 at *
  dsimp only at rb0
  have r_p0_0 := rb0
  clear rb0
  have n_p0_0 := nb0
  clear nb0
  have sz1 := hU.size
  have hB : Below w.heap.size w U1 := hU
  clear hU
  have c4 := held_cell r_p0_0 4 _ rfl
  have c5 := held_cell r_p0_0 5 _ rfl
  have c6 := held_cell r_p0_0 6 _ rfl
  have c7 := held_cell r_p0_0 7 _ rfl
  replace r_p0_0 := hid r_p0_0
  replace hB := hid hB
  go_wp2_with fail
  refine (kk.out _).mono ?_
  rintro r V ⟨rfl, hA⟩
  have d7 := held_cell (held_after hA r_p0_0.out) 7 _ rfl
  replace hB := hid (bthen hB.out hA)
  clear hA c4 c5 c6 c7
  go_wp2_with fail
  go_ret
  exact ⟨by first | rfl | exact ret_bool (by simp <;> omega), hB.out⟩
end Go.Proofs.YtcacgejljbofjaaGreatDoor
