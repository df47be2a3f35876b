/- Package decim: TakeAngle. -/
import Derived.Test.YthnoomdhgbaecaaGreatDoorDec10
import Derived.Deep.DeepCutAuto
namespace Go.Proofs.YthnoomdhgbaecaaGreatDoor

open Go.ChangeShapes Go.WideShapes Go.ChangeAt Go.RowKit

set_option linter.unusedVariables false

set_option linter.unusedSimpArgs false

set_option maxRecDepth 100000 in
set_option maxHeartbeats 8000000 in
theorem tangle_any (s side : ByteArray) (lat : Bool) (w : World) (hs : s.size ≤ 1000) : Calls Tryz.prog 92 #[.string s, .string side, .bool lat] w fun e w' => e = .returned (.tuple #[.agg #[.bool (tkaD s side lat).1, .int .i64 (tkaD s side lat).2.1], .int .i64 (tkaD s side lat).2.2]) ∧ After w w' := by
  have hE1 := temp_iff s
  have hE2 := temp_iff side
  obtain ⟨D, hD⟩ : ∃ D, tkaD s side lat = D := ⟨_, rfl⟩
  rw [hD]
  unfold tkaD at hD
  have hsn := side_ne lat
  have hto := sides_to lat
  have hfr := sides_from lat
  have kC := hid (fun U => circle_any lat U)
  have hTs := tkaO_some
  have hTn := tkaO_no side lat
  replace hTs := fun m => hTs m side lat
  obtain ⟨SS, hSS⟩ : ∃ S, nb [sideA lat false, sideA lat true] = S := ⟨_, rfl⟩
  rw [hSS] at hto hfr
  obtain ⟨SN, hSN⟩ : ∃ S, nb [sideA lat false] = S := ⟨_, rfl⟩
  obtain ⟨SB, hSB⟩ : ∃ S, nb [sideA lat true] = S := ⟨_, rfl⟩
  rw [hSN, hSB] at hsn kC
  rw [hSN] at hto
  rw [hSB] at hfr
  simp only [hSN, hSB] at hTs
  obtain ⟨fa, hfa⟩ : ∃ f, farA lat = f := ⟨_, rfl⟩
  have hf9 : fa = 540000000 ∨ fa = 1080000000 := by rw [← hfa]; unfold farA; split <;> simp
  simp only [hfa] at hTs
  rw [hfa] at kC
  obtain ⟨wd, hwd⟩ : ∃ f, wideA lat = f := ⟨_, rfl⟩
  have hw9 : (lat = true ∧ wd = 2) ∨ (lat = false ∧ wd = 3) := by rw [← hwd]; unfold wideA; cases lat <;> simp
  rw [hwd] at hD kC
  obtain ⟨k4, hk4⟩ : ∃ k, wd + 2 = k := ⟨_, rfl⟩
  rw [hk4] at hD
  obtain ⟨o, ho⟩ : ∃ o, fixP (sb s) 0 k4 k4 5 = o := ⟨_, rfl⟩
  rw [ho] at hD
  have wk : IntKind.i64.wrap ((wd : Int) + 2) = (k4 : Int) := by rw [IntKind.wrap_i64] <;> omega
  have kF := hid (fun U => fixed_any s false k4 k4 5 U hs (by omega) (by omega) (by decide))
  rw [show fixQ false s = 0 by unfold fixQ; simp, ho] at kF
  clear hto hfr hSS hSN hSB hfa hwd
  by_cases h0 : s.size = 0 ∧ side.size = 0
  case pos =>
    rw [if_pos h0] at hD
    rw [decide_eq_true h0.1] at hE1
    rw [decide_eq_true h0.2] at hE2
    clear hTs hTn ho hw9 hsn hf9 h0
    replace hD := hid hD
    go_enter Tryz.func92, Tryz.ntmps92
    go_upto_region 0 with (fail)
    apply wp_region_seg0 (w := w) (S := [.al 1000, .q []]) (E := [.al ((fun p => .pointer (some ⟨p, 0, none⟩)), _) 1000, .q0 _]) rfl (by kernel_rfl) rfl rfl
    intro th hge hne
    refine Seg.step _ rfl ⟨by rfl, fun U hU => ?_⟩ ?_
    · go_simp; exact vp_alloc rfl rfl rfl
    refine Seg.sa ?_
    refine Seg.sq ?_
    refine Seg.stop (fun U1 hU hk => ?_)
    have nb0 := hge 0 _ _ rfl
    have rb0 := (hk 0 _ _ rfl trivial).1.2 (by simp)
    clear hk hge hne
    generalize th (0 + 0) = p0_0 at *
    dsimp only at rb0
    have r_p0_0 := rb0
    clear rb0
    have n_p0_0 := nb0
    clear nb0
    have sz1 := hU.size
    have hB : Below w.heap.size w U1 := hU
    clear hU
    have nP : w.heap.size ≤ p0_0 := n_p0_0
    replace hB := hid hB
    have rn := hid r_p0_0
    clear r_p0_0
    have z0 := held_cell rn.out 0 _ rfl
    have z1 := held_cell rn.out 1 _ rfl
    have g0 := held_free rn.out 0
    have g1 := held_free rn.out 1
    obtain ⟨W9, hW9, ya, yO⟩ := st2 rn.out (.bool false) (.int .i64 0)
    replace hB := hid (belowS hB.out yO nP)
    have ez0 := held_cell ya 0 _ rfl
    have ez1 := held_cell ya 1 _ rfl
    clear yO ya
    go_wp2_with fail
    have hD9 := hD.out
    subst hD9
    refine bodyPost_ret (v := .tuple #[.agg #[.bool false, .int .i64 0], .int .i64 0]) (by simp [results, Tryz.results92, go_sem, ez0, ez1]) rfl ⟨rfl, hB.out⟩
  rw [if_neg h0] at hD
  have hE : (s.toList.isEmpty = false) ∨ (s.toList.isEmpty = true ∧ side.toList.isEmpty = false) := by
    rw [hE1, hE2]
    by_cases h1 : s.size = 0
    · exact .inr ⟨decide_eq_true h1, decide_eq_false (fun h2 => h0 ⟨h1, h2⟩)⟩
    · exact .inl (decide_eq_false h1)
  clear hE1 hE2 h0
  cases o with
  | none =>
    rw [hTn] at hD
    clear hTs hTn ho
    rw [show fixR none 0 = .tuple #[.int .i64 0, .bool false] from rfl] at kF
    rcases hE with hE1 | ⟨hE1, hE2⟩
    · clear hf9 hsn
      replace hD := hid hD
      go_enter Tryz.func92, Tryz.ntmps92
      go_upto_region 0 with (fail)
      apply wp_region_seg0 (w := w) (S := [.al 1000, .q []]) (E := [.al ((fun p => .pointer (some ⟨p, 0, none⟩)), _) 1000, .q0 _]) rfl (by kernel_rfl) rfl rfl
      intro th hge hne
      refine Seg.step _ rfl ⟨by rfl, fun U hU => ?_⟩ ?_
      · go_simp; exact vp_alloc rfl rfl rfl
      refine Seg.sa ?_
      refine Seg.sq ?_
      refine Seg.stop (fun U1 hU hk => ?_)
      have nb0 := hge 0 _ _ rfl
      have rb0 := (hk 0 _ _ rfl trivial).1.2 (by simp)
      clear hk hge hne
      generalize th (0 + 0) = p0_0 at *
      dsimp only at rb0
      have r_p0_0 := rb0
      clear rb0
      have n_p0_0 := nb0
      clear nb0
      have sz1 := hU.size
      have hB : Below w.heap.size w U1 := hU
      clear hU
      have nP : w.heap.size ≤ p0_0 := n_p0_0
      replace hB := hid hB
      have rn := hid r_p0_0
      clear r_p0_0
      go_wp2_with fail
      refine (kC.out _).mono ?_
      rintro e V1 ⟨rfl, hA⟩
      replace hB := hid (bthen hB.out hA)
      replace rn := hid (held_after hA rn.out)
      clear hA
      have nw := alloc_new V1 (.cells #[.int .i64 wd, .int .i64 fa, .string SN, .string SB] 110)
      have hA := nw.2.1
      have rc := nw.2.2
      clear nw
      go_upto_region 4 with (fail)
      obtain ⟨V2, hV2⟩ : ∃ X, V1.alloc (.cells #[.int .i64 wd, .int .i64 fa, .string SN, .string SB] 110) = X := ⟨_, rfl⟩
      rw [hV2] at hA rc ⊢
      obtain ⟨qc, hqc⟩ : ∃ X, V1.heap.size = X := ⟨_, rfl⟩
      rw [hqc] at rc ⊢
      replace hV2 := hid hV2
      replace hqc := hid hqc
      replace hB := hid (bthen hB.out hA)
      replace rn := hid (held_after hA rn.out)
      replace rc := hid rc
      clear hA
      have y0 := held_cell rc.out 0 _ rfl
      have y1 := held_cell rc.out 1 _ rfl
      have y2 := held_cell rc.out 2 _ rfl
      have y3 := held_cell rc.out 3 _ rfl
      go_wp2_with fail
      refine (kF.out _).mono ?_
      rintro e V3 ⟨rfl, hA⟩
      replace hB := hid (bthen hB.out hA)
      replace rn := hid (held_after hA rn.out)
      replace rc := hid (held_after hA rc.out)
      clear hA y0 y1 y2 y3
      have y0 := held_cell rc.out 0 _ rfl
      have y1 := held_cell rc.out 1 _ rfl
      have y2 := held_cell rc.out 2 _ rfl
      have y3 := held_cell rc.out 3 _ rfl
      have z0 := held_cell rn.out 0 _ rfl
      have z1 := held_cell rn.out 1 _ rfl
      have g0 := held_free rn.out 0
      have g1 := held_free rn.out 1
      obtain ⟨W9, hW9, ya, yO⟩ := st2 rn.out (.bool false) (.int .i64 0)
      replace hB := hid (belowS hB.out yO nP)
      have ez0 := held_cell ya 0 _ rfl
      have ez1 := held_cell ya 1 _ rfl
      clear yO ya
      go_wp2_with fail
      have hD9 := hD.out
      subst hD9
      refine bodyPost_ret (v := .tuple #[.agg #[.bool false, .int .i64 0], .int .i64 3]) (by simp [results, Tryz.results92, go_sem, ez0, ez1]) rfl ⟨rfl, hB.out⟩
    · clear hf9 hsn
      replace hD := hid hD
      go_enter Tryz.func92, Tryz.ntmps92
      go_upto_region 0 with (fail)
      apply wp_region_seg0 (w := w) (S := [.al 1000, .q []]) (E := [.al ((fun p => .pointer (some ⟨p, 0, none⟩)), _) 1000, .q0 _]) rfl (by kernel_rfl) rfl rfl
      intro th hge hne
      refine Seg.step _ rfl ⟨by rfl, fun U hU => ?_⟩ ?_
      · go_simp; exact vp_alloc rfl rfl rfl
      refine Seg.sa ?_
      refine Seg.sq ?_
      refine Seg.stop (fun U1 hU hk => ?_)
      have nb0 := hge 0 _ _ rfl
      have rb0 := (hk 0 _ _ rfl trivial).1.2 (by simp)
      clear hk hge hne
      generalize th (0 + 0) = p0_0 at *
      dsimp only at rb0
      have r_p0_0 := rb0
      clear rb0
      have n_p0_0 := nb0
      clear nb0
      have sz1 := hU.size
      have hB : Below w.heap.size w U1 := hU
      clear hU
      have nP : w.heap.size ≤ p0_0 := n_p0_0
      replace hB := hid hB
      have rn := hid r_p0_0
      clear r_p0_0
      go_wp2_with fail
      refine (kC.out _).mono ?_
      rintro e V1 ⟨rfl, hA⟩
      replace hB := hid (bthen hB.out hA)
      replace rn := hid (held_after hA rn.out)
      clear hA
      have nw := alloc_new V1 (.cells #[.int .i64 wd, .int .i64 fa, .string SN, .string SB] 110)
      have hA := nw.2.1
      have rc := nw.2.2
      clear nw
      go_upto_region 4 with (fail)
      obtain ⟨V2, hV2⟩ : ∃ X, V1.alloc (.cells #[.int .i64 wd, .int .i64 fa, .string SN, .string SB] 110) = X := ⟨_, rfl⟩
      rw [hV2] at hA rc ⊢
      obtain ⟨qc, hqc⟩ : ∃ X, V1.heap.size = X := ⟨_, rfl⟩
      rw [hqc] at rc ⊢
      replace hV2 := hid hV2
      replace hqc := hid hqc
      replace hB := hid (bthen hB.out hA)
      replace rn := hid (held_after hA rn.out)
      replace rc := hid rc
      clear hA
      have y0 := held_cell rc.out 0 _ rfl
      have y1 := held_cell rc.out 1 _ rfl
      have y2 := held_cell rc.out 2 _ rfl
      have y3 := held_cell rc.out 3 _ rfl
      go_wp2_with fail
      refine (kF.out _).mono ?_
      rintro e V3 ⟨rfl, hA⟩
      replace hB := hid (bthen hB.out hA)
      replace rn := hid (held_after hA rn.out)
      replace rc := hid (held_after hA rc.out)
      clear hA y0 y1 y2 y3
      have y0 := held_cell rc.out 0 _ rfl
      have y1 := held_cell rc.out 1 _ rfl
      have y2 := held_cell rc.out 2 _ rfl
      have y3 := held_cell rc.out 3 _ rfl
      have z0 := held_cell rn.out 0 _ rfl
      have z1 := held_cell rn.out 1 _ rfl
      have g0 := held_free rn.out 0
      have g1 := held_free rn.out 1
      obtain ⟨W9, hW9, ya, yO⟩ := st2 rn.out (.bool false) (.int .i64 0)
      replace hB := hid (belowS hB.out yO nP)
      have ez0 := held_cell ya 0 _ rfl
      have ez1 := held_cell ya 1 _ rfl
      clear yO ya
      go_wp2_with fail
      have hD9 := hD.out
      subst hD9
      refine bodyPost_ret (v := .tuple #[.agg #[.bool false, .int .i64 0], .int .i64 3]) (by simp [results, Tryz.results92, go_sem, ez0, ez1]) rfl ⟨rfl, hB.out⟩
  | some m =>
    have hml := fixP_lt (by omega) (by decide) ho
    rw [hTs] at hD
    clear hTs hTn
    replace ho := hid ho
    have kX : fixR (some m) 0 = .tuple #[.int .i64 (m : Int), .bool true] := by unfold fixR sgnI; simp
    rw [kX] at kF
    clear kX
    unfold tkaX at hD
    obtain ⟨mm, hmm⟩ : ∃ q, m % 10000000 = q := ⟨_, rfl⟩
    obtain ⟨md, hmd⟩ : ∃ q, m / 10000000 = q := ⟨_, rfl⟩
    obtain ⟨X, hX⟩ : ∃ q, md * 6000000 + mm = q := ⟨_, rfl⟩
    rw [hmm, hmd, hX] at hD
    have hW := hid (tka_w hml hmm hmd hX)
    clear hmm hmd hml
    by_cases s1 : side = SN
    case neg =>
      by_cases s2 : side = SB
      case neg =>
        rw [if_pos ⟨s1, s2⟩] at hD
        have q1 := (ba_neF s1).1
        have q2 := (ba_neF s1).2
        have q3 := (ba_neF s2).1
        have q4 := (ba_neF s2).2
        clear hX hW hf9 hsn s1 s2
        rcases hE with hE1 | ⟨hE1, hE2⟩
        · replace hD := hid hD
          go_enter Tryz.func92, Tryz.ntmps92
          go_upto_region 0 with (fail)
          apply wp_region_seg0 (w := w) (S := [.al 1000, .q []]) (E := [.al ((fun p => .pointer (some ⟨p, 0, none⟩)), _) 1000, .q0 _]) rfl (by kernel_rfl) rfl rfl
          intro th hge hne
          refine Seg.step _ rfl ⟨by rfl, fun U hU => ?_⟩ ?_
          · go_simp; exact vp_alloc rfl rfl rfl
          refine Seg.sa ?_
          refine Seg.sq ?_
          refine Seg.stop (fun U1 hU hk => ?_)
          have nb0 := hge 0 _ _ rfl
          have rb0 := (hk 0 _ _ rfl trivial).1.2 (by simp)
          clear hk hge hne
          generalize th (0 + 0) = p0_0 at *
          dsimp only at rb0
          have r_p0_0 := rb0
          clear rb0
          have n_p0_0 := nb0
          clear nb0
          have sz1 := hU.size
          have hB : Below w.heap.size w U1 := hU
          clear hU
          have nP : w.heap.size ≤ p0_0 := n_p0_0
          replace hB := hid hB
          have rn := hid r_p0_0
          clear r_p0_0
          go_wp2_with fail
          refine (kC.out _).mono ?_
          rintro e V1 ⟨rfl, hA⟩
          replace hB := hid (bthen hB.out hA)
          replace rn := hid (held_after hA rn.out)
          clear hA
          have nw := alloc_new V1 (.cells #[.int .i64 wd, .int .i64 fa, .string SN, .string SB] 110)
          have hA := nw.2.1
          have rc := nw.2.2
          clear nw
          go_upto_region 4 with (fail)
          obtain ⟨V2, hV2⟩ : ∃ X, V1.alloc (.cells #[.int .i64 wd, .int .i64 fa, .string SN, .string SB] 110) = X := ⟨_, rfl⟩
          rw [hV2] at hA rc ⊢
          obtain ⟨qc, hqc⟩ : ∃ X, V1.heap.size = X := ⟨_, rfl⟩
          rw [hqc] at rc ⊢
          replace hV2 := hid hV2
          replace hqc := hid hqc
          replace hB := hid (bthen hB.out hA)
          replace rn := hid (held_after hA rn.out)
          replace rc := hid rc
          clear hA
          have y0 := held_cell rc.out 0 _ rfl
          have y1 := held_cell rc.out 1 _ rfl
          have y2 := held_cell rc.out 2 _ rfl
          have y3 := held_cell rc.out 3 _ rfl
          go_wp2_with fail
          refine (kF.out _).mono ?_
          rintro e V3 ⟨rfl, hA⟩
          replace hB := hid (bthen hB.out hA)
          replace rn := hid (held_after hA rn.out)
          replace rc := hid (held_after hA rc.out)
          clear hA y0 y1 y2 y3
          have y0 := held_cell rc.out 0 _ rfl
          have y1 := held_cell rc.out 1 _ rfl
          have y2 := held_cell rc.out 2 _ rfl
          have y3 := held_cell rc.out 3 _ rfl
          have z0 := held_cell rn.out 0 _ rfl
          have z1 := held_cell rn.out 1 _ rfl
          have g0 := held_free rn.out 0
          have g1 := held_free rn.out 1
          obtain ⟨W9, hW9, ya, yO⟩ := st2 rn.out (.bool false) (.int .i64 0)
          replace hB := hid (belowS hB.out yO nP)
          have ez0 := held_cell ya 0 _ rfl
          have ez1 := held_cell ya 1 _ rfl
          clear yO ya
          go_wp2_with fail
          have hD9 := hD.out
          subst hD9
          refine bodyPost_ret (v := .tuple #[.agg #[.bool false, .int .i64 0], .int .i64 3]) (by simp [results, Tryz.results92, go_sem, ez0, ez1]) rfl ⟨rfl, hB.out⟩
        · replace hD := hid hD
          go_enter Tryz.func92, Tryz.ntmps92
          go_upto_region 0 with (fail)
          apply wp_region_seg0 (w := w) (S := [.al 1000, .q []]) (E := [.al ((fun p => .pointer (some ⟨p, 0, none⟩)), _) 1000, .q0 _]) rfl (by kernel_rfl) rfl rfl
          intro th hge hne
          refine Seg.step _ rfl ⟨by rfl, fun U hU => ?_⟩ ?_
          · go_simp; exact vp_alloc rfl rfl rfl
          refine Seg.sa ?_
          refine Seg.sq ?_
          refine Seg.stop (fun U1 hU hk => ?_)
          have nb0 := hge 0 _ _ rfl
          have rb0 := (hk 0 _ _ rfl trivial).1.2 (by simp)
          clear hk hge hne
          generalize th (0 + 0) = p0_0 at *
          dsimp only at rb0
          have r_p0_0 := rb0
          clear rb0
          have n_p0_0 := nb0
          clear nb0
          have sz1 := hU.size
          have hB : Below w.heap.size w U1 := hU
          clear hU
          have nP : w.heap.size ≤ p0_0 := n_p0_0
          replace hB := hid hB
          have rn := hid r_p0_0
          clear r_p0_0
          go_wp2_with fail
          refine (kC.out _).mono ?_
          rintro e V1 ⟨rfl, hA⟩
          replace hB := hid (bthen hB.out hA)
          replace rn := hid (held_after hA rn.out)
          clear hA
          have nw := alloc_new V1 (.cells #[.int .i64 wd, .int .i64 fa, .string SN, .string SB] 110)
          have hA := nw.2.1
          have rc := nw.2.2
          clear nw
          go_upto_region 4 with (fail)
          obtain ⟨V2, hV2⟩ : ∃ X, V1.alloc (.cells #[.int .i64 wd, .int .i64 fa, .string SN, .string SB] 110) = X := ⟨_, rfl⟩
          rw [hV2] at hA rc ⊢
          obtain ⟨qc, hqc⟩ : ∃ X, V1.heap.size = X := ⟨_, rfl⟩
          rw [hqc] at rc ⊢
          replace hV2 := hid hV2
          replace hqc := hid hqc
          replace hB := hid (bthen hB.out hA)
          replace rn := hid (held_after hA rn.out)
          replace rc := hid rc
          clear hA
          have y0 := held_cell rc.out 0 _ rfl
          have y1 := held_cell rc.out 1 _ rfl
          have y2 := held_cell rc.out 2 _ rfl
          have y3 := held_cell rc.out 3 _ rfl
          go_wp2_with fail
          refine (kF.out _).mono ?_
          rintro e V3 ⟨rfl, hA⟩
          replace hB := hid (bthen hB.out hA)
          replace rn := hid (held_after hA rn.out)
          replace rc := hid (held_after hA rc.out)
          clear hA y0 y1 y2 y3
          have y0 := held_cell rc.out 0 _ rfl
          have y1 := held_cell rc.out 1 _ rfl
          have y2 := held_cell rc.out 2 _ rfl
          have y3 := held_cell rc.out 3 _ rfl
          have z0 := held_cell rn.out 0 _ rfl
          have z1 := held_cell rn.out 1 _ rfl
          have g0 := held_free rn.out 0
          have g1 := held_free rn.out 1
          obtain ⟨W9, hW9, ya, yO⟩ := st2 rn.out (.bool false) (.int .i64 0)
          replace hB := hid (belowS hB.out yO nP)
          have ez0 := held_cell ya 0 _ rfl
          have ez1 := held_cell ya 1 _ rfl
          clear yO ya
          go_wp2_with fail
          have hD9 := hD.out
          subst hD9
          refine bodyPost_ret (v := .tuple #[.agg #[.bool false, .int .i64 0], .int .i64 3]) (by simp [results, Tryz.results92, go_sem, ez0, ez1]) rfl ⟨rfl, hB.out⟩
      have q1 := (ba_neF s1).1
      have q2 := (ba_neF s1).2
      have q3 := (ba_neT s2).1
      have q4 := (ba_neT s2).2
      rw [if_neg (fun h => h.2 s2)] at hD
      rw [if_pos s2] at hD
      clear s1 s2
      by_cases m1 : 6000000 ≤ mm
      case pos =>
        rw [if_pos (.inl m1)] at hD
        have m2 : (6000000 : Int) ≤ mm := by omega
        clear hf9 hX
        obtain ⟨e1, e2, v1, v2, v3, v4, v5⟩ := hW.out
        clear hW
        rcases hE with hE1 | ⟨hE1, hE2⟩
        · replace hD := hid hD
          go_enter Tryz.func92, Tryz.ntmps92
          go_upto_region 0 with (fail)
          apply wp_region_seg0 (w := w) (S := [.al 1000, .q []]) (E := [.al ((fun p => .pointer (some ⟨p, 0, none⟩)), _) 1000, .q0 _]) rfl (by kernel_rfl) rfl rfl
          intro th hge hne
          refine Seg.step _ rfl ⟨by rfl, fun U hU => ?_⟩ ?_
          · go_simp; exact vp_alloc rfl rfl rfl
          refine Seg.sa ?_
          refine Seg.sq ?_
          refine Seg.stop (fun U1 hU hk => ?_)
          have nb0 := hge 0 _ _ rfl
          have rb0 := (hk 0 _ _ rfl trivial).1.2 (by simp)
          clear hk hge hne
          generalize th (0 + 0) = p0_0 at *
          dsimp only at rb0
          have r_p0_0 := rb0
          clear rb0
          have n_p0_0 := nb0
          clear nb0
          have sz1 := hU.size
          have hB : Below w.heap.size w U1 := hU
          clear hU
          have nP : w.heap.size ≤ p0_0 := n_p0_0
          replace hB := hid hB
          have rn := hid r_p0_0
          clear r_p0_0
          go_wp2_with fail
          refine (kC.out _).mono ?_
          rintro e V1 ⟨rfl, hA⟩
          replace hB := hid (bthen hB.out hA)
          replace rn := hid (held_after hA rn.out)
          clear hA
          have nw := alloc_new V1 (.cells #[.int .i64 wd, .int .i64 fa, .string SN, .string SB] 110)
          have hA := nw.2.1
          have rc := nw.2.2
          clear nw
          go_upto_region 4 with (fail)
          obtain ⟨V2, hV2⟩ : ∃ X, V1.alloc (.cells #[.int .i64 wd, .int .i64 fa, .string SN, .string SB] 110) = X := ⟨_, rfl⟩
          rw [hV2] at hA rc ⊢
          obtain ⟨qc, hqc⟩ : ∃ X, V1.heap.size = X := ⟨_, rfl⟩
          rw [hqc] at rc ⊢
          replace hV2 := hid hV2
          replace hqc := hid hqc
          replace hB := hid (bthen hB.out hA)
          replace rn := hid (held_after hA rn.out)
          replace rc := hid rc
          clear hA
          have y0 := held_cell rc.out 0 _ rfl
          have y1 := held_cell rc.out 1 _ rfl
          have y2 := held_cell rc.out 2 _ rfl
          have y3 := held_cell rc.out 3 _ rfl
          go_wp2_with fail
          refine (kF.out _).mono ?_
          rintro e V3 ⟨rfl, hA⟩
          replace hB := hid (bthen hB.out hA)
          replace rn := hid (held_after hA rn.out)
          replace rc := hid (held_after hA rc.out)
          clear hA y0 y1 y2 y3
          have y0 := held_cell rc.out 0 _ rfl
          have y1 := held_cell rc.out 1 _ rfl
          have y2 := held_cell rc.out 2 _ rfl
          have y3 := held_cell rc.out 3 _ rfl
          have z0 := held_cell rn.out 0 _ rfl
          have z1 := held_cell rn.out 1 _ rfl
          have g0 := held_free rn.out 0
          have g1 := held_free rn.out 1
          obtain ⟨W9, hW9, ya, yO⟩ := st2 rn.out (.bool false) (.int .i64 0)
          replace hB := hid (belowS hB.out yO nP)
          have ez0 := held_cell ya 0 _ rfl
          have ez1 := held_cell ya 1 _ rfl
          clear yO ya
          go_wp2_with fail
          have hD9 := hD.out
          subst hD9
          refine bodyPost_ret (v := .tuple #[.agg #[.bool false, .int .i64 0], .int .i64 5]) (by simp [results, Tryz.results92, go_sem, ez0, ez1]) rfl ⟨rfl, hB.out⟩
        · replace hD := hid hD
          go_enter Tryz.func92, Tryz.ntmps92
          go_upto_region 0 with (fail)
          apply wp_region_seg0 (w := w) (S := [.al 1000, .q []]) (E := [.al ((fun p => .pointer (some ⟨p, 0, none⟩)), _) 1000, .q0 _]) rfl (by kernel_rfl) rfl rfl
          intro th hge hne
          refine Seg.step _ rfl ⟨by rfl, fun U hU => ?_⟩ ?_
          · go_simp; exact vp_alloc rfl rfl rfl
          refine Seg.sa ?_
          refine Seg.sq ?_
          refine Seg.stop (fun U1 hU hk => ?_)
          have nb0 := hge 0 _ _ rfl
          have rb0 := (hk 0 _ _ rfl trivial).1.2 (by simp)
          clear hk hge hne
          generalize th (0 + 0) = p0_0 at *
          dsimp only at rb0
          have r_p0_0 := rb0
          clear rb0
          have n_p0_0 := nb0
          clear nb0
          have sz1 := hU.size
          have hB : Below w.heap.size w U1 := hU
          clear hU
          have nP : w.heap.size ≤ p0_0 := n_p0_0
          replace hB := hid hB
          have rn := hid r_p0_0
          clear r_p0_0
          go_wp2_with fail
          refine (kC.out _).mono ?_
          rintro e V1 ⟨rfl, hA⟩
          replace hB := hid (bthen hB.out hA)
          replace rn := hid (held_after hA rn.out)
          clear hA
          have nw := alloc_new V1 (.cells #[.int .i64 wd, .int .i64 fa, .string SN, .string SB] 110)
          have hA := nw.2.1
          have rc := nw.2.2
          clear nw
          go_upto_region 4 with (fail)
          obtain ⟨V2, hV2⟩ : ∃ X, V1.alloc (.cells #[.int .i64 wd, .int .i64 fa, .string SN, .string SB] 110) = X := ⟨_, rfl⟩
          rw [hV2] at hA rc ⊢
          obtain ⟨qc, hqc⟩ : ∃ X, V1.heap.size = X := ⟨_, rfl⟩
          rw [hqc] at rc ⊢
          replace hV2 := hid hV2
          replace hqc := hid hqc
          replace hB := hid (bthen hB.out hA)
          replace rn := hid (held_after hA rn.out)
          replace rc := hid rc
          clear hA
          have y0 := held_cell rc.out 0 _ rfl
          have y1 := held_cell rc.out 1 _ rfl
          have y2 := held_cell rc.out 2 _ rfl
          have y3 := held_cell rc.out 3 _ rfl
          go_wp2_with fail
          refine (kF.out _).mono ?_
          rintro e V3 ⟨rfl, hA⟩
          replace hB := hid (bthen hB.out hA)
          replace rn := hid (held_after hA rn.out)
          replace rc := hid (held_after hA rc.out)
          clear hA y0 y1 y2 y3
          have y0 := held_cell rc.out 0 _ rfl
          have y1 := held_cell rc.out 1 _ rfl
          have y2 := held_cell rc.out 2 _ rfl
          have y3 := held_cell rc.out 3 _ rfl
          have z0 := held_cell rn.out 0 _ rfl
          have z1 := held_cell rn.out 1 _ rfl
          have g0 := held_free rn.out 0
          have g1 := held_free rn.out 1
          obtain ⟨W9, hW9, ya, yO⟩ := st2 rn.out (.bool false) (.int .i64 0)
          replace hB := hid (belowS hB.out yO nP)
          have ez0 := held_cell ya 0 _ rfl
          have ez1 := held_cell ya 1 _ rfl
          clear yO ya
          go_wp2_with fail
          have hD9 := hD.out
          subst hD9
          refine bodyPost_ret (v := .tuple #[.agg #[.bool false, .int .i64 0], .int .i64 5]) (by simp [results, Tryz.results92, go_sem, ez0, ez1]) rfl ⟨rfl, hB.out⟩
      have m2 : ¬ ((6000000 : Int) ≤ mm) := by omega
      by_cases l1 : fa < X
      case pos =>
        rw [if_pos (.inr l1)] at hD
        have l2 : (fa : Int) < X := by omega
        clear hf9 hX
        obtain ⟨e1, e2, v1, v2, v3, v4, v5⟩ := hW.out
        clear hW
        rcases hE with hE1 | ⟨hE1, hE2⟩
        · replace hD := hid hD
          go_enter Tryz.func92, Tryz.ntmps92
          go_upto_region 0 with (fail)
          apply wp_region_seg0 (w := w) (S := [.al 1000, .q []]) (E := [.al ((fun p => .pointer (some ⟨p, 0, none⟩)), _) 1000, .q0 _]) rfl (by kernel_rfl) rfl rfl
          intro th hge hne
          refine Seg.step _ rfl ⟨by rfl, fun U hU => ?_⟩ ?_
          · go_simp; exact vp_alloc rfl rfl rfl
          refine Seg.sa ?_
          refine Seg.sq ?_
          refine Seg.stop (fun U1 hU hk => ?_)
          have nb0 := hge 0 _ _ rfl
          have rb0 := (hk 0 _ _ rfl trivial).1.2 (by simp)
          clear hk hge hne
          generalize th (0 + 0) = p0_0 at *
          dsimp only at rb0
          have r_p0_0 := rb0
          clear rb0
          have n_p0_0 := nb0
          clear nb0
          have sz1 := hU.size
          have hB : Below w.heap.size w U1 := hU
          clear hU
          have nP : w.heap.size ≤ p0_0 := n_p0_0
          replace hB := hid hB
          have rn := hid r_p0_0
          clear r_p0_0
          go_wp2_with fail
          refine (kC.out _).mono ?_
          rintro e V1 ⟨rfl, hA⟩
          replace hB := hid (bthen hB.out hA)
          replace rn := hid (held_after hA rn.out)
          clear hA
          have nw := alloc_new V1 (.cells #[.int .i64 wd, .int .i64 fa, .string SN, .string SB] 110)
          have hA := nw.2.1
          have rc := nw.2.2
          clear nw
          go_upto_region 4 with (fail)
          obtain ⟨V2, hV2⟩ : ∃ X, V1.alloc (.cells #[.int .i64 wd, .int .i64 fa, .string SN, .string SB] 110) = X := ⟨_, rfl⟩
          rw [hV2] at hA rc ⊢
          obtain ⟨qc, hqc⟩ : ∃ X, V1.heap.size = X := ⟨_, rfl⟩
          rw [hqc] at rc ⊢
          replace hV2 := hid hV2
          replace hqc := hid hqc
          replace hB := hid (bthen hB.out hA)
          replace rn := hid (held_after hA rn.out)
          replace rc := hid rc
          clear hA
          have y0 := held_cell rc.out 0 _ rfl
          have y1 := held_cell rc.out 1 _ rfl
          have y2 := held_cell rc.out 2 _ rfl
          have y3 := held_cell rc.out 3 _ rfl
          go_wp2_with fail
          refine (kF.out _).mono ?_
          rintro e V3 ⟨rfl, hA⟩
          replace hB := hid (bthen hB.out hA)
          replace rn := hid (held_after hA rn.out)
          replace rc := hid (held_after hA rc.out)
          clear hA y0 y1 y2 y3
          have y0 := held_cell rc.out 0 _ rfl
          have y1 := held_cell rc.out 1 _ rfl
          have y2 := held_cell rc.out 2 _ rfl
          have y3 := held_cell rc.out 3 _ rfl
          have z0 := held_cell rn.out 0 _ rfl
          have z1 := held_cell rn.out 1 _ rfl
          have g0 := held_free rn.out 0
          have g1 := held_free rn.out 1
          obtain ⟨W9, hW9, ya, yO⟩ := st2 rn.out (.bool false) (.int .i64 0)
          replace hB := hid (belowS hB.out yO nP)
          have ez0 := held_cell ya 0 _ rfl
          have ez1 := held_cell ya 1 _ rfl
          clear yO ya
          go_wp2_with fail
          have hD9 := hD.out
          subst hD9
          refine bodyPost_ret (v := .tuple #[.agg #[.bool false, .int .i64 0], .int .i64 5]) (by simp [results, Tryz.results92, go_sem, ez0, ez1]) rfl ⟨rfl, hB.out⟩
        · replace hD := hid hD
          go_enter Tryz.func92, Tryz.ntmps92
          go_upto_region 0 with (fail)
          apply wp_region_seg0 (w := w) (S := [.al 1000, .q []]) (E := [.al ((fun p => .pointer (some ⟨p, 0, none⟩)), _) 1000, .q0 _]) rfl (by kernel_rfl) rfl rfl
          intro th hge hne
          refine Seg.step _ rfl ⟨by rfl, fun U hU => ?_⟩ ?_
          · go_simp; exact vp_alloc rfl rfl rfl
          refine Seg.sa ?_
          refine Seg.sq ?_
          refine Seg.stop (fun U1 hU hk => ?_)
          have nb0 := hge 0 _ _ rfl
          have rb0 := (hk 0 _ _ rfl trivial).1.2 (by simp)
          clear hk hge hne
          generalize th (0 + 0) = p0_0 at *
          dsimp only at rb0
          have r_p0_0 := rb0
          clear rb0
          have n_p0_0 := nb0
          clear nb0
          have sz1 := hU.size
          have hB : Below w.heap.size w U1 := hU
          clear hU
          have nP : w.heap.size ≤ p0_0 := n_p0_0
          replace hB := hid hB
          have rn := hid r_p0_0
          clear r_p0_0
          go_wp2_with fail
          refine (kC.out _).mono ?_
          rintro e V1 ⟨rfl, hA⟩
          replace hB := hid (bthen hB.out hA)
          replace rn := hid (held_after hA rn.out)
          clear hA
          have nw := alloc_new V1 (.cells #[.int .i64 wd, .int .i64 fa, .string SN, .string SB] 110)
          have hA := nw.2.1
          have rc := nw.2.2
          clear nw
          go_upto_region 4 with (fail)
          obtain ⟨V2, hV2⟩ : ∃ X, V1.alloc (.cells #[.int .i64 wd, .int .i64 fa, .string SN, .string SB] 110) = X := ⟨_, rfl⟩
          rw [hV2] at hA rc ⊢
          obtain ⟨qc, hqc⟩ : ∃ X, V1.heap.size = X := ⟨_, rfl⟩
          rw [hqc] at rc ⊢
          replace hV2 := hid hV2
          replace hqc := hid hqc
          replace hB := hid (bthen hB.out hA)
          replace rn := hid (held_after hA rn.out)
          replace rc := hid rc
          clear hA
          have y0 := held_cell rc.out 0 _ rfl
          have y1 := held_cell rc.out 1 _ rfl
          have y2 := held_cell rc.out 2 _ rfl
          have y3 := held_cell rc.out 3 _ rfl
          go_wp2_with fail
          refine (kF.out _).mono ?_
          rintro e V3 ⟨rfl, hA⟩
          replace hB := hid (bthen hB.out hA)
          replace rn := hid (held_after hA rn.out)
          replace rc := hid (held_after hA rc.out)
          clear hA y0 y1 y2 y3
          have y0 := held_cell rc.out 0 _ rfl
          have y1 := held_cell rc.out 1 _ rfl
          have y2 := held_cell rc.out 2 _ rfl
          have y3 := held_cell rc.out 3 _ rfl
          have z0 := held_cell rn.out 0 _ rfl
          have z1 := held_cell rn.out 1 _ rfl
          have g0 := held_free rn.out 0
          have g1 := held_free rn.out 1
          obtain ⟨W9, hW9, ya, yO⟩ := st2 rn.out (.bool false) (.int .i64 0)
          replace hB := hid (belowS hB.out yO nP)
          have ez0 := held_cell ya 0 _ rfl
          have ez1 := held_cell ya 1 _ rfl
          clear yO ya
          go_wp2_with fail
          have hD9 := hD.out
          subst hD9
          refine bodyPost_ret (v := .tuple #[.agg #[.bool false, .int .i64 0], .int .i64 5]) (by simp [results, Tryz.results92, go_sem, ez0, ez1]) rfl ⟨rfl, hB.out⟩
      have l2 : ¬ ((fa : Int) < X) := by omega
      rw [if_neg (by omega)] at hD
      clear hf9 hX
      obtain ⟨e1, e2, v1, v2, v3, v4, v5⟩ := hW.out
      clear hW
      have l7 := hid (show decide (fa < X) = false from decide_eq_false l1)
      have m7 := hid (show decide (6000000 ≤ mm) = false from decide_eq_false m1)
      have l9 := hid (show decide ((fa : Int) < X) = false from decide_eq_false l2)
      have m9 := hid (show decide ((6000000 : Int) ≤ mm) = false from decide_eq_false m2)
      clear l1 l2 m1 m2
      rcases hE with hE1 | ⟨hE1, hE2⟩
      · replace hD := hid hD
        go_enter Tryz.func92, Tryz.ntmps92
        go_upto_region 0 with (fail)
        apply wp_region_seg0 (w := w) (S := [.al 1000, .q []]) (E := [.al ((fun p => .pointer (some ⟨p, 0, none⟩)), _) 1000, .q0 _]) rfl (by kernel_rfl) rfl rfl
        intro th hge hne
        refine Seg.step _ rfl ⟨by rfl, fun U hU => ?_⟩ ?_
        · go_simp; exact vp_alloc rfl rfl rfl
        refine Seg.sa ?_
        refine Seg.sq ?_
        refine Seg.stop (fun U1 hU hk => ?_)
        have nb0 := hge 0 _ _ rfl
        have rb0 := (hk 0 _ _ rfl trivial).1.2 (by simp)
        clear hk hge hne
        generalize th (0 + 0) = p0_0 at *
        dsimp only at rb0
        have r_p0_0 := rb0
        clear rb0
        have n_p0_0 := nb0
        clear nb0
        have sz1 := hU.size
        have hB : Below w.heap.size w U1 := hU
        clear hU
        have nP : w.heap.size ≤ p0_0 := n_p0_0
        replace hB := hid hB
        have rn := hid r_p0_0
        clear r_p0_0
        go_wp2_with fail
        refine (kC.out _).mono ?_
        rintro e V1 ⟨rfl, hA⟩
        replace hB := hid (bthen hB.out hA)
        replace rn := hid (held_after hA rn.out)
        clear hA
        have nw := alloc_new V1 (.cells #[.int .i64 wd, .int .i64 fa, .string SN, .string SB] 110)
        have hA := nw.2.1
        have rc := nw.2.2
        clear nw
        go_upto_region 4 with (fail)
        obtain ⟨V2, hV2⟩ : ∃ X, V1.alloc (.cells #[.int .i64 wd, .int .i64 fa, .string SN, .string SB] 110) = X := ⟨_, rfl⟩
        rw [hV2] at hA rc ⊢
        obtain ⟨qc, hqc⟩ : ∃ X, V1.heap.size = X := ⟨_, rfl⟩
        rw [hqc] at rc ⊢
        replace hV2 := hid hV2
        replace hqc := hid hqc
        replace hB := hid (bthen hB.out hA)
        replace rn := hid (held_after hA rn.out)
        replace rc := hid rc
        clear hA
        have y0 := held_cell rc.out 0 _ rfl
        have y1 := held_cell rc.out 1 _ rfl
        have y2 := held_cell rc.out 2 _ rfl
        have y3 := held_cell rc.out 3 _ rfl
        go_wp2_with fail
        refine (kF.out _).mono ?_
        rintro e V3 ⟨rfl, hA⟩
        replace hB := hid (bthen hB.out hA)
        replace rn := hid (held_after hA rn.out)
        replace rc := hid (held_after hA rc.out)
        clear hA y0 y1 y2 y3
        have y0 := held_cell rc.out 0 _ rfl
        have y1 := held_cell rc.out 1 _ rfl
        have y2 := held_cell rc.out 2 _ rfl
        have y3 := held_cell rc.out 3 _ rfl
        have l8 := l9.out
        have m8 := m9.out
        have l6 := l7.out
        have m6 := m7.out
        have z0 := held_cell rn.out 0 _ rfl
        have z1 := held_cell rn.out 1 _ rfl
        have g0 := held_free rn.out 0
        have g1 := held_free rn.out 1
        obtain ⟨W9, hW9, ya, yO⟩ := st2 rn.out (.bool true) (.int .i64 (-(X : Int)))
        replace hB := hid (belowS hB.out yO nP)
        have ez0 := held_cell ya 0 _ rfl
        have ez1 := held_cell ya 1 _ rfl
        clear yO ya
        go_wp2_with fail
        have hD9 := hD.out
        subst hD9
        refine bodyPost_ret (v := .tuple #[.agg #[.bool true, .int .i64 (-(X : Int))], .int .i64 0]) (by simp [results, Tryz.results92, go_sem, ez0, ez1]) rfl ⟨rfl, hB.out⟩
      · replace hD := hid hD
        go_enter Tryz.func92, Tryz.ntmps92
        go_upto_region 0 with (fail)
        apply wp_region_seg0 (w := w) (S := [.al 1000, .q []]) (E := [.al ((fun p => .pointer (some ⟨p, 0, none⟩)), _) 1000, .q0 _]) rfl (by kernel_rfl) rfl rfl
        intro th hge hne
        refine Seg.step _ rfl ⟨by rfl, fun U hU => ?_⟩ ?_
        · go_simp; exact vp_alloc rfl rfl rfl
        refine Seg.sa ?_
        refine Seg.sq ?_
        refine Seg.stop (fun U1 hU hk => ?_)
        have nb0 := hge 0 _ _ rfl
        have rb0 := (hk 0 _ _ rfl trivial).1.2 (by simp)
        clear hk hge hne
        generalize th (0 + 0) = p0_0 at *
        dsimp only at rb0
        have r_p0_0 := rb0
        clear rb0
        have n_p0_0 := nb0
        clear nb0
        have sz1 := hU.size
        have hB : Below w.heap.size w U1 := hU
        clear hU
        have nP : w.heap.size ≤ p0_0 := n_p0_0
        replace hB := hid hB
        have rn := hid r_p0_0
        clear r_p0_0
        go_wp2_with fail
        refine (kC.out _).mono ?_
        rintro e V1 ⟨rfl, hA⟩
        replace hB := hid (bthen hB.out hA)
        replace rn := hid (held_after hA rn.out)
        clear hA
        have nw := alloc_new V1 (.cells #[.int .i64 wd, .int .i64 fa, .string SN, .string SB] 110)
        have hA := nw.2.1
        have rc := nw.2.2
        clear nw
        go_upto_region 4 with (fail)
        obtain ⟨V2, hV2⟩ : ∃ X, V1.alloc (.cells #[.int .i64 wd, .int .i64 fa, .string SN, .string SB] 110) = X := ⟨_, rfl⟩
        rw [hV2] at hA rc ⊢
        obtain ⟨qc, hqc⟩ : ∃ X, V1.heap.size = X := ⟨_, rfl⟩
        rw [hqc] at rc ⊢
        replace hV2 := hid hV2
        replace hqc := hid hqc
        replace hB := hid (bthen hB.out hA)
        replace rn := hid (held_after hA rn.out)
        replace rc := hid rc
        clear hA
        have y0 := held_cell rc.out 0 _ rfl
        have y1 := held_cell rc.out 1 _ rfl
        have y2 := held_cell rc.out 2 _ rfl
        have y3 := held_cell rc.out 3 _ rfl
        go_wp2_with fail
        refine (kF.out _).mono ?_
        rintro e V3 ⟨rfl, hA⟩
        replace hB := hid (bthen hB.out hA)
        replace rn := hid (held_after hA rn.out)
        replace rc := hid (held_after hA rc.out)
        clear hA y0 y1 y2 y3
        have y0 := held_cell rc.out 0 _ rfl
        have y1 := held_cell rc.out 1 _ rfl
        have y2 := held_cell rc.out 2 _ rfl
        have y3 := held_cell rc.out 3 _ rfl
        have l8 := l9.out
        have m8 := m9.out
        have l6 := l7.out
        have m6 := m7.out
        have z0 := held_cell rn.out 0 _ rfl
        have z1 := held_cell rn.out 1 _ rfl
        have g0 := held_free rn.out 0
        have g1 := held_free rn.out 1
        obtain ⟨W9, hW9, ya, yO⟩ := st2 rn.out (.bool true) (.int .i64 (-(X : Int)))
        replace hB := hid (belowS hB.out yO nP)
        have ez0 := held_cell ya 0 _ rfl
        have ez1 := held_cell ya 1 _ rfl
        clear yO ya
        go_wp2_with fail
        have hD9 := hD.out
        subst hD9
        refine bodyPost_ret (v := .tuple #[.agg #[.bool true, .int .i64 (-(X : Int))], .int .i64 0]) (by simp [results, Tryz.results92, go_sem, ez0, ez1]) rfl ⟨rfl, hB.out⟩
    have s2 : ¬ side = SB := by rw [s1]; exact hsn
    have q1 := (ba_neT s1).1
    have q2 := (ba_neT s1).2
    have q3 := (ba_neF s2).1
    have q4 := (ba_neF s2).2
    rw [if_neg (fun h => h.1 s1)] at hD
    rw [if_neg s2] at hD
    clear s1 s2
    by_cases m1 : 6000000 ≤ mm
    case pos =>
      rw [if_pos (.inl m1)] at hD
      have m2 : (6000000 : Int) ≤ mm := by omega
      clear hf9 hX
      obtain ⟨e1, e2, v1, v2, v3, v4, v5⟩ := hW.out
      clear hW
      rcases hE with hE1 | ⟨hE1, hE2⟩
      · replace hD := hid hD
        go_enter Tryz.func92, Tryz.ntmps92
        go_upto_region 0 with (fail)
        apply wp_region_seg0 (w := w) (S := [.al 1000, .q []]) (E := [.al ((fun p => .pointer (some ⟨p, 0, none⟩)), _) 1000, .q0 _]) rfl (by kernel_rfl) rfl rfl
        intro th hge hne
        refine Seg.step _ rfl ⟨by rfl, fun U hU => ?_⟩ ?_
        · go_simp; exact vp_alloc rfl rfl rfl
        refine Seg.sa ?_
        refine Seg.sq ?_
        refine Seg.stop (fun U1 hU hk => ?_)
        have nb0 := hge 0 _ _ rfl
        have rb0 := (hk 0 _ _ rfl trivial).1.2 (by simp)
        clear hk hge hne
        generalize th (0 + 0) = p0_0 at *
        dsimp only at rb0
        have r_p0_0 := rb0
        clear rb0
        have n_p0_0 := nb0
        clear nb0
        have sz1 := hU.size
        have hB : Below w.heap.size w U1 := hU
        clear hU
        have nP : w.heap.size ≤ p0_0 := n_p0_0
        replace hB := hid hB
        have rn := hid r_p0_0
        clear r_p0_0
        go_wp2_with fail
        refine (kC.out _).mono ?_
        rintro e V1 ⟨rfl, hA⟩
        replace hB := hid (bthen hB.out hA)
        replace rn := hid (held_after hA rn.out)
        clear hA
        have nw := alloc_new V1 (.cells #[.int .i64 wd, .int .i64 fa, .string SN, .string SB] 110)
        have hA := nw.2.1
        have rc := nw.2.2
        clear nw
        go_upto_region 4 with (fail)
        obtain ⟨V2, hV2⟩ : ∃ X, V1.alloc (.cells #[.int .i64 wd, .int .i64 fa, .string SN, .string SB] 110) = X := ⟨_, rfl⟩
        rw [hV2] at hA rc ⊢
        obtain ⟨qc, hqc⟩ : ∃ X, V1.heap.size = X := ⟨_, rfl⟩
        rw [hqc] at rc ⊢
        replace hV2 := hid hV2
        replace hqc := hid hqc
        replace hB := hid (bthen hB.out hA)
        replace rn := hid (held_after hA rn.out)
        replace rc := hid rc
        clear hA
        have y0 := held_cell rc.out 0 _ rfl
        have y1 := held_cell rc.out 1 _ rfl
        have y2 := held_cell rc.out 2 _ rfl
        have y3 := held_cell rc.out 3 _ rfl
        go_wp2_with fail
        refine (kF.out _).mono ?_
        rintro e V3 ⟨rfl, hA⟩
        replace hB := hid (bthen hB.out hA)
        replace rn := hid (held_after hA rn.out)
        replace rc := hid (held_after hA rc.out)
        clear hA y0 y1 y2 y3
        have y0 := held_cell rc.out 0 _ rfl
        have y1 := held_cell rc.out 1 _ rfl
        have y2 := held_cell rc.out 2 _ rfl
        have y3 := held_cell rc.out 3 _ rfl
        have z0 := held_cell rn.out 0 _ rfl
        have z1 := held_cell rn.out 1 _ rfl
        have g0 := held_free rn.out 0
        have g1 := held_free rn.out 1
        obtain ⟨W9, hW9, ya, yO⟩ := st2 rn.out (.bool false) (.int .i64 0)
        replace hB := hid (belowS hB.out yO nP)
        have ez0 := held_cell ya 0 _ rfl
        have ez1 := held_cell ya 1 _ rfl
        clear yO ya
        go_wp2_with fail
        have hD9 := hD.out
        subst hD9
        refine bodyPost_ret (v := .tuple #[.agg #[.bool false, .int .i64 0], .int .i64 5]) (by simp [results, Tryz.results92, go_sem, ez0, ez1]) rfl ⟨rfl, hB.out⟩
      · replace hD := hid hD
        go_enter Tryz.func92, Tryz.ntmps92
        go_upto_region 0 with (fail)
        apply wp_region_seg0 (w := w) (S := [.al 1000, .q []]) (E := [.al ((fun p => .pointer (some ⟨p, 0, none⟩)), _) 1000, .q0 _]) rfl (by kernel_rfl) rfl rfl
        intro th hge hne
        refine Seg.step _ rfl ⟨by rfl, fun U hU => ?_⟩ ?_
        · go_simp; exact vp_alloc rfl rfl rfl
        refine Seg.sa ?_
        refine Seg.sq ?_
        refine Seg.stop (fun U1 hU hk => ?_)
        have nb0 := hge 0 _ _ rfl
        have rb0 := (hk 0 _ _ rfl trivial).1.2 (by simp)
        clear hk hge hne
        generalize th (0 + 0) = p0_0 at *
        dsimp only at rb0
        have r_p0_0 := rb0
        clear rb0
        have n_p0_0 := nb0
        clear nb0
        have sz1 := hU.size
        have hB : Below w.heap.size w U1 := hU
        clear hU
        have nP : w.heap.size ≤ p0_0 := n_p0_0
        replace hB := hid hB
        have rn := hid r_p0_0
        clear r_p0_0
        go_wp2_with fail
        refine (kC.out _).mono ?_
        rintro e V1 ⟨rfl, hA⟩
        replace hB := hid (bthen hB.out hA)
        replace rn := hid (held_after hA rn.out)
        clear hA
        have nw := alloc_new V1 (.cells #[.int .i64 wd, .int .i64 fa, .string SN, .string SB] 110)
        have hA := nw.2.1
        have rc := nw.2.2
        clear nw
        go_upto_region 4 with (fail)
        obtain ⟨V2, hV2⟩ : ∃ X, V1.alloc (.cells #[.int .i64 wd, .int .i64 fa, .string SN, .string SB] 110) = X := ⟨_, rfl⟩
        rw [hV2] at hA rc ⊢
        obtain ⟨qc, hqc⟩ : ∃ X, V1.heap.size = X := ⟨_, rfl⟩
        rw [hqc] at rc ⊢
        replace hV2 := hid hV2
        replace hqc := hid hqc
        replace hB := hid (bthen hB.out hA)
        replace rn := hid (held_after hA rn.out)
        replace rc := hid rc
        clear hA
        have y0 := held_cell rc.out 0 _ rfl
        have y1 := held_cell rc.out 1 _ rfl
        have y2 := held_cell rc.out 2 _ rfl
        have y3 := held_cell rc.out 3 _ rfl
        go_wp2_with fail
        refine (kF.out _).mono ?_
        rintro e V3 ⟨rfl, hA⟩
        replace hB := hid (bthen hB.out hA)
        replace rn := hid (held_after hA rn.out)
        replace rc := hid (held_after hA rc.out)
        clear hA y0 y1 y2 y3
        have y0 := held_cell rc.out 0 _ rfl
        have y1 := held_cell rc.out 1 _ rfl
        have y2 := held_cell rc.out 2 _ rfl
        have y3 := held_cell rc.out 3 _ rfl
        have z0 := held_cell rn.out 0 _ rfl
        have z1 := held_cell rn.out 1 _ rfl
        have g0 := held_free rn.out 0
        have g1 := held_free rn.out 1
        obtain ⟨W9, hW9, ya, yO⟩ := st2 rn.out (.bool false) (.int .i64 0)
        replace hB := hid (belowS hB.out yO nP)
        have ez0 := held_cell ya 0 _ rfl
        have ez1 := held_cell ya 1 _ rfl
        clear yO ya
        go_wp2_with fail
        have hD9 := hD.out
        subst hD9
        refine bodyPost_ret (v := .tuple #[.agg #[.bool false, .int .i64 0], .int .i64 5]) (by simp [results, Tryz.results92, go_sem, ez0, ez1]) rfl ⟨rfl, hB.out⟩
    have m2 : ¬ ((6000000 : Int) ≤ mm) := by omega
    by_cases l1 : fa < X
    case pos =>
      rw [if_pos (.inr l1)] at hD
      have l2 : (fa : Int) < X := by omega
      clear hf9 hX
      obtain ⟨e1, e2, v1, v2, v3, v4, v5⟩ := hW.out
      clear hW
      rcases hE with hE1 | ⟨hE1, hE2⟩
      · replace hD := hid hD
        go_enter Tryz.func92, Tryz.ntmps92
        go_upto_region 0 with (fail)
        apply wp_region_seg0 (w := w) (S := [.al 1000, .q []]) (E := [.al ((fun p => .pointer (some ⟨p, 0, none⟩)), _) 1000, .q0 _]) rfl (by kernel_rfl) rfl rfl
        intro th hge hne
        refine Seg.step _ rfl ⟨by rfl, fun U hU => ?_⟩ ?_
        · go_simp; exact vp_alloc rfl rfl rfl
        refine Seg.sa ?_
        refine Seg.sq ?_
        refine Seg.stop (fun U1 hU hk => ?_)
        have nb0 := hge 0 _ _ rfl
        have rb0 := (hk 0 _ _ rfl trivial).1.2 (by simp)
        clear hk hge hne
        generalize th (0 + 0) = p0_0 at *
        dsimp only at rb0
        have r_p0_0 := rb0
        clear rb0
        have n_p0_0 := nb0
        clear nb0
        have sz1 := hU.size
        have hB : Below w.heap.size w U1 := hU
        clear hU
        have nP : w.heap.size ≤ p0_0 := n_p0_0
        replace hB := hid hB
        have rn := hid r_p0_0
        clear r_p0_0
        go_wp2_with fail
        refine (kC.out _).mono ?_
        rintro e V1 ⟨rfl, hA⟩
        replace hB := hid (bthen hB.out hA)
        replace rn := hid (held_after hA rn.out)
        clear hA
        have nw := alloc_new V1 (.cells #[.int .i64 wd, .int .i64 fa, .string SN, .string SB] 110)
        have hA := nw.2.1
        have rc := nw.2.2
        clear nw
        go_upto_region 4 with (fail)
        obtain ⟨V2, hV2⟩ : ∃ X, V1.alloc (.cells #[.int .i64 wd, .int .i64 fa, .string SN, .string SB] 110) = X := ⟨_, rfl⟩
        rw [hV2] at hA rc ⊢
        obtain ⟨qc, hqc⟩ : ∃ X, V1.heap.size = X := ⟨_, rfl⟩
        rw [hqc] at rc ⊢
        replace hV2 := hid hV2
        replace hqc := hid hqc
        replace hB := hid (bthen hB.out hA)
        replace rn := hid (held_after hA rn.out)
        replace rc := hid rc
        clear hA
        have y0 := held_cell rc.out 0 _ rfl
        have y1 := held_cell rc.out 1 _ rfl
        have y2 := held_cell rc.out 2 _ rfl
        have y3 := held_cell rc.out 3 _ rfl
        go_wp2_with fail
        refine (kF.out _).mono ?_
        rintro e V3 ⟨rfl, hA⟩
        replace hB := hid (bthen hB.out hA)
        replace rn := hid (held_after hA rn.out)
        replace rc := hid (held_after hA rc.out)
        clear hA y0 y1 y2 y3
        have y0 := held_cell rc.out 0 _ rfl
        have y1 := held_cell rc.out 1 _ rfl
        have y2 := held_cell rc.out 2 _ rfl
        have y3 := held_cell rc.out 3 _ rfl
        have z0 := held_cell rn.out 0 _ rfl
        have z1 := held_cell rn.out 1 _ rfl
        have g0 := held_free rn.out 0
        have g1 := held_free rn.out 1
        obtain ⟨W9, hW9, ya, yO⟩ := st2 rn.out (.bool false) (.int .i64 0)
        replace hB := hid (belowS hB.out yO nP)
        have ez0 := held_cell ya 0 _ rfl
        have ez1 := held_cell ya 1 _ rfl
        clear yO ya
        go_wp2_with fail
        have hD9 := hD.out
        subst hD9
        refine bodyPost_ret (v := .tuple #[.agg #[.bool false, .int .i64 0], .int .i64 5]) (by simp [results, Tryz.results92, go_sem, ez0, ez1]) rfl ⟨rfl, hB.out⟩
      · replace hD := hid hD
        go_enter Tryz.func92, Tryz.ntmps92
        go_upto_region 0 with (fail)
        apply wp_region_seg0 (w := w) (S := [.al 1000, .q []]) (E := [.al ((fun p => .pointer (some ⟨p, 0, none⟩)), _) 1000, .q0 _]) rfl (by kernel_rfl) rfl rfl
        intro th hge hne
        refine Seg.step _ rfl ⟨by rfl, fun U hU => ?_⟩ ?_
        · go_simp; exact vp_alloc rfl rfl rfl
        refine Seg.sa ?_
        refine Seg.sq ?_
        refine Seg.stop (fun U1 hU hk => ?_)
        have nb0 := hge 0 _ _ rfl
        have rb0 := (hk 0 _ _ rfl trivial).1.2 (by simp)
        clear hk hge hne
        generalize th (0 + 0) = p0_0 at *
        dsimp only at rb0
        have r_p0_0 := rb0
        clear rb0
        have n_p0_0 := nb0
        clear nb0
        have sz1 := hU.size
        have hB : Below w.heap.size w U1 := hU
        clear hU
        have nP : w.heap.size ≤ p0_0 := n_p0_0
        replace hB := hid hB
        have rn := hid r_p0_0
        clear r_p0_0
        go_wp2_with fail
        refine (kC.out _).mono ?_
        rintro e V1 ⟨rfl, hA⟩
        replace hB := hid (bthen hB.out hA)
        replace rn := hid (held_after hA rn.out)
        clear hA
        have nw := alloc_new V1 (.cells #[.int .i64 wd, .int .i64 fa, .string SN, .string SB] 110)
        have hA := nw.2.1
        have rc := nw.2.2
        clear nw
        go_upto_region 4 with (fail)
        obtain ⟨V2, hV2⟩ : ∃ X, V1.alloc (.cells #[.int .i64 wd, .int .i64 fa, .string SN, .string SB] 110) = X := ⟨_, rfl⟩
        rw [hV2] at hA rc ⊢
        obtain ⟨qc, hqc⟩ : ∃ X, V1.heap.size = X := ⟨_, rfl⟩
        rw [hqc] at rc ⊢
        replace hV2 := hid hV2
        replace hqc := hid hqc
        replace hB := hid (bthen hB.out hA)
        replace rn := hid (held_after hA rn.out)
        replace rc := hid rc
        clear hA
        have y0 := held_cell rc.out 0 _ rfl
        have y1 := held_cell rc.out 1 _ rfl
        have y2 := held_cell rc.out 2 _ rfl
        have y3 := held_cell rc.out 3 _ rfl
        go_wp2_with fail
        refine (kF.out _).mono ?_
        rintro e V3 ⟨rfl, hA⟩
        replace hB := hid (bthen hB.out hA)
        replace rn := hid (held_after hA rn.out)
        replace rc := hid (held_after hA rc.out)
        clear hA y0 y1 y2 y3
        have y0 := held_cell rc.out 0 _ rfl
        have y1 := held_cell rc.out 1 _ rfl
        have y2 := held_cell rc.out 2 _ rfl
        have y3 := held_cell rc.out 3 _ rfl
        have z0 := held_cell rn.out 0 _ rfl
        have z1 := held_cell rn.out 1 _ rfl
        have g0 := held_free rn.out 0
        have g1 := held_free rn.out 1
        obtain ⟨W9, hW9, ya, yO⟩ := st2 rn.out (.bool false) (.int .i64 0)
        replace hB := hid (belowS hB.out yO nP)
        have ez0 := held_cell ya 0 _ rfl
        have ez1 := held_cell ya 1 _ rfl
        clear yO ya
        go_wp2_with fail
        have hD9 := hD.out
        subst hD9
        refine bodyPost_ret (v := .tuple #[.agg #[.bool false, .int .i64 0], .int .i64 5]) (by simp [results, Tryz.results92, go_sem, ez0, ez1]) rfl ⟨rfl, hB.out⟩
    have l2 : ¬ ((fa : Int) < X) := by omega
    rw [if_neg (by omega)] at hD
    clear hf9 hX
    obtain ⟨e1, e2, v1, v2, v3, v4, v5⟩ := hW.out
    clear hW
    have l7 := hid (show decide (fa < X) = false from decide_eq_false l1)
    have m7 := hid (show decide (6000000 ≤ mm) = false from decide_eq_false m1)
    have l9 := hid (show decide ((fa : Int) < X) = false from decide_eq_false l2)
    have m9 := hid (show decide ((6000000 : Int) ≤ mm) = false from decide_eq_false m2)
    clear l1 l2 m1 m2
    rcases hE with hE1 | ⟨hE1, hE2⟩
    · replace hD := hid hD
      go_enter Tryz.func92, Tryz.ntmps92
      go_upto_region 0 with (fail)
      apply wp_region_seg0 (w := w) (S := [.al 1000, .q []]) (E := [.al ((fun p => .pointer (some ⟨p, 0, none⟩)), _) 1000, .q0 _]) rfl (by kernel_rfl) rfl rfl
      intro th hge hne
      refine Seg.step _ rfl ⟨by rfl, fun U hU => ?_⟩ ?_
      · go_simp; exact vp_alloc rfl rfl rfl
      refine Seg.sa ?_
      refine Seg.sq ?_
      refine Seg.stop (fun U1 hU hk => ?_)
      have nb0 := hge 0 _ _ rfl
      have rb0 := (hk 0 _ _ rfl trivial).1.2 (by simp)
      clear hk hge hne
      generalize th (0 + 0) = p0_0 at *
      dsimp only at rb0
      have r_p0_0 := rb0
      clear rb0
      have n_p0_0 := nb0
      clear nb0
      have sz1 := hU.size
      have hB : Below w.heap.size w U1 := hU
      clear hU
      have nP : w.heap.size ≤ p0_0 := n_p0_0
      replace hB := hid hB
      have rn := hid r_p0_0
      clear r_p0_0
      go_wp2_with fail
      refine (kC.out _).mono ?_
      rintro e V1 ⟨rfl, hA⟩
      replace hB := hid (bthen hB.out hA)
      replace rn := hid (held_after hA rn.out)
      clear hA
      have nw := alloc_new V1 (.cells #[.int .i64 wd, .int .i64 fa, .string SN, .string SB] 110)
      have hA := nw.2.1
      have rc := nw.2.2
      clear nw
      go_upto_region 4 with (fail)
      obtain ⟨V2, hV2⟩ : ∃ X, V1.alloc (.cells #[.int .i64 wd, .int .i64 fa, .string SN, .string SB] 110) = X := ⟨_, rfl⟩
      rw [hV2] at hA rc ⊢
      obtain ⟨qc, hqc⟩ : ∃ X, V1.heap.size = X := ⟨_, rfl⟩
      rw [hqc] at rc ⊢
      replace hV2 := hid hV2
      replace hqc := hid hqc
      replace hB := hid (bthen hB.out hA)
      replace rn := hid (held_after hA rn.out)
      replace rc := hid rc
      clear hA
      have y0 := held_cell rc.out 0 _ rfl
      have y1 := held_cell rc.out 1 _ rfl
      have y2 := held_cell rc.out 2 _ rfl
      have y3 := held_cell rc.out 3 _ rfl
      go_wp2_with fail
      refine (kF.out _).mono ?_
      rintro e V3 ⟨rfl, hA⟩
      replace hB := hid (bthen hB.out hA)
      replace rn := hid (held_after hA rn.out)
      replace rc := hid (held_after hA rc.out)
      clear hA y0 y1 y2 y3
      have y0 := held_cell rc.out 0 _ rfl
      have y1 := held_cell rc.out 1 _ rfl
      have y2 := held_cell rc.out 2 _ rfl
      have y3 := held_cell rc.out 3 _ rfl
      have l8 := l9.out
      have m8 := m9.out
      have l6 := l7.out
      have m6 := m7.out
      have z0 := held_cell rn.out 0 _ rfl
      have z1 := held_cell rn.out 1 _ rfl
      have g0 := held_free rn.out 0
      have g1 := held_free rn.out 1
      obtain ⟨W9, hW9, ya, yO⟩ := st2 rn.out (.bool true) (.int .i64 (X : Int))
      replace hB := hid (belowS hB.out yO nP)
      have ez0 := held_cell ya 0 _ rfl
      have ez1 := held_cell ya 1 _ rfl
      clear yO ya
      go_wp2_with fail
      have hD9 := hD.out
      subst hD9
      refine bodyPost_ret (v := .tuple #[.agg #[.bool true, .int .i64 (X : Int)], .int .i64 0]) (by simp [results, Tryz.results92, go_sem, ez0, ez1]) rfl ⟨rfl, hB.out⟩
    · replace hD := hid hD
      go_enter Tryz.func92, Tryz.ntmps92
      go_upto_region 0 with (fail)
      apply wp_region_seg0 (w := w) (S := [.al 1000, .q []]) (E := [.al ((fun p => .pointer (some ⟨p, 0, none⟩)), _) 1000, .q0 _]) rfl (by kernel_rfl) rfl rfl
      intro th hge hne
      refine Seg.step _ rfl ⟨by rfl, fun U hU => ?_⟩ ?_
      · go_simp; exact vp_alloc rfl rfl rfl
      refine Seg.sa ?_
      refine Seg.sq ?_
      refine Seg.stop (fun U1 hU hk => ?_)
      have nb0 := hge 0 _ _ rfl
      have rb0 := (hk 0 _ _ rfl trivial).1.2 (by simp)
      clear hk hge hne
      generalize th (0 + 0) = p0_0 at *
      dsimp only at rb0
      have r_p0_0 := rb0
      clear rb0
      have n_p0_0 := nb0
      clear nb0
      have sz1 := hU.size
      have hB : Below w.heap.size w U1 := hU
      clear hU
      have nP : w.heap.size ≤ p0_0 := n_p0_0
      replace hB := hid hB
      have rn := hid r_p0_0
      clear r_p0_0
      go_wp2_with fail
      refine (kC.out _).mono ?_
      rintro e V1 ⟨rfl, hA⟩
      replace hB := hid (bthen hB.out hA)
      replace rn := hid (held_after hA rn.out)
      clear hA
      have nw := alloc_new V1 (.cells #[.int .i64 wd, .int .i64 fa, .string SN, .string SB] 110)
      have hA := nw.2.1
      have rc := nw.2.2
      clear nw
      go_upto_region 4 with (fail)
      obtain ⟨V2, hV2⟩ : ∃ X, V1.alloc (.cells #[.int .i64 wd, .int .i64 fa, .string SN, .string SB] 110) = X := ⟨_, rfl⟩
      rw [hV2] at hA rc ⊢
      obtain ⟨qc, hqc⟩ : ∃ X, V1.heap.size = X := ⟨_, rfl⟩
      rw [hqc] at rc ⊢
      replace hV2 := hid hV2
      replace hqc := hid hqc
      replace hB := hid (bthen hB.out hA)
      replace rn := hid (held_after hA rn.out)
      replace rc := hid rc
      clear hA
      have y0 := held_cell rc.out 0 _ rfl
      have y1 := held_cell rc.out 1 _ rfl
      have y2 := held_cell rc.out 2 _ rfl
      have y3 := held_cell rc.out 3 _ rfl
      go_wp2_with fail
      refine (kF.out _).mono ?_
      rintro e V3 ⟨rfl, hA⟩
      replace hB := hid (bthen hB.out hA)
      replace rn := hid (held_after hA rn.out)
      replace rc := hid (held_after hA rc.out)
      clear hA y0 y1 y2 y3
      have y0 := held_cell rc.out 0 _ rfl
      have y1 := held_cell rc.out 1 _ rfl
      have y2 := held_cell rc.out 2 _ rfl
      have y3 := held_cell rc.out 3 _ rfl
      have l8 := l9.out
      have m8 := m9.out
      have l6 := l7.out
      have m6 := m7.out
      have z0 := held_cell rn.out 0 _ rfl
      have z1 := held_cell rn.out 1 _ rfl
      have g0 := held_free rn.out 0
      have g1 := held_free rn.out 1
      obtain ⟨W9, hW9, ya, yO⟩ := st2 rn.out (.bool true) (.int .i64 (X : Int))
      replace hB := hid (belowS hB.out yO nP)
      have ez0 := held_cell ya 0 _ rfl
      have ez1 := held_cell ya 1 _ rfl
      clear yO ya
      go_wp2_with fail
      have hD9 := hD.out
      subst hD9
      refine bodyPost_ret (v := .tuple #[.agg #[.bool true, .int .i64 (X : Int)], .int .i64 0]) (by simp [results, Tryz.results92, go_sem, ez0, ez1]) rfl ⟨rfl, hB.out⟩

end Go.Proofs.YthnoomdhgbaecaaGreatDoor
