/- Package decim: the papers' Angle. -/
import Derived.Test.YthnoomdhgbaecaaGreatDoorDec10
import Derived.Deep.DeepCutAuto
namespace Go.Proofs.YthnoomdhgbaecaaGreatDoor

open Go.ChangeShapes Go.WideShapes Go.ChangeAt Go.RowKit

set_option linter.unusedVariables false

set_option linter.unusedSimpArgs false

set_option maxRecDepth 100000 in
set_option maxHeartbeats 8000000 in
theorem rangle_any (is : Bool) (n : Int) (lat : Bool) (w : World) (hb : (-9223372036854775808 ≤ n ∧ n ≤ 9223372036854775807)) : Calls Tryz.prog 82 #[.agg #[.bool is, .int .i64 n], .bool lat] w fun e w' => e = .returned (.tuple #[.string (nb (angD is n lat).1), .string (nb (angD is n lat).2.1), .int .i64 (angD is n lat).2.2]) ∧ After w w' := by
  have hto := sides_to lat
  have hfr := sides_from lat
  have kC := hid (fun U => rsides_any lat U)
  have kA := hid (fun U => rfarA_any lat U)
  obtain ⟨SS, hSS⟩ : ∃ S, nb [sideA lat false, sideA lat true] = S := ⟨_, rfl⟩
  rw [hSS] at hto hfr kC
  have kss : SS.size = 2 := by rw [← hSS, nb_size]; rfl
  obtain ⟨SN, hSN⟩ : ∃ S, nb [sideA lat false] = S := ⟨_, rfl⟩
  obtain ⟨SB, hSB⟩ : ∃ S, nb [sideA lat true] = S := ⟨_, rfl⟩
  rw [hSN] at hto
  rw [hSB] at hfr
  have kto := fun U => hto ▸ tto (P := Tryz.prog) 9 Tryz.underlying9 SS 1 (by omega) .i64 1 rfl U
  have kfr := fun U => hfr ▸ tfrom (P := Tryz.prog) 9 Tryz.underlying9 SS 1 (by omega) .i64 1 rfl U
  replace hSN := hid hSN
  replace hSB := hid hSB
  clear hSS hto hfr kss
  obtain ⟨fa, hfa⟩ : ∃ f, farA lat = f := ⟨_, rfl⟩
  have hf9 : fa = 540000000 ∨ fa = 1080000000 := by rw [← hfa]; unfold farA; split <;> simp
  rw [hfa] at kA
  obtain ⟨wd, hwd⟩ : ∃ f, wideA lat = f := ⟨_, rfl⟩
  have hw9 : (lat = true ∧ wd = 2) ∨ (lat = false ∧ wd = 3) := by rw [← hwd]; unfold wideA; cases lat <;> simp
  obtain ⟨D, hD⟩ : ∃ D, angD is n lat = D := ⟨_, rfl⟩
  rw [hD]
  have hD2 : D = (if missE is n (-(fa : Int)) fa ≠ 0 then ([], [], 5) else if is = false then ([], [], 0) else (angV n.natAbs lat, [sideA lat (decide (n < 0))], 0)) := by rw [← hD]; unfold angD; rw [hfa]
  clear hD hfa
  have wf : IntKind.i64.wrap (-(fa : Int)) = -(fa : Int) := by rw [IntKind.wrap_i64] <;> omega
  by_cases hm : missE is n (-(fa : Int)) fa = 0
  case neg =>
    rw [if_pos hm] at hD2
    cases is
    · have hn : ¬ n = 0 := by
        intro h; apply hm; unfold missE; rw [if_neg]; rintro (⟨_, h2⟩ | ⟨h2, _⟩)
        · exact h2 h
        · cases h2
      clear hm
      have n1 : (n != 0) = true := by simpa using hn
      have n2 : decide (n = 0) = false := decide_eq_false hn
      go_enter Tryz.func82, Tryz.ntmps82
      go_upto_region 0 with (fail)
      apply wp_region_seg0 (w := w) (S := [.al 1000, .q [], .q [], .q []]) (E := [.al ((fun p => .pointer (some ⟨p, 0, none⟩)), _) 1000, .q0 _, .q0 _, .q0 _]) rfl (by kernel_rfl) rfl rfl
      intro th hge hne
      refine Seg.step _ rfl ⟨by rfl, fun U hU => ?_⟩ ?_
      · go_simp; exact vp_alloc rfl rfl rfl
      refine Seg.sa ?_
      iterate 3 refine Seg.sq ?_
      refine Seg.stop (fun U1 hU hk => ?_)
      have nb0 := hge 0 _ _ rfl
      have rb0 := (hk 0 _ _ rfl trivial).1.2 (by simp)
      clear hk hge hne
      generalize th (0 + 0) = p0_0 at *
      dsimp only at rb0
      have r_p0_0 := rb0
      clear rb0
      have n_p0_0 := nb0
      clear nb0
      have sz1 := hU.size
      have hB : Below w.heap.size w U1 := hU
      clear hU
      have rn := r_p0_0
      replace rn := hid rn
      go_upto_region 1 with (fail)
      apply wp_region_seg (w := U1) (S := [.q [], .q [], .q [], .q [], .q [], .q [], .q [], .q [], .q [], .q [], .q [], .q [], .q [], .q [], .q [], .q [], .q [], .q [], .q [], .q [], .q [], .q [], .q [], .q [], .q [], .q [], .q []]) (E := [.q0 _, .q0 _, .q0 _, .q0 _, .q0 _, .q0 _, .q0 _, .q0 _, .q0 _, .q0 _, .q0 _, .q0 _, .q0 _, .q0 _, .q0 _, .c0 _, .q0 _, .q0 _, .q0 _, .q0 _, .q0 _, .c0 _, .q0 _, .q0 _, .q0 _, .q0 _, .q0 _]) (by kernel_rfl) rfl (by kernel_rfl) rfl rfl
      intro th hge hne
      refine Seg.sq ?_
      refine Seg.sq ?_ (ht := Or.inl ⟨by rfl, fun U hU => vp_quiet (by (have h0 := held_cell (held_after hU.1 rn.out) 0 _ rfl; go_simp <;> exact rfl))⟩)
      iterate 3 refine Seg.sq ?_
      refine Seg.sq ?_ (ht := Or.inl ⟨by rfl, fun U hU => vp_quiet (by (have h0 := held_cell (held_after hU.1 rn.out) 1 _ rfl; go_simp <;> exact rfl))⟩)
      iterate 3 refine Seg.sq ?_
      refine Seg.sq ?_ (ht := Or.inr ⟨by rfl, rfl⟩)
      refine Seg.sq ?_ (ht := Or.inr ⟨by rfl, rfl⟩)
      refine Seg.sq ?_ (ht := Or.inr ⟨by rfl, rfl⟩)
      refine Seg.sq ?_ (ht := Or.inr ⟨by rfl, rfl⟩)
      refine Seg.sq ?_ (ht := Or.inr ⟨by rfl, rfl⟩)
      refine Seg.sq ?_ (ht := Or.inr ⟨by rfl, rfl⟩)
      refine Seg.sq ?_ (ht := Or.inr ⟨by rfl, rfl⟩)
      refine Seg.sq ?_ (ht := Or.inr ⟨by rfl, rfl⟩)
      refine Seg.sq ?_ (ht := Or.inr ⟨by rfl, rfl⟩)
      refine Seg.sq ?_ (ht := Or.inr ⟨by rfl, rfl⟩)
      refine Seg.sq ?_ (ht := Or.inr ⟨by rfl, rfl⟩)
      refine Seg.sq ?_ (ht := Or.inr ⟨by rfl, rfl⟩)
      refine Seg.sq ?_ (ht := Or.inr ⟨by rfl, rfl⟩)
      refine Seg.sq ?_ (ht := Or.inr ⟨by rfl, rfl⟩)
      refine Seg.sq ?_ (ht := Or.inr ⟨by rfl, rfl⟩)
      refine Seg.sq ?_ (ht := Or.inr ⟨by rfl, rfl⟩)
      refine Seg.sq ?_ (ht := Or.inr ⟨by rfl, rfl⟩)
      refine Seg.sq ?_
      refine Seg.stop (fun U2 hU hk => ?_)
      clear hk hge hne
      replace r_p0_0 := held_after hU r_p0_0
      have sz2 := hU.size
      replace hB := bthen hB hU
      replace rn := hid (held_after hU rn.out)
      replace hB := hid hB
      have x0 := held_cell rn.out 0 _ rfl
      have x1 := held_cell rn.out 1 _ rfl
      go_wp2_with fail
      subst hD2
      refine bodyPost_ret (v := .tuple #[.string ⟨#[]⟩, .string ⟨#[]⟩, .int .i64 5]) (by simp [results, Tryz.results82, go_sem]) rfl ⟨rfl, hB.out⟩
    have hn : (fa : Int) < n ∨ (¬ (fa : Int) < n ∧ n < -(fa : Int)) := by
      refine Decidable.byContradiction fun h => hm ?_
      unfold missE; rw [if_neg]; rintro (⟨h2, _⟩ | ⟨_, h2⟩)
      · cases h2
      · omega
    clear hm
    rcases hn with hn | ⟨hn, hn2⟩
    · go_enter Tryz.func82, Tryz.ntmps82
      go_upto_region 0 with (fail)
      apply wp_region_seg0 (w := w) (S := [.al 1000, .q [], .q [], .q []]) (E := [.al ((fun p => .pointer (some ⟨p, 0, none⟩)), _) 1000, .q0 _, .q0 _, .q0 _]) rfl (by kernel_rfl) rfl rfl
      intro th hge hne
      refine Seg.step _ rfl ⟨by rfl, fun U hU => ?_⟩ ?_
      · go_simp; exact vp_alloc rfl rfl rfl
      refine Seg.sa ?_
      iterate 3 refine Seg.sq ?_
      refine Seg.stop (fun U1 hU hk => ?_)
      have nb0 := hge 0 _ _ rfl
      have rb0 := (hk 0 _ _ rfl trivial).1.2 (by simp)
      clear hk hge hne
      generalize th (0 + 0) = p0_0 at *
      dsimp only at rb0
      have r_p0_0 := rb0
      clear rb0
      have n_p0_0 := nb0
      clear nb0
      have sz1 := hU.size
      have hB : Below w.heap.size w U1 := hU
      clear hU
      have rn := r_p0_0
      replace rn := hid rn
      go_upto_region 1 with (fail)
      apply wp_region_seg (w := U1) (S := [.q [], .q [], .q [], .q [], .q [], .q [], .q [], .q [], .q [], .q [], .q [], .q [], .q [], .q [], .q [], .q [], .q [], .q [], .q [], .q [], .q [], .q [], .q [], .q [], .q [], .q [], .q []]) (E := [.q0 _, .q0 _, .q0 _, .q0 _, .q0 _, .q0 _, .q0 _, .q0 _, .q0 _, .q0 _, .q0 _, .q0 _, .q0 _, .q0 _, .q0 _, .c0 _, .q0 _, .q0 _, .q0 _, .q0 _, .q0 _, .c0 _, .q0 _, .q0 _, .q0 _, .q0 _, .q0 _]) (by kernel_rfl) rfl (by kernel_rfl) rfl rfl
      intro th hge hne
      refine Seg.sq ?_
      refine Seg.sq ?_ (ht := Or.inl ⟨by rfl, fun U hU => vp_quiet (by (have h0 := held_cell (held_after hU.1 rn.out) 0 _ rfl; go_simp <;> exact rfl))⟩)
      refine Seg.sq ?_
      refine Seg.sq ?_
      refine Seg.sq ?_ (ht := Or.inr ⟨by rfl, rfl⟩)
      refine Seg.sq ?_ (ht := Or.inr ⟨by rfl, rfl⟩)
      refine Seg.sq ?_ (ht := Or.inr ⟨by rfl, rfl⟩)
      iterate 3 refine Seg.sq ?_
      refine Seg.sq ?_ (ht := Or.inl ⟨by rfl, fun U hU => vp_quiet (by (have h0 := held_cell (held_after hU.1 rn.out) 0 _ rfl; go_simp <;> exact rfl))⟩)
      refine Seg.sq ?_
      refine Seg.sq ?_
      refine Seg.sq ?_ (ht := Or.inl ⟨by rfl, fun U hU => vp_quiet (by (have h0 := held_cell (held_after hU.1 rn.out) 1 _ rfl; go_simp <;> exact rfl))⟩)
      refine Seg.sq ?_
      refine Seg.step _ rfl (Or.inl ⟨by rfl, fun U hU => ?_⟩) ?_
      · go_simp
        refine vp_calls (kA.out _)
      refine Seg.sa ?_
      refine Seg.sq ?_
      refine Seg.sq ?_
      refine Seg.sq ?_ (ht := Or.inr ⟨by rfl, rfl⟩)
      refine Seg.sq ?_ (ht := Or.inr ⟨by rfl, rfl⟩)
      refine Seg.sq ?_ (ht := Or.inr ⟨by rfl, rfl⟩)
      refine Seg.sq ?_ (ht := Or.inr ⟨by rfl, rfl⟩)
      refine Seg.sq ?_ (ht := Or.inr ⟨by rfl, rfl⟩)
      refine Seg.sq ?_ (ht := Or.inr ⟨by rfl, rfl⟩)
      iterate 3 refine Seg.sq ?_
      refine Seg.stop (fun U2 hU hk => ?_)
      clear hk hge hne
      replace r_p0_0 := held_after hU r_p0_0
      have sz2 := hU.size
      replace hB := bthen hB hU
      replace rn := hid (held_after hU rn.out)
      replace hB := hid hB
      have x0 := held_cell rn.out 0 _ rfl
      have x1 := held_cell rn.out 1 _ rfl
      go_wp2_with fail
      subst hD2
      refine bodyPost_ret (v := .tuple #[.string ⟨#[]⟩, .string ⟨#[]⟩, .int .i64 5]) (by simp [results, Tryz.results82, go_sem]) rfl ⟨rfl, hB.out⟩
    · go_enter Tryz.func82, Tryz.ntmps82
      go_upto_region 0 with (fail)
      apply wp_region_seg0 (w := w) (S := [.al 1000, .q [], .q [], .q []]) (E := [.al ((fun p => .pointer (some ⟨p, 0, none⟩)), _) 1000, .q0 _, .q0 _, .q0 _]) rfl (by kernel_rfl) rfl rfl
      intro th hge hne
      refine Seg.step _ rfl ⟨by rfl, fun U hU => ?_⟩ ?_
      · go_simp; exact vp_alloc rfl rfl rfl
      refine Seg.sa ?_
      iterate 3 refine Seg.sq ?_
      refine Seg.stop (fun U1 hU hk => ?_)
      have nb0 := hge 0 _ _ rfl
      have rb0 := (hk 0 _ _ rfl trivial).1.2 (by simp)
      clear hk hge hne
      generalize th (0 + 0) = p0_0 at *
      dsimp only at rb0
      have r_p0_0 := rb0
      clear rb0
      have n_p0_0 := nb0
      clear nb0
      have sz1 := hU.size
      have hB : Below w.heap.size w U1 := hU
      clear hU
      have rn := r_p0_0
      replace rn := hid rn
      go_upto_region 1 with (fail)
      apply wp_region_seg (w := U1) (S := [.q [], .q [], .q [], .q [], .q [], .q [], .q [], .q [], .q [], .q [], .q [], .q [], .q [], .q [], .q [], .q [], .q [], .q [], .q [], .q [], .q [], .q [], .q [], .q [], .q [], .q [], .q []]) (E := [.q0 _, .q0 _, .q0 _, .q0 _, .q0 _, .q0 _, .q0 _, .q0 _, .q0 _, .q0 _, .q0 _, .q0 _, .q0 _, .q0 _, .q0 _, .c0 _, .q0 _, .q0 _, .q0 _, .q0 _, .q0 _, .c0 _, .q0 _, .q0 _, .q0 _, .q0 _, .q0 _]) (by kernel_rfl) rfl (by kernel_rfl) rfl rfl
      intro th hge hne
      refine Seg.sq ?_
      refine Seg.sq ?_ (ht := Or.inl ⟨by rfl, fun U hU => vp_quiet (by (have h0 := held_cell (held_after hU.1 rn.out) 0 _ rfl; go_simp <;> exact rfl))⟩)
      refine Seg.sq ?_
      refine Seg.sq ?_
      refine Seg.sq ?_ (ht := Or.inr ⟨by rfl, rfl⟩)
      refine Seg.sq ?_ (ht := Or.inr ⟨by rfl, rfl⟩)
      refine Seg.sq ?_ (ht := Or.inr ⟨by rfl, rfl⟩)
      iterate 3 refine Seg.sq ?_
      refine Seg.sq ?_ (ht := Or.inl ⟨by rfl, fun U hU => vp_quiet (by (have h0 := held_cell (held_after hU.1 rn.out) 0 _ rfl; go_simp <;> exact rfl))⟩)
      refine Seg.sq ?_
      refine Seg.sq ?_
      refine Seg.sq ?_ (ht := Or.inl ⟨by rfl, fun U hU => vp_quiet (by (have h0 := held_cell (held_after hU.1 rn.out) 1 _ rfl; go_simp <;> exact rfl))⟩)
      refine Seg.sq ?_
      refine Seg.step _ rfl (Or.inl ⟨by rfl, fun U hU => ?_⟩) ?_
      · go_simp
        refine vp_calls (kA.out _)
      refine Seg.sa ?_
      iterate 3 refine Seg.sq ?_
      refine Seg.sq ?_ (ht := Or.inl ⟨by rfl, fun U hU => vp_quiet (by (have h0 := held_cell (held_after hU.1 rn.out) 1 _ rfl; go_simp <;> exact rfl))⟩)
      refine Seg.sq ?_
      refine Seg.step _ rfl (Or.inl ⟨by rfl, fun U hU => ?_⟩) ?_
      · go_simp
        refine vp_calls (kA.out _)
      refine Seg.sa ?_
      iterate 5 refine Seg.sq ?_
      refine Seg.stop (fun U2 hU hk => ?_)
      clear hk hge hne
      replace r_p0_0 := held_after hU r_p0_0
      have sz2 := hU.size
      replace hB := bthen hB hU
      replace rn := hid (held_after hU rn.out)
      replace hB := hid hB
      have x0 := held_cell rn.out 0 _ rfl
      have x1 := held_cell rn.out 1 _ rfl
      go_wp2_with fail
      subst hD2
      refine bodyPost_ret (v := .tuple #[.string ⟨#[]⟩, .string ⟨#[]⟩, .int .i64 5]) (by simp [results, Tryz.results82, go_sem]) rfl ⟨rfl, hB.out⟩
  rw [if_neg (by rw [hm]; simp)] at hD2
  cases is
  · rw [if_pos rfl] at hD2
    obtain rfl : n = 0 := by
      refine Decidable.byContradiction fun h => ?_
      unfold missE at hm; rw [if_pos (.inl ⟨rfl, h⟩)] at hm; exact absurd hm (by decide)
    clear hm
    go_enter Tryz.func82, Tryz.ntmps82
    go_upto_region 0 with (fail)
    apply wp_region_seg0 (w := w) (S := [.al 1000, .q [], .q [], .q []]) (E := [.al ((fun p => .pointer (some ⟨p, 0, none⟩)), _) 1000, .q0 _, .q0 _, .q0 _]) rfl (by kernel_rfl) rfl rfl
    intro th hge hne
    refine Seg.step _ rfl ⟨by rfl, fun U hU => ?_⟩ ?_
    · go_simp; exact vp_alloc rfl rfl rfl
    refine Seg.sa ?_
    iterate 3 refine Seg.sq ?_
    refine Seg.stop (fun U1 hU hk => ?_)
    have nb0 := hge 0 _ _ rfl
    have rb0 := (hk 0 _ _ rfl trivial).1.2 (by simp)
    clear hk hge hne
    generalize th (0 + 0) = p0_0 at *
    dsimp only at rb0
    have r_p0_0 := rb0
    clear rb0
    have n_p0_0 := nb0
    clear nb0
    have sz1 := hU.size
    have hB : Below w.heap.size w U1 := hU
    clear hU
    have rn := r_p0_0
    replace rn := hid rn
    go_upto_region 1 with (fail)
    apply wp_region_seg (w := U1) (S := [.q [], .q [], .q [], .q [], .q [], .q [], .q [], .q [], .q [], .q [], .q [], .q [], .q [], .q [], .q [], .q [], .q [], .q [], .q [], .q [], .q [], .q [], .q [], .q [], .q [], .q [], .q []]) (E := [.q0 _, .q0 _, .q0 _, .q0 _, .q0 _, .q0 _, .q0 _, .q0 _, .q0 _, .q0 _, .q0 _, .q0 _, .q0 _, .q0 _, .q0 _, .c0 _, .q0 _, .q0 _, .q0 _, .q0 _, .q0 _, .c0 _, .q0 _, .q0 _, .q0 _, .q0 _, .q0 _]) (by kernel_rfl) rfl (by kernel_rfl) rfl rfl
    intro th hge hne
    refine Seg.sq ?_
    refine Seg.sq ?_ (ht := Or.inl ⟨by rfl, fun U hU => vp_quiet (by (have h0 := held_cell (held_after hU.1 rn.out) 0 _ rfl; go_simp <;> exact rfl))⟩)
    iterate 3 refine Seg.sq ?_
    refine Seg.sq ?_ (ht := Or.inl ⟨by rfl, fun U hU => vp_quiet (by (have h0 := held_cell (held_after hU.1 rn.out) 1 _ rfl; go_simp <;> exact rfl))⟩)
    iterate 4 refine Seg.sq ?_
    refine Seg.sq ?_ (ht := Or.inl ⟨by rfl, fun U hU => vp_quiet (by (have h0 := held_cell (held_after hU.1 rn.out) 0 _ rfl; go_simp <;> exact rfl))⟩)
    refine Seg.sq ?_
    refine Seg.sq ?_ (ht := Or.inr ⟨by rfl, rfl⟩)
    refine Seg.sq ?_ (ht := Or.inr ⟨by rfl, rfl⟩)
    refine Seg.sq ?_ (ht := Or.inr ⟨by rfl, rfl⟩)
    refine Seg.sq ?_ (ht := Or.inr ⟨by rfl, rfl⟩)
    refine Seg.sq ?_ (ht := Or.inr ⟨by rfl, rfl⟩)
    refine Seg.sq ?_ (ht := Or.inr ⟨by rfl, rfl⟩)
    refine Seg.sq ?_ (ht := Or.inr ⟨by rfl, rfl⟩)
    refine Seg.sq ?_ (ht := Or.inr ⟨by rfl, rfl⟩)
    refine Seg.sq ?_ (ht := Or.inr ⟨by rfl, rfl⟩)
    refine Seg.sq ?_ (ht := Or.inr ⟨by rfl, rfl⟩)
    refine Seg.sq ?_ (ht := Or.inr ⟨by rfl, rfl⟩)
    refine Seg.sq ?_ (ht := Or.inr ⟨by rfl, rfl⟩)
    refine Seg.sq ?_ (ht := Or.inr ⟨by rfl, rfl⟩)
    refine Seg.sq ?_
    refine Seg.sq ?_
    refine Seg.stop (fun U2 hU hk => ?_)
    clear hk hge hne
    replace r_p0_0 := held_after hU r_p0_0
    have sz2 := hU.size
    replace hB := bthen hB hU
    replace rn := hid (held_after hU rn.out)
    replace hB := hid hB
    have x0 := held_cell rn.out 0 _ rfl
    have x1 := held_cell rn.out 1 _ rfl
    go_wp2_with fail
    subst hD2
    refine bodyPost_ret (v := .tuple #[.string ⟨#[]⟩, .string ⟨#[]⟩, .int .i64 0]) (by simp [results, Tryz.results82, go_sem]) rfl ⟨rfl, hB.out⟩
  rw [if_neg (by simp)] at hD2
  have hn : -(fa : Int) ≤ n ∧ n ≤ fa := by
    refine Decidable.byContradiction fun h => ?_
    unfold missE at hm; rw [if_pos (.inr ⟨rfl, by omega⟩)] at hm; exact absurd hm (by decide)
  clear hm
  have hw1 : 1 ≤ wd ∧ wd ≤ 3 := by omega
  obtain ⟨a, ha⟩ : ∃ a, n.natAbs = a := ⟨_, rfl⟩
  rw [ha] at hD2
  have hal : a ≤ 1080000000 := by omega
  have hn1 : ¬ ((fa : Int) < n) := by omega
  have hn2 : ¬ (n < -(fa : Int)) := by omega
  have kP1 := hid (fun U => rdigits_any (a / 6000000) wd U (by omega) (by omega) (by omega))
  have kP2 := hid (fun U => rdigits_any (a % 6000000 / 100000) 2 U (by omega) (by omega) (by omega))
  have kB := hid (fun U => rbehind_any (a % 6000000 % 100000) 5 U (by decide) (by omega))
  rw [show a % 6000000 % 100000 = a % 100000 by omega] at kB
  have hout : nb (angV a lat) = nb (digV (a / 6000000) wd) ++ nb (digV (a % 6000000 / 100000) 2) ++ nb (behV 5 (a % 100000)) := by unfold angV; rw [hwd, nb_app, nb_app]
  have s1 : (nb (digV (a / 6000000) wd)).size ≤ 20 := by rw [nb_size, digV_len]; have := nd_le (n := a / 6000000) (k := 3) (by omega); omega
  have s2 : (nb (digV (a % 6000000 / 100000) 2)).size ≤ 20 := by rw [nb_size, digV_len]; have := nd_le (n := a % 6000000 / 100000) (k := 2) (by omega); omega
  have s3 : (nb (behV 5 (a % 100000))).size ≤ 7 := by rw [nb_size]; have := behV_len 5 (a % 100000); omega
  generalize nb (digV (a / 6000000) wd) = T1 at *
  generalize nb (digV (a % 6000000 / 100000) 2) = T2 at *
  generalize nb (behV 5 (a % 100000)) = T3 at *
  have k1 := fun U => tadd (P := Tryz.prog) T1 T2 (small3 T1 T2 T3 s1 s2 s3).1 U
  have k2 := fun U => tadd (P := Tryz.prog) (T1 ++ T2) T3 (small3 T1 T2 T3 s1 s2 s3).2 U
  have e1 : ((a : Int)).tdiv 6000000 = ((a / 6000000 : Nat) : Int) := by rw [Int.tdiv_eq_ediv_of_nonneg (by omega)]; simp
  have e2 : ((a : Int)).tmod 6000000 = ((a % 6000000 : Nat) : Int) := by rw [Int.tmod_eq_emod_of_nonneg (by omega)]; simp
  have e3 : (((a % 6000000 : Nat) : Int)).tdiv 100000 = ((a % 6000000 / 100000 : Nat) : Int) := by rw [Int.tdiv_eq_ediv_of_nonneg (by omega)]; simp
  have e4 : (((a % 6000000 : Nat) : Int)).tmod 100000 = ((a % 100000 : Nat) : Int) := by rw [Int.tmod_eq_emod_of_nonneg (by omega)]; omega
  obtain ⟨q1, hq1⟩ : ∃ q, a / 6000000 = q := ⟨_, rfl⟩
  obtain ⟨q2, hq2⟩ : ∃ q, a % 6000000 = q := ⟨_, rfl⟩
  obtain ⟨q4, hq4⟩ : ∃ q, a % 100000 = q := ⟨_, rfl⟩
  rw [hq1] at kP1 e1
  rw [hq2] at kP2 e2 e3 e4
  obtain ⟨q3, hq3⟩ : ∃ q, q2 / 100000 = q := ⟨_, rfl⟩
  rw [hq3] at kP2 e3
  rw [hq4] at kB e4
  have b1 : q1 ≤ 1000 := by omega
  have b2 : q2 < 6000000 := by omega
  have b3 : q3 ≤ 60 := by omega
  have b4 : q4 < 100000 := by omega
  have v1 : IntKind.i64.wrap (q1 : Int) = q1 := by rw [IntKind.wrap_i64] <;> omega
  have v2 : IntKind.i64.wrap (q2 : Int) = q2 := by rw [IntKind.wrap_i64] <;> omega
  have v3 : IntKind.i64.wrap (q3 : Int) = q3 := by rw [IntKind.wrap_i64] <;> omega
  have v4 : IntKind.i64.wrap (q4 : Int) = q4 := by rw [IntKind.wrap_i64] <;> omega
  clear hq1 hq2 hq3 hq4 hf9 hwd hw1
  have hout2 := hid hout
  clear hout
  replace hn := hid hn
  by_cases hs : n < 0
  · rw [decide_eq_true hs] at hD2
    have en : n = -(a : Int) := by omega
    have a0 : 0 < (a : Int) := by omega
    clear ha hs hn hb
    subst en
    have wn2 : IntKind.i64.wrap (a : Int) = a := by rw [IntKind.wrap_i64] <;> omega
    go_enter Tryz.func82, Tryz.ntmps82
    go_upto_region 0 with (fail)
    apply wp_region_seg0 (w := w) (S := [.al 1000, .q [], .q [], .q []]) (E := [.al ((fun p => .pointer (some ⟨p, 0, none⟩)), _) 1000, .q0 _, .q0 _, .q0 _]) rfl (by kernel_rfl) rfl rfl
    intro th hge hne
    refine Seg.step _ rfl ⟨by rfl, fun U hU => ?_⟩ ?_
    · go_simp; exact vp_alloc rfl rfl rfl
    refine Seg.sa ?_
    iterate 3 refine Seg.sq ?_
    refine Seg.stop (fun U1 hU hk => ?_)
    have nb0 := hge 0 _ _ rfl
    have rb0 := (hk 0 _ _ rfl trivial).1.2 (by simp)
    clear hk hge hne
    generalize th (0 + 0) = p0_0 at *
    dsimp only at rb0
    have r_p0_0 := rb0
    clear rb0
    have n_p0_0 := nb0
    clear nb0
    have sz1 := hU.size
    have hB : Below w.heap.size w U1 := hU
    clear hU
    have rn := r_p0_0
    replace rn := hid rn
    go_upto_region 1 with (fail)
    apply wp_region_seg (w := U1) (S := [.q [], .q [], .q [], .q [], .q [], .q [], .q [], .q [], .q [], .q [], .q [], .q [], .q [], .q [], .q [], .q [], .q [], .q [], .q [], .q [], .q [], .q [], .q [], .q [], .q [], .q [], .q []]) (E := [.q0 _, .q0 _, .q0 _, .q0 _, .q0 _, .q0 _, .q0 _, .q0 _, .q0 _, .q0 _, .q0 _, .q0 _, .q0 _, .q0 _, .q0 _, .c0 _, .q0 _, .q0 _, .q0 _, .q0 _, .q0 _, .c0 _, .q0 _, .q0 _, .q0 _, .q0 _, .q0 _]) (by kernel_rfl) rfl (by kernel_rfl) rfl rfl
    intro th hge hne
    refine Seg.sq ?_
    refine Seg.sq ?_ (ht := Or.inl ⟨by rfl, fun U hU => vp_quiet (by (have h0 := held_cell (held_after hU.1 rn.out) 0 _ rfl; go_simp <;> exact rfl))⟩)
    refine Seg.sq ?_
    refine Seg.sq ?_
    refine Seg.sq ?_ (ht := Or.inr ⟨by rfl, rfl⟩)
    refine Seg.sq ?_ (ht := Or.inr ⟨by rfl, rfl⟩)
    refine Seg.sq ?_ (ht := Or.inr ⟨by rfl, rfl⟩)
    iterate 3 refine Seg.sq ?_
    refine Seg.sq ?_ (ht := Or.inl ⟨by rfl, fun U hU => vp_quiet (by (have h0 := held_cell (held_after hU.1 rn.out) 0 _ rfl; go_simp <;> exact rfl))⟩)
    refine Seg.sq ?_
    refine Seg.sq ?_
    refine Seg.sq ?_ (ht := Or.inl ⟨by rfl, fun U hU => vp_quiet (by (have h0 := held_cell (held_after hU.1 rn.out) 1 _ rfl; go_simp <;> exact rfl))⟩)
    refine Seg.sq ?_
    refine Seg.step _ rfl (Or.inl ⟨by rfl, fun U hU => ?_⟩) ?_
    · go_simp
      refine vp_calls (kA.out _)
    refine Seg.sa ?_
    iterate 3 refine Seg.sq ?_
    refine Seg.sq ?_ (ht := Or.inl ⟨by rfl, fun U hU => vp_quiet (by (have h0 := held_cell (held_after hU.1 rn.out) 1 _ rfl; go_simp <;> exact rfl))⟩)
    refine Seg.sq ?_
    refine Seg.step _ rfl (Or.inl ⟨by rfl, fun U hU => ?_⟩) ?_
    · go_simp
      refine vp_calls (kA.out _)
    refine Seg.sa ?_
    iterate 5 refine Seg.sq ?_
    refine Seg.stop (fun U2 hU hk => ?_)
    clear hk hge hne
    replace r_p0_0 := held_after hU r_p0_0
    have sz2 := hU.size
    replace hB := bthen hB hU
    replace rn := hid (held_after hU rn.out)
    replace hB := hid hB
    have x0 := held_cell rn.out 0 _ rfl
    have x1 := held_cell rn.out 1 _ rfl
    go_wp2_with fail
    refine (kC.out _).mono ?_
    rintro e V9 ⟨rfl, hv⟩
    subst hv
    go_wp2_with fail
    refine (kC.out _).mono ?_
    rintro e V9 ⟨rfl, hv⟩
    subst hv
    rcases hw9 with ⟨rfl, rfl⟩ | ⟨rfl, rfl⟩
    · go_wp2_with fail
      refine (kP1.out _).mono ?_
      rintro e X ⟨rfl, hA⟩
      replace hB := hid (bthen hB.out hA)
      clear hA
      go_wp2_with fail
      refine (kP2.out _).mono ?_
      rintro e X ⟨rfl, hA⟩
      replace hB := hid (bthen hB.out hA)
      clear hA
      go_wp2_with fail
      refine (kB.out _).mono ?_
      rintro e X ⟨rfl, hA⟩
      replace hB := hid (bthen hB.out hA)
      clear hA
      go_wp2_with fail
      subst hD2
      refine bodyPost_ret (v := .tuple #[.string (T1 ++ T2 ++ T3), .string SB, .int .i64 0]) (by simp [results, Tryz.results82, go_sem]) rfl ⟨by rw [hout2.out, hSB.out], hB.out⟩
    · go_wp2_with fail
      refine (kP1.out _).mono ?_
      rintro e X ⟨rfl, hA⟩
      replace hB := hid (bthen hB.out hA)
      clear hA
      go_wp2_with fail
      refine (kP2.out _).mono ?_
      rintro e X ⟨rfl, hA⟩
      replace hB := hid (bthen hB.out hA)
      clear hA
      go_wp2_with fail
      refine (kB.out _).mono ?_
      rintro e X ⟨rfl, hA⟩
      replace hB := hid (bthen hB.out hA)
      clear hA
      go_wp2_with fail
      subst hD2
      refine bodyPost_ret (v := .tuple #[.string (T1 ++ T2 ++ T3), .string SB, .int .i64 0]) (by simp [results, Tryz.results82, go_sem]) rfl ⟨by rw [hout2.out, hSB.out], hB.out⟩
  · rw [decide_eq_false hs] at hD2
    have en : n = (a : Int) := by omega
    clear ha hs hn hb
    subst en
    have a0 : ¬ ((a : Int) < 0) := by omega
    go_enter Tryz.func82, Tryz.ntmps82
    go_upto_region 0 with (fail)
    apply wp_region_seg0 (w := w) (S := [.al 1000, .q [], .q [], .q []]) (E := [.al ((fun p => .pointer (some ⟨p, 0, none⟩)), _) 1000, .q0 _, .q0 _, .q0 _]) rfl (by kernel_rfl) rfl rfl
    intro th hge hne
    refine Seg.step _ rfl ⟨by rfl, fun U hU => ?_⟩ ?_
    · go_simp; exact vp_alloc rfl rfl rfl
    refine Seg.sa ?_
    iterate 3 refine Seg.sq ?_
    refine Seg.stop (fun U1 hU hk => ?_)
    have nb0 := hge 0 _ _ rfl
    have rb0 := (hk 0 _ _ rfl trivial).1.2 (by simp)
    clear hk hge hne
    generalize th (0 + 0) = p0_0 at *
    dsimp only at rb0
    have r_p0_0 := rb0
    clear rb0
    have n_p0_0 := nb0
    clear nb0
    have sz1 := hU.size
    have hB : Below w.heap.size w U1 := hU
    clear hU
    have rn := r_p0_0
    replace rn := hid rn
    go_upto_region 1 with (fail)
    apply wp_region_seg (w := U1) (S := [.q [], .q [], .q [], .q [], .q [], .q [], .q [], .q [], .q [], .q [], .q [], .q [], .q [], .q [], .q [], .q [], .q [], .q [], .q [], .q [], .q [], .q [], .q [], .q [], .q [], .q [], .q []]) (E := [.q0 _, .q0 _, .q0 _, .q0 _, .q0 _, .q0 _, .q0 _, .q0 _, .q0 _, .q0 _, .q0 _, .q0 _, .q0 _, .q0 _, .q0 _, .c0 _, .q0 _, .q0 _, .q0 _, .q0 _, .q0 _, .c0 _, .q0 _, .q0 _, .q0 _, .q0 _, .q0 _]) (by kernel_rfl) rfl (by kernel_rfl) rfl rfl
    intro th hge hne
    refine Seg.sq ?_
    refine Seg.sq ?_ (ht := Or.inl ⟨by rfl, fun U hU => vp_quiet (by (have h0 := held_cell (held_after hU.1 rn.out) 0 _ rfl; go_simp <;> exact rfl))⟩)
    refine Seg.sq ?_
    refine Seg.sq ?_
    refine Seg.sq ?_ (ht := Or.inr ⟨by rfl, rfl⟩)
    refine Seg.sq ?_ (ht := Or.inr ⟨by rfl, rfl⟩)
    refine Seg.sq ?_ (ht := Or.inr ⟨by rfl, rfl⟩)
    iterate 3 refine Seg.sq ?_
    refine Seg.sq ?_ (ht := Or.inl ⟨by rfl, fun U hU => vp_quiet (by (have h0 := held_cell (held_after hU.1 rn.out) 0 _ rfl; go_simp <;> exact rfl))⟩)
    refine Seg.sq ?_
    refine Seg.sq ?_
    refine Seg.sq ?_ (ht := Or.inl ⟨by rfl, fun U hU => vp_quiet (by (have h0 := held_cell (held_after hU.1 rn.out) 1 _ rfl; go_simp <;> exact rfl))⟩)
    refine Seg.sq ?_
    refine Seg.step _ rfl (Or.inl ⟨by rfl, fun U hU => ?_⟩) ?_
    · go_simp
      refine vp_calls (kA.out _)
    refine Seg.sa ?_
    iterate 3 refine Seg.sq ?_
    refine Seg.sq ?_ (ht := Or.inl ⟨by rfl, fun U hU => vp_quiet (by (have h0 := held_cell (held_after hU.1 rn.out) 1 _ rfl; go_simp <;> exact rfl))⟩)
    refine Seg.sq ?_
    refine Seg.step _ rfl (Or.inl ⟨by rfl, fun U hU => ?_⟩) ?_
    · go_simp
      refine vp_calls (kA.out _)
    refine Seg.sa ?_
    iterate 5 refine Seg.sq ?_
    refine Seg.stop (fun U2 hU hk => ?_)
    clear hk hge hne
    replace r_p0_0 := held_after hU r_p0_0
    have sz2 := hU.size
    replace hB := bthen hB hU
    replace rn := hid (held_after hU rn.out)
    replace hB := hid hB
    have x0 := held_cell rn.out 0 _ rfl
    have x1 := held_cell rn.out 1 _ rfl
    go_wp2_with fail
    refine (kC.out _).mono ?_
    rintro e V9 ⟨rfl, hv⟩
    subst hv
    rcases hw9 with ⟨rfl, rfl⟩ | ⟨rfl, rfl⟩
    · go_wp2_with fail
      refine (kP1.out _).mono ?_
      rintro e X ⟨rfl, hA⟩
      replace hB := hid (bthen hB.out hA)
      clear hA
      go_wp2_with fail
      refine (kP2.out _).mono ?_
      rintro e X ⟨rfl, hA⟩
      replace hB := hid (bthen hB.out hA)
      clear hA
      go_wp2_with fail
      refine (kB.out _).mono ?_
      rintro e X ⟨rfl, hA⟩
      replace hB := hid (bthen hB.out hA)
      clear hA
      go_wp2_with fail
      subst hD2
      refine bodyPost_ret (v := .tuple #[.string (T1 ++ T2 ++ T3), .string SN, .int .i64 0]) (by simp [results, Tryz.results82, go_sem]) rfl ⟨by rw [hout2.out, hSN.out], hB.out⟩
    · go_wp2_with fail
      refine (kP1.out _).mono ?_
      rintro e X ⟨rfl, hA⟩
      replace hB := hid (bthen hB.out hA)
      clear hA
      go_wp2_with fail
      refine (kP2.out _).mono ?_
      rintro e X ⟨rfl, hA⟩
      replace hB := hid (bthen hB.out hA)
      clear hA
      go_wp2_with fail
      refine (kB.out _).mono ?_
      rintro e X ⟨rfl, hA⟩
      replace hB := hid (bthen hB.out hA)
      clear hA
      go_wp2_with fail
      subst hD2
      refine bodyPost_ret (v := .tuple #[.string (T1 ++ T2 ++ T3), .string SN, .int .i64 0]) (by simp [results, Tryz.results82, go_sem]) rfl ⟨by rw [hout2.out, hSN.out], hB.out⟩

end Go.Proofs.YthnoomdhgbaecaaGreatDoor
