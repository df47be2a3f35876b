/- Package decim: Angle. -/
import Derived.Test.YthnoomdhgbaecaaGreatDoorDec8
import Derived.Deep.DeepCutAuto
namespace Go.Proofs.YthnoomdhgbaecaaGreatDoor

open Go.ChangeShapes Go.WideShapes Go.ChangeAt Go.RowKit

set_option linter.unusedVariables false

set_option linter.unusedSimpArgs false

def farA (lat : Bool) : Nat := if lat = true then 540000000 else 1080000000
def wideA (lat : Bool) : Nat := if lat = true then 2 else 3
def sideA (lat neg : Bool) : Nat := if lat = true then (if neg = true then 83 else 78) else (if neg = true then 87 else 69)
def angV (a : Nat) (lat : Bool) : List Nat := digV (a / 6000000) (wideA lat) ++ digV (a % 6000000 / 100000) 2 ++ behV 5 (a % 100000)
def angD (is : Bool) (n : Int) (lat : Bool) : List Nat × List Nat × Int :=
  if missE is n (-(farA lat : Int)) (farA lat) ≠ 0 then ([], [], 5) else if is = false then ([], [], 0) else (angV n.natAbs lat, [sideA lat (decide (n < 0))], 0)
theorem small3 (A B C : ByteArray) (a : A.size ≤ 20) (b : B.size ≤ 20) (c : C.size ≤ 7) : A.size + B.size ≤ 1000000 ∧ (A ++ B).size + C.size ≤ 1000000 := by rw [ByteArray.size_append]; omega
set_option maxRecDepth 100000 in
set_option maxHeartbeats 2000000 in
theorem circle_any (lat : Bool) (w : World) : Calls Tryz.prog 100 #[.bool lat] w fun e w' => e = .returned (.agg #[.int .i64 (wideA lat), .int .i64 (farA lat), .string (nb [sideA lat false]), .string (nb [sideA lat true])]) ∧ After w w' := by
  have hA := alloc_new w (.cells #[.int .i64 0, .int .i64 0, .string ⟨#[]⟩, .string ⟨#[]⟩] 110)
  obtain ⟨W1, h1⟩ : ∃ X, w.alloc (.cells #[.int .i64 0, .int .i64 0, .string ⟨#[]⟩, .string ⟨#[]⟩] 110) = X := ⟨_, rfl⟩
  rw [h1] at hA
  obtain ⟨-, hB, r1⟩ := hA
  cases lat
  · have z0 := held_cell r1 0 _ rfl
    have z1 := held_cell r1 1 _ rfl
    have z2 := held_cell r1 2 _ rfl
    have z3 := held_cell r1 3 _ rfl
    have g0 := held_free r1 0
    have g1 := held_free r1 1
    have g2 := held_free r1 2
    have g3 := held_free r1 3
    obtain ⟨W9, hW9, ya, yO⟩ := st4 r1 (.int .i64 3) (.int .i64 1080000000) (.string ⟨#[69]⟩) (.string ⟨#[87]⟩)
    have hB9 := hid (belowS hB yO (Nat.le_refl _))
    have ez0 := held_cell ya 0 _ rfl
    have ez1 := held_cell ya 1 _ rfl
    have ez2 := held_cell ya 2 _ rfl
    have ez3 := held_cell ya 3 _ rfl
    clear yO ya
    replace hB := hid hB
    go_enter Tryz.func100, Tryz.ntmps100
    go_wp2_with fail
    refine bodyPost_ret (v := .agg #[.int .i64 3, .int .i64 1080000000, .string ⟨#[69]⟩, .string ⟨#[87]⟩]) (by simp [results, Tryz.results100, go_sem, ez0, ez1, ez2, ez3]) rfl ⟨rfl, hB9.out⟩
  · have z0 := held_cell r1 0 _ rfl
    have z1 := held_cell r1 1 _ rfl
    have z2 := held_cell r1 2 _ rfl
    have z3 := held_cell r1 3 _ rfl
    have g0 := held_free r1 0
    have g1 := held_free r1 1
    have g2 := held_free r1 2
    have g3 := held_free r1 3
    obtain ⟨W9, hW9, ya, yO⟩ := st4 r1 (.int .i64 2) (.int .i64 540000000) (.string ⟨#[78]⟩) (.string ⟨#[83]⟩)
    have hB9 := hid (belowS hB yO (Nat.le_refl _))
    have ez0 := held_cell ya 0 _ rfl
    have ez1 := held_cell ya 1 _ rfl
    have ez2 := held_cell ya 2 _ rfl
    have ez3 := held_cell ya 3 _ rfl
    clear yO ya
    replace hB := hid hB
    go_enter Tryz.func100, Tryz.ntmps100
    go_wp2_with fail
    refine bodyPost_ret (v := .agg #[.int .i64 2, .int .i64 540000000, .string ⟨#[78]⟩, .string ⟨#[83]⟩]) (by simp [results, Tryz.results100, go_sem, ez0, ez1, ez2, ez3]) rfl ⟨rfl, hB9.out⟩
set_option maxRecDepth 100000 in
set_option maxHeartbeats 8000000 in
theorem angle_any (is : Bool) (n : Int) (lat : Bool) (w : World) (hb : (-9223372036854775808 ≤ n ∧ n ≤ 9223372036854775807)) (hT : Tab w) : Calls Tryz.prog 76 #[.agg #[.bool is, .int .i64 n], .bool lat] w fun e w' => e = .returned (.tuple #[.string (nb (angD is n lat).1), .string (nb (angD is n lat).2.1), .int .i64 (angD is n lat).2.2]) ∧ After w w' := by
  have kC := hid (fun U => circle_any lat U)
  obtain ⟨fa, hfa⟩ : ∃ f, farA lat = f := ⟨_, rfl⟩
  have hf9 : fa = 540000000 ∨ fa = 1080000000 := by rw [← hfa]; unfold farA; split <;> simp
  obtain ⟨wd, hwd⟩ : ∃ f, wideA lat = f := ⟨_, rfl⟩
  have hw9 : 1 ≤ wd ∧ wd ≤ 3 := by rw [← hwd]; unfold wideA; split <;> simp
  have kM := hid (fun U => missing_any is n (-(fa : Int)) fa U)
  rw [hfa, hwd] at kC
  obtain ⟨D, hD⟩ : ∃ D, angD is n lat = D := ⟨_, rfl⟩
  rw [hD]
  have hD2 : D = (if missE is n (-(fa : Int)) fa ≠ 0 then ([], [], 5) else if is = false then ([], [], 0) else (angV n.natAbs lat, [sideA lat (decide (n < 0))], 0)) := by rw [← hD]; unfold angD; rw [hfa]
  clear hD
  have wf : IntKind.i64.wrap (-(fa : Int)) = -(fa : Int) := by rw [IntKind.wrap_i64] <;> omega
  obtain ⟨SN, hSN⟩ : ∃ S, nb [sideA lat false] = S := ⟨_, rfl⟩
  obtain ⟨SB, hSB⟩ : ∃ S, nb [sideA lat true] = S := ⟨_, rfl⟩
  rw [hSN, hSB] at kC
  replace hSN := hid hSN
  replace hSB := hid hSB
  clear hfa
  by_cases hm0 : missE is n (-(fa : Int)) fa = 0
  case neg =>
    have hm : missE is n (-(fa : Int)) fa = 5 := by
      unfold missE at hm0 ⊢; split
      · rfl
      · rename_i h; rw [if_neg h] at hm0; exact absurd rfl hm0
    rw [if_pos hm0] at hD2
    subst hD2
    have kM5 := hid (fun U => (show Calls Tryz.prog 101 #[.agg #[.bool is, .int .i64 n], .int .i64 (-(fa : Int)), .int .i64 fa] U (fun e w' => e = .returned (.tuple #[.bool false, .int .i64 5]) ∧ After U w') from by have h := kM.out U; rw [hm] at h; exact h))
    replace kM := kM5
    clear kM5 hm hm0
    go_enter Tryz.func76, Tryz.ntmps76
    go_upto_region 0 with (fail)
    apply wp_region_seg0 (w := w) (S := [.al 1000, .q [], .q [], .q []]) (E := [.al ((fun p => .pointer (some ⟨p, 0, none⟩)), _) 1000, .q0 _, .q0 _, .q0 _]) rfl (by kernel_rfl) rfl rfl
    intro th hge hne
    refine Seg.step _ rfl ⟨by rfl, fun U hU => ?_⟩ ?_
    · go_simp; exact vp_alloc rfl rfl rfl
    refine Seg.sa ?_
    iterate 3 refine Seg.sq ?_
    refine Seg.stop (fun U1 hU hk => ?_)
    have nb0 := hge 0 _ _ rfl
    have rb0 := (hk 0 _ _ rfl trivial).1.2 (by simp)
    clear hk hge hne
    generalize th (0 + 0) = p0_0 at *
    dsimp only at rb0
    have r_p0_0 := rb0
    clear rb0
    have n_p0_0 := nb0
    clear nb0
    have sz1 := hU.size
    have hB : Below w.heap.size w U1 := hU
    clear hU
    replace hB := hid hB
    have rn := hid r_p0_0
    clear r_p0_0
    go_wp2_with fail
    refine (kC.out _).mono ?_
    rintro e V1 ⟨rfl, hA⟩
    replace hB := hid (bthen hB.out hA)
    replace rn := hid (held_after hA rn.out)
    clear hA
    have nw := alloc_new V1 (.cells #[.int .i64 wd, .int .i64 fa, .string SN, .string SB] 110)
    have hA := nw.2.1
    have rc := nw.2.2
    clear nw
    go_upto_region 2 with (fail)
    obtain ⟨V2, hV2⟩ : ∃ X, V1.alloc (.cells #[.int .i64 wd, .int .i64 fa, .string SN, .string SB] 110) = X := ⟨_, rfl⟩
    rw [hV2] at hA rc ⊢
    obtain ⟨qc, hqc⟩ : ∃ X, V1.heap.size = X := ⟨_, rfl⟩
    rw [hqc] at rc ⊢
    replace hV2 := hid hV2
    replace hqc := hid hqc
    replace hB := hid (bthen hB.out hA)
    replace rn := hid (held_after hA rn.out)
    replace rc := hid rc
    clear hA
    have x0 := held_cell rn.out 0 _ rfl
    have x1 := held_cell rn.out 1 _ rfl
    have y0 := held_cell rc.out 0 _ rfl
    have y1 := held_cell rc.out 1 _ rfl
    have y2 := held_cell rc.out 2 _ rfl
    have y3 := held_cell rc.out 3 _ rfl
    go_wp2_with fail
    refine (kM.out _).mono ?_
    rintro e V3 ⟨rfl, hA⟩
    replace hB := hid (bthen hB.out hA)
    replace rn := hid (held_after hA rn.out)
    replace rc := hid (held_after hA rc.out)
    clear hA x0 x1 y0 y1 y2 y3
    go_wp2_with fail
    refine bodyPost_ret (v := .tuple #[.string ⟨#[]⟩, .string ⟨#[]⟩, .int .i64 5]) (by simp [results, Tryz.results76, go_sem]) rfl ⟨rfl, hB.out⟩
  rw [if_neg (by rw [hm0]; simp)] at hD2
  have hm := hm0
  cases is
  · rw [if_pos rfl] at hD2
    subst hD2
    have kM5 := hid (fun U => (show Calls Tryz.prog 101 #[.agg #[.bool false, .int .i64 n], .int .i64 (-(fa : Int)), .int .i64 fa] U (fun e w' => e = .returned (.tuple #[.bool true, .int .i64 0]) ∧ After U w') from by have h := kM.out U; rw [hm] at h; exact h))
    replace kM := kM5
    clear kM5 hm hm0
    go_enter Tryz.func76, Tryz.ntmps76
    go_upto_region 0 with (fail)
    apply wp_region_seg0 (w := w) (S := [.al 1000, .q [], .q [], .q []]) (E := [.al ((fun p => .pointer (some ⟨p, 0, none⟩)), _) 1000, .q0 _, .q0 _, .q0 _]) rfl (by kernel_rfl) rfl rfl
    intro th hge hne
    refine Seg.step _ rfl ⟨by rfl, fun U hU => ?_⟩ ?_
    · go_simp; exact vp_alloc rfl rfl rfl
    refine Seg.sa ?_
    iterate 3 refine Seg.sq ?_
    refine Seg.stop (fun U1 hU hk => ?_)
    have nb0 := hge 0 _ _ rfl
    have rb0 := (hk 0 _ _ rfl trivial).1.2 (by simp)
    clear hk hge hne
    generalize th (0 + 0) = p0_0 at *
    dsimp only at rb0
    have r_p0_0 := rb0
    clear rb0
    have n_p0_0 := nb0
    clear nb0
    have sz1 := hU.size
    have hB : Below w.heap.size w U1 := hU
    clear hU
    replace hB := hid hB
    have rn := hid r_p0_0
    clear r_p0_0
    go_wp2_with fail
    refine (kC.out _).mono ?_
    rintro e V1 ⟨rfl, hA⟩
    replace hB := hid (bthen hB.out hA)
    replace rn := hid (held_after hA rn.out)
    clear hA
    have nw := alloc_new V1 (.cells #[.int .i64 wd, .int .i64 fa, .string SN, .string SB] 110)
    have hA := nw.2.1
    have rc := nw.2.2
    clear nw
    go_upto_region 2 with (fail)
    obtain ⟨V2, hV2⟩ : ∃ X, V1.alloc (.cells #[.int .i64 wd, .int .i64 fa, .string SN, .string SB] 110) = X := ⟨_, rfl⟩
    rw [hV2] at hA rc ⊢
    obtain ⟨qc, hqc⟩ : ∃ X, V1.heap.size = X := ⟨_, rfl⟩
    rw [hqc] at rc ⊢
    replace hV2 := hid hV2
    replace hqc := hid hqc
    replace hB := hid (bthen hB.out hA)
    replace rn := hid (held_after hA rn.out)
    replace rc := hid rc
    clear hA
    have x0 := held_cell rn.out 0 _ rfl
    have x1 := held_cell rn.out 1 _ rfl
    have y0 := held_cell rc.out 0 _ rfl
    have y1 := held_cell rc.out 1 _ rfl
    have y2 := held_cell rc.out 2 _ rfl
    have y3 := held_cell rc.out 3 _ rfl
    go_wp2_with fail
    refine (kM.out _).mono ?_
    rintro e V3 ⟨rfl, hA⟩
    replace hB := hid (bthen hB.out hA)
    replace rn := hid (held_after hA rn.out)
    replace rc := hid (held_after hA rc.out)
    clear hA x0 x1 y0 y1 y2 y3
    go_wp2_with fail
    refine bodyPost_ret (v := .tuple #[.string ⟨#[]⟩, .string ⟨#[]⟩, .int .i64 0]) (by simp [results, Tryz.results76, go_sem]) rfl ⟨rfl, hB.out⟩
  rw [if_neg (by simp)] at hD2
  have kM5 := hid (fun U => (show Calls Tryz.prog 101 #[.agg #[.bool true, .int .i64 n], .int .i64 (-(fa : Int)), .int .i64 fa] U (fun e w' => e = .returned (.tuple #[.bool false, .int .i64 0]) ∧ After U w') from by have h := kM.out U; rw [hm] at h; exact h))
  replace kM := kM5
  clear kM5
  have hn : -(fa : Int) ≤ n ∧ n ≤ fa := by
    refine Decidable.byContradiction fun h => ?_
    unfold missE at hm; rw [if_pos (.inr ⟨rfl, by omega⟩)] at hm; exact absurd hm (by decide)
  clear hm hm0
  obtain ⟨a, ha⟩ : ∃ a, n.natAbs = a := ⟨_, rfl⟩
  rw [ha] at hD2
  have hal : a ≤ 1080000000 := by omega
  have kP1 := hid (fun U (h : Tab U) => padV_dig (n := a / 6000000) hw9.1 ▸ padded_any (a / 6000000) wd U h (by omega) (by omega) (by omega))
  have kP2 := hid (fun U (h : Tab U) => padV_dig (n := a % 6000000 / 100000) (d := 2) (by decide) ▸ padded_any (a % 6000000 / 100000) 2 U h (by omega) (by omega) (by omega))
  have kB := hid (fun U (h : Tab U) => behind_any (a % 100000) 5 U h (by decide) (by omega))
  have hout : nb (angV a lat) = nb (digV (a / 6000000) wd) ++ nb (digV (a % 6000000 / 100000) 2) ++ nb (behV 5 (a % 100000)) := by unfold angV; rw [hwd, nb_app, nb_app]
  have s1 : (nb (digV (a / 6000000) wd)).size ≤ 20 := by rw [nb_size, digV_len]; have := nd_le (n := a / 6000000) (k := 3) (by omega); omega
  have s2 : (nb (digV (a % 6000000 / 100000) 2)).size ≤ 20 := by rw [nb_size, digV_len]; have := nd_le (n := a % 6000000 / 100000) (k := 2) (by omega); omega
  have s3 : (nb (behV 5 (a % 100000))).size ≤ 7 := by rw [nb_size]; have := behV_len 5 (a % 100000); omega
  generalize nb (digV (a / 6000000) wd) = T1 at *
  generalize nb (digV (a % 6000000 / 100000) 2) = T2 at *
  generalize nb (behV 5 (a % 100000)) = T3 at *
  have k1 := fun U => tadd (P := Tryz.prog) T1 T2 (small3 T1 T2 T3 s1 s2 s3).1 U
  have k2 := fun U => tadd (P := Tryz.prog) (T1 ++ T2) T3 (small3 T1 T2 T3 s1 s2 s3).2 U
  have e1 : ((a : Int)).tdiv 6000000 = ((a / 6000000 : Nat) : Int) := by rw [Int.tdiv_eq_ediv_of_nonneg (by omega)]; simp
  have e2 : ((a : Int)).tmod 6000000 = ((a % 6000000 : Nat) : Int) := by rw [Int.tmod_eq_emod_of_nonneg (by omega)]; simp
  have e3 : (((a % 6000000 : Nat) : Int)).tdiv 100000 = ((a % 6000000 / 100000 : Nat) : Int) := by rw [Int.tdiv_eq_ediv_of_nonneg (by omega)]; simp
  have e4 : ((a : Int)).tmod 100000 = ((a % 100000 : Nat) : Int) := by rw [Int.tmod_eq_emod_of_nonneg (by omega)]; simp
  obtain ⟨q1, hq1⟩ : ∃ q, a / 6000000 = q := ⟨_, rfl⟩
  obtain ⟨q2, hq2⟩ : ∃ q, a % 6000000 = q := ⟨_, rfl⟩
  rw [hq1] at kP1 e1
  rw [hq2] at kP2 e2 e3
  obtain ⟨q3, hq3⟩ : ∃ q, q2 / 100000 = q := ⟨_, rfl⟩
  rw [hq3] at kP2 e3
  obtain ⟨q4, hq4⟩ : ∃ q, a % 100000 = q := ⟨_, rfl⟩
  rw [hq4] at kB e4
  have b1 : q1 ≤ 1000 := by omega
  have b2 : q2 < 6000000 := by omega
  have b3 : q3 ≤ 60 := by omega
  have b4 : q4 < 100000 := by omega
  have v1 : IntKind.i64.wrap (q1 : Int) = q1 := by rw [IntKind.wrap_i64] <;> omega
  have v2 : IntKind.i64.wrap (q2 : Int) = q2 := by rw [IntKind.wrap_i64] <;> omega
  have v3 : IntKind.i64.wrap (q3 : Int) = q3 := by rw [IntKind.wrap_i64] <;> omega
  have v4 : IntKind.i64.wrap (q4 : Int) = q4 := by rw [IntKind.wrap_i64] <;> omega
  clear hq1 hq2 hq3 hq4 hf9 hwd
  have hout2 := hid hout
  clear hout
  by_cases hs : n < 0
  · rw [decide_eq_true hs] at hD2
    have en : n = -(a : Int) := by omega
    have a0 : 0 < (a : Int) := by omega
    clear ha hs
    subst en
    have wn2 : IntKind.i64.wrap (a : Int) = a := by rw [IntKind.wrap_i64] <;> omega
    subst hD2
    go_enter Tryz.func76, Tryz.ntmps76
    go_upto_region 0 with (fail)
    apply wp_region_seg0 (w := w) (S := [.al 1000, .q [], .q [], .q []]) (E := [.al ((fun p => .pointer (some ⟨p, 0, none⟩)), _) 1000, .q0 _, .q0 _, .q0 _]) rfl (by kernel_rfl) rfl rfl
    intro th hge hne
    refine Seg.step _ rfl ⟨by rfl, fun U hU => ?_⟩ ?_
    · go_simp; exact vp_alloc rfl rfl rfl
    refine Seg.sa ?_
    iterate 3 refine Seg.sq ?_
    refine Seg.stop (fun U1 hU hk => ?_)
    have nb0 := hge 0 _ _ rfl
    have rb0 := (hk 0 _ _ rfl trivial).1.2 (by simp)
    clear hk hge hne
    generalize th (0 + 0) = p0_0 at *
    dsimp only at rb0
    have r_p0_0 := rb0
    clear rb0
    have n_p0_0 := nb0
    clear nb0
    have sz1 := hU.size
    have hB : Below w.heap.size w U1 := hU
    clear hU
    replace hB := hid hB
    have rn := hid r_p0_0
    clear r_p0_0
    go_wp2_with fail
    refine (kC.out _).mono ?_
    rintro e V1 ⟨rfl, hA⟩
    replace hB := hid (bthen hB.out hA)
    replace rn := hid (held_after hA rn.out)
    clear hA
    have nw := alloc_new V1 (.cells #[.int .i64 wd, .int .i64 fa, .string SN, .string SB] 110)
    have hA := nw.2.1
    have rc := nw.2.2
    clear nw
    go_upto_region 2 with (fail)
    obtain ⟨V2, hV2⟩ : ∃ X, V1.alloc (.cells #[.int .i64 wd, .int .i64 fa, .string SN, .string SB] 110) = X := ⟨_, rfl⟩
    rw [hV2] at hA rc ⊢
    obtain ⟨qc, hqc⟩ : ∃ X, V1.heap.size = X := ⟨_, rfl⟩
    rw [hqc] at rc ⊢
    replace hV2 := hid hV2
    replace hqc := hid hqc
    replace hB := hid (bthen hB.out hA)
    replace rn := hid (held_after hA rn.out)
    replace rc := hid rc
    clear hA
    have x0 := held_cell rn.out 0 _ rfl
    have x1 := held_cell rn.out 1 _ rfl
    have y0 := held_cell rc.out 0 _ rfl
    have y1 := held_cell rc.out 1 _ rfl
    have y2 := held_cell rc.out 2 _ rfl
    have y3 := held_cell rc.out 3 _ rfl
    go_wp2_with fail
    refine (kM.out _).mono ?_
    rintro e V3 ⟨rfl, hA⟩
    replace hB := hid (bthen hB.out hA)
    replace rn := hid (held_after hA rn.out)
    replace rc := hid (held_after hA rc.out)
    clear hA x0 x1 y0 y1 y2 y3
    go_upto_region 5 with (fail)
    replace hB := hB.out
    apply wp_region_seg (w := V3) (S := [.q [], .q [], .q [], .q [], .q [], .q []]) (E := [.q0 _, .q0 _, .q0 _, .q0 _, .q0 _, .q0 _]) (by kernel_rfl) rfl (by kernel_rfl) rfl rfl
    intro th hge hne
    refine Seg.sq ?_
    refine Seg.sq ?_ (ht := Or.inl ⟨by rfl, fun U hU => vp_quiet (by (have h0 := held_cell (held_after hU.1 rc.out) 2 _ rfl; go_simp <;> exact rfl))⟩)
    refine Seg.sq ?_
    refine Seg.sq ?_ (ht := Or.inl ⟨by rfl, fun U hU => vp_quiet (by (have h0 := held_cell (held_after hU.1 rn.out) 1 _ rfl; go_simp <;> exact rfl))⟩)
    refine Seg.sq ?_
    refine Seg.sq ?_
    refine Seg.stop (fun U2 hU hk => ?_)
    clear hk hge hne
    have sz2 := hU.size
    replace hB := bthen hB hU
    replace rc := hid (held_after hU rc.out)
    replace rn := hid (held_after hU rn.out)
    clear hU
    replace hB := hid hB
    have x0 := held_cell rn.out 0 _ rfl
    have x1 := held_cell rn.out 1 _ rfl
    have y0 := held_cell rc.out 0 _ rfl
    have y1 := held_cell rc.out 1 _ rfl
    have y2 := held_cell rc.out 2 _ rfl
    have y3 := held_cell rc.out 3 _ rfl
    go_wp2_with fail
    refine (kP1.out _ (hT.on hB.out)).mono ?_
    rintro e X0 ⟨rfl, hA⟩
    replace hB := hid (bthen hB.out hA)
    replace rn := hid (held_after hA rn.out)
    replace rc := hid (held_after hA rc.out)
    clear hA x0 x1 y0 y1 y2 y3
    have x0 := held_cell rn.out 0 _ rfl
    have x1 := held_cell rn.out 1 _ rfl
    have y0 := held_cell rc.out 0 _ rfl
    have y1 := held_cell rc.out 1 _ rfl
    have y2 := held_cell rc.out 2 _ rfl
    have y3 := held_cell rc.out 3 _ rfl
    go_wp2_with fail
    refine (kP2.out _ (hT.on hB.out)).mono ?_
    rintro e X1 ⟨rfl, hA⟩
    replace hB := hid (bthen hB.out hA)
    replace rn := hid (held_after hA rn.out)
    replace rc := hid (held_after hA rc.out)
    clear hA x0 x1 y0 y1 y2 y3
    have x0 := held_cell rn.out 0 _ rfl
    have x1 := held_cell rn.out 1 _ rfl
    have y0 := held_cell rc.out 0 _ rfl
    have y1 := held_cell rc.out 1 _ rfl
    have y2 := held_cell rc.out 2 _ rfl
    have y3 := held_cell rc.out 3 _ rfl
    go_wp2_with fail
    refine (kB.out _ (hT.on hB.out)).mono ?_
    rintro e X2 ⟨rfl, hA⟩
    replace hB := hid (bthen hB.out hA)
    replace rn := hid (held_after hA rn.out)
    replace rc := hid (held_after hA rc.out)
    clear hA x0 x1 y0 y1 y2 y3
    have x0 := held_cell rn.out 0 _ rfl
    have x1 := held_cell rn.out 1 _ rfl
    have y0 := held_cell rc.out 0 _ rfl
    have y1 := held_cell rc.out 1 _ rfl
    have y2 := held_cell rc.out 2 _ rfl
    have y3 := held_cell rc.out 3 _ rfl
    go_wp2_with fail
    refine bodyPost_ret (v := .tuple #[.string (T1 ++ T2 ++ T3), .string SB, .int .i64 0]) (by simp [results, Tryz.results76, go_sem]) rfl ⟨by rw [hout2.out, hSB.out], hB.out⟩
  · rw [decide_eq_false hs] at hD2
    have en : n = (a : Int) := by omega
    clear ha
    subst en
    have a0 : ¬ ((a : Int) < 0) := by omega
    subst hD2
    go_enter Tryz.func76, Tryz.ntmps76
    go_upto_region 0 with (fail)
    apply wp_region_seg0 (w := w) (S := [.al 1000, .q [], .q [], .q []]) (E := [.al ((fun p => .pointer (some ⟨p, 0, none⟩)), _) 1000, .q0 _, .q0 _, .q0 _]) rfl (by kernel_rfl) rfl rfl
    intro th hge hne
    refine Seg.step _ rfl ⟨by rfl, fun U hU => ?_⟩ ?_
    · go_simp; exact vp_alloc rfl rfl rfl
    refine Seg.sa ?_
    iterate 3 refine Seg.sq ?_
    refine Seg.stop (fun U1 hU hk => ?_)
    have nb0 := hge 0 _ _ rfl
    have rb0 := (hk 0 _ _ rfl trivial).1.2 (by simp)
    clear hk hge hne
    generalize th (0 + 0) = p0_0 at *
    dsimp only at rb0
    have r_p0_0 := rb0
    clear rb0
    have n_p0_0 := nb0
    clear nb0
    have sz1 := hU.size
    have hB : Below w.heap.size w U1 := hU
    clear hU
    replace hB := hid hB
    have rn := hid r_p0_0
    clear r_p0_0
    go_wp2_with fail
    refine (kC.out _).mono ?_
    rintro e V1 ⟨rfl, hA⟩
    replace hB := hid (bthen hB.out hA)
    replace rn := hid (held_after hA rn.out)
    clear hA
    have nw := alloc_new V1 (.cells #[.int .i64 wd, .int .i64 fa, .string SN, .string SB] 110)
    have hA := nw.2.1
    have rc := nw.2.2
    clear nw
    go_upto_region 2 with (fail)
    obtain ⟨V2, hV2⟩ : ∃ X, V1.alloc (.cells #[.int .i64 wd, .int .i64 fa, .string SN, .string SB] 110) = X := ⟨_, rfl⟩
    rw [hV2] at hA rc ⊢
    obtain ⟨qc, hqc⟩ : ∃ X, V1.heap.size = X := ⟨_, rfl⟩
    rw [hqc] at rc ⊢
    replace hV2 := hid hV2
    replace hqc := hid hqc
    replace hB := hid (bthen hB.out hA)
    replace rn := hid (held_after hA rn.out)
    replace rc := hid rc
    clear hA
    have x0 := held_cell rn.out 0 _ rfl
    have x1 := held_cell rn.out 1 _ rfl
    have y0 := held_cell rc.out 0 _ rfl
    have y1 := held_cell rc.out 1 _ rfl
    have y2 := held_cell rc.out 2 _ rfl
    have y3 := held_cell rc.out 3 _ rfl
    go_wp2_with fail
    refine (kM.out _).mono ?_
    rintro e V3 ⟨rfl, hA⟩
    replace hB := hid (bthen hB.out hA)
    replace rn := hid (held_after hA rn.out)
    replace rc := hid (held_after hA rc.out)
    clear hA x0 x1 y0 y1 y2 y3
    go_upto_region 5 with (fail)
    replace hB := hB.out
    apply wp_region_seg (w := V3) (S := [.q [], .q [], .q [], .q [], .q [], .q []]) (E := [.q0 _, .q0 _, .q0 _, .q0 _, .q0 _, .q0 _]) (by kernel_rfl) rfl (by kernel_rfl) rfl rfl
    intro th hge hne
    refine Seg.sq ?_
    refine Seg.sq ?_ (ht := Or.inl ⟨by rfl, fun U hU => vp_quiet (by (have h0 := held_cell (held_after hU.1 rc.out) 2 _ rfl; go_simp <;> exact rfl))⟩)
    refine Seg.sq ?_
    refine Seg.sq ?_ (ht := Or.inl ⟨by rfl, fun U hU => vp_quiet (by (have h0 := held_cell (held_after hU.1 rn.out) 1 _ rfl; go_simp <;> exact rfl))⟩)
    refine Seg.sq ?_
    refine Seg.sq ?_
    refine Seg.stop (fun U2 hU hk => ?_)
    clear hk hge hne
    have sz2 := hU.size
    replace hB := bthen hB hU
    replace rc := hid (held_after hU rc.out)
    replace rn := hid (held_after hU rn.out)
    clear hU
    replace hB := hid hB
    have x0 := held_cell rn.out 0 _ rfl
    have x1 := held_cell rn.out 1 _ rfl
    have y0 := held_cell rc.out 0 _ rfl
    have y1 := held_cell rc.out 1 _ rfl
    have y2 := held_cell rc.out 2 _ rfl
    have y3 := held_cell rc.out 3 _ rfl
    go_wp2_with fail
    refine (kP1.out _ (hT.on hB.out)).mono ?_
    rintro e X0 ⟨rfl, hA⟩
    replace hB := hid (bthen hB.out hA)
    replace rn := hid (held_after hA rn.out)
    replace rc := hid (held_after hA rc.out)
    clear hA x0 x1 y0 y1 y2 y3
    have x0 := held_cell rn.out 0 _ rfl
    have x1 := held_cell rn.out 1 _ rfl
    have y0 := held_cell rc.out 0 _ rfl
    have y1 := held_cell rc.out 1 _ rfl
    have y2 := held_cell rc.out 2 _ rfl
    have y3 := held_cell rc.out 3 _ rfl
    go_wp2_with fail
    refine (kP2.out _ (hT.on hB.out)).mono ?_
    rintro e X1 ⟨rfl, hA⟩
    replace hB := hid (bthen hB.out hA)
    replace rn := hid (held_after hA rn.out)
    replace rc := hid (held_after hA rc.out)
    clear hA x0 x1 y0 y1 y2 y3
    have x0 := held_cell rn.out 0 _ rfl
    have x1 := held_cell rn.out 1 _ rfl
    have y0 := held_cell rc.out 0 _ rfl
    have y1 := held_cell rc.out 1 _ rfl
    have y2 := held_cell rc.out 2 _ rfl
    have y3 := held_cell rc.out 3 _ rfl
    go_wp2_with fail
    refine (kB.out _ (hT.on hB.out)).mono ?_
    rintro e X2 ⟨rfl, hA⟩
    replace hB := hid (bthen hB.out hA)
    replace rn := hid (held_after hA rn.out)
    replace rc := hid (held_after hA rc.out)
    clear hA x0 x1 y0 y1 y2 y3
    have x0 := held_cell rn.out 0 _ rfl
    have x1 := held_cell rn.out 1 _ rfl
    have y0 := held_cell rc.out 0 _ rfl
    have y1 := held_cell rc.out 1 _ rfl
    have y2 := held_cell rc.out 2 _ rfl
    have y3 := held_cell rc.out 3 _ rfl
    go_wp2_with fail
    refine bodyPost_ret (v := .tuple #[.string (T1 ++ T2 ++ T3), .string SN, .int .i64 0]) (by simp [results, Tryz.results76, go_sem]) rfl ⟨by rw [hout2.out, hSN.out], hB.out⟩

end Go.Proofs.YthnoomdhgbaecaaGreatDoor
