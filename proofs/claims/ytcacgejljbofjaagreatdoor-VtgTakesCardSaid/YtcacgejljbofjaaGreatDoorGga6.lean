/- Package gga: the papers' Take. -/
import Derived.Test.YtcacgejljbofjaaGreatDoorGga5
import Derived.Test.YtcacgejljbofjaaGreatDoorGS
import Derived.Laws.Tables
import Derived.Laws.Rows
import Derived.Deep.DeepCutAuto
namespace Go.Proofs.YtcacgejljbofjaaGreatDoor
open Go.ChangeShapes Go.WideShapes Go.ChangeAt Go.RowKit
set_option linter.unusedVariables false
set_option linter.unusedSimpArgs false

set_option maxRecDepth 100000 in
set_option maxHeartbeats 4000000 in
theorem rtakeunit_any (B : Nat) (e : Int) (u : ByteArray) (R : List ByteArray) (unit : ByteArray) (i : Bool) (n : Int) (w : World) (hP : RowR w B e (u :: R)) : Calls Tryz.prog 23 #[.pointer (some ⟨B, 0, none⟩), .agg #[.bool i, .int .i64 n], .string unit] w fun r w' => r = .returned (.tuple #[]) ∧ RowR w' B (kp e (unE u unit i)) R ∧ Eff B w w' := by
  have k0 : ∀ e, kp e 0 = e := fun e => by unfold kp; split <;> omega
  have kx := hid (fun U h => rtextC B e u R U h)
  have kf := hid (fun U h => rfirstR_any B e 3 R U h)
  have hZ := temp_iff u
  by_cases c1 : u = unit
  case pos =>
    have q1 := ba_neT c1
    have q11 := q1.1
    have q12 := q1.2
    have hu : unE u unit i = 0 := by unfold unE; rw [if_neg (by first | exact ⟨c1, .inl c2⟩ | exact ⟨c1, .inr c3⟩ | exact fun h => h.1 c1 | exact fun h => h.2.elim (fun h => c2 h) (fun h => c3 h))]
    rw [hu]
    clear hu
    rw [k0]
    clear k0
    clear hZ c1 q1
    have hlt := hP.lt
    replace hP := hid hP
    go_enter Tryz.func23, Tryz.ntmps23
    go_upto_region 0 with (fail)
    apply wp_region_seg0 (w := w) (S := [.al 1000]) (E := [.al ((fun p => .pointer (some ⟨p, 0, none⟩)), _) 1000]) rfl (by kernel_rfl) rfl rfl
    intro th hge hne
    refine Seg.step _ rfl ⟨by rfl, fun U hU => ?_⟩ ?_
    · go_simp; exact vp_alloc rfl rfl rfl
    refine Seg.sa ?_
    refine Seg.stop (fun U1 hU hk => ?_)
    have nb0 := hge 0 _ _ rfl
    have rb0 := (hk 0 _ _ rfl trivial).1.2 (by simp)
    clear hk hge hne
    generalize th (0 + 0) = p0_0 at *
    dsimp only at rb0
    have r_p0_0 := rb0
    clear rb0
    have n_p0_0 := nb0
    clear nb0
    have sz1 := hU.size
    have hB : Below w.heap.size w U1 := hU
    clear hU
    replace hP := hid (hP.out.aft hB)
    have hef := hid (eff_after24 (g := B) hB)
    clear hB
    have r0 := hid r_p0_0
    have hb_r0 : p0_0 ≠ B := by omega
    clear r_p0_0
    go_wp2_with fail
    refine (kx.out _ hP.out).mono ?_
    rintro r V1 ⟨rfl, hP2, hf2⟩
    replace hP := hid hP2
    clear hP2
    replace r0 := hid (eff_block24 hf2 r0.out hb_r0)
    replace hef := hid (eff_trans24 hef.out hf2)
    clear hf2
    have x0 := held_cell r0.out 0 _ rfl
    have x1 := held_cell r0.out 1 _ rfl
    go_wp2_with fail
    go_end0
    exact ⟨rfl, hP.out, hef.out⟩
  have q1 := ba_neF c1
  have q11 := q1.1
  have q12 := q1.2
  by_cases c3 : i = true
  case pos =>
    have hu : unE u unit i = 3 := by unfold unE; rw [if_pos (by first | exact ⟨c1, .inl c2⟩ | exact ⟨c1, .inr c3⟩ | exact fun h => h.1 c1 | exact fun h => h.2.elim (fun h => c2 h) (fun h => c3 h))]
    rw [hu]
    clear hu
    clear k0
    subst c3
    clear hZ c1 q1
    have hlt := hP.lt
    replace hP := hid hP
    go_enter Tryz.func23, Tryz.ntmps23
    go_upto_region 0 with (fail)
    apply wp_region_seg0 (w := w) (S := [.al 1000]) (E := [.al ((fun p => .pointer (some ⟨p, 0, none⟩)), _) 1000]) rfl (by kernel_rfl) rfl rfl
    intro th hge hne
    refine Seg.step _ rfl ⟨by rfl, fun U hU => ?_⟩ ?_
    · go_simp; exact vp_alloc rfl rfl rfl
    refine Seg.sa ?_
    refine Seg.stop (fun U1 hU hk => ?_)
    have nb0 := hge 0 _ _ rfl
    have rb0 := (hk 0 _ _ rfl trivial).1.2 (by simp)
    clear hk hge hne
    generalize th (0 + 0) = p0_0 at *
    dsimp only at rb0
    have r_p0_0 := rb0
    clear rb0
    have n_p0_0 := nb0
    clear nb0
    have sz1 := hU.size
    have hB : Below w.heap.size w U1 := hU
    clear hU
    replace hP := hid (hP.out.aft hB)
    have hef := hid (eff_after24 (g := B) hB)
    clear hB
    have r0 := hid r_p0_0
    have hb_r0 : p0_0 ≠ B := by omega
    clear r_p0_0
    go_wp2_with fail
    refine (kx.out _ hP.out).mono ?_
    rintro r V1 ⟨rfl, hP2, hf2⟩
    replace hP := hid hP2
    clear hP2
    replace r0 := hid (eff_block24 hf2 r0.out hb_r0)
    replace hef := hid (eff_trans24 hef.out hf2)
    clear hf2
    have x0 := held_cell r0.out 0 _ rfl
    have x1 := held_cell r0.out 1 _ rfl
    go_wp2_with fail
    refine (kf.out _ hP.out).mono ?_
    rintro r V2 ⟨rfl, hP2, hf2⟩
    replace hP := hid hP2
    clear hP2
    replace r0 := hid (eff_block24 hf2 r0.out hb_r0)
    replace hef := hid (eff_trans24 hef.out hf2)
    clear hf2
    clear x0 x1
    go_wp2_with fail
    go_end0
    exact ⟨rfl, hP.out, hef.out⟩
  by_cases c2 : u.size ≠ 0
  case pos =>
    have q2 : u.toList.isEmpty = false := by rw [hZ]; exact decide_eq_false c2
    have hu : unE u unit i = 3 := by unfold unE; rw [if_pos (by first | exact ⟨c1, .inl c2⟩ | exact ⟨c1, .inr c3⟩ | exact fun h => h.1 c1 | exact fun h => h.2.elim (fun h => c2 h) (fun h => c3 h))]
    rw [hu]
    clear hu
    clear k0
    have c4 : i = false := by simpa using c3
    subst c4
    clear hZ c1 c2 c3 q1
    have hlt := hP.lt
    replace hP := hid hP
    go_enter Tryz.func23, Tryz.ntmps23
    go_upto_region 0 with (fail)
    apply wp_region_seg0 (w := w) (S := [.al 1000]) (E := [.al ((fun p => .pointer (some ⟨p, 0, none⟩)), _) 1000]) rfl (by kernel_rfl) rfl rfl
    intro th hge hne
    refine Seg.step _ rfl ⟨by rfl, fun U hU => ?_⟩ ?_
    · go_simp; exact vp_alloc rfl rfl rfl
    refine Seg.sa ?_
    refine Seg.stop (fun U1 hU hk => ?_)
    have nb0 := hge 0 _ _ rfl
    have rb0 := (hk 0 _ _ rfl trivial).1.2 (by simp)
    clear hk hge hne
    generalize th (0 + 0) = p0_0 at *
    dsimp only at rb0
    have r_p0_0 := rb0
    clear rb0
    have n_p0_0 := nb0
    clear nb0
    have sz1 := hU.size
    have hB : Below w.heap.size w U1 := hU
    clear hU
    replace hP := hid (hP.out.aft hB)
    have hef := hid (eff_after24 (g := B) hB)
    clear hB
    have r0 := hid r_p0_0
    have hb_r0 : p0_0 ≠ B := by omega
    clear r_p0_0
    go_wp2_with fail
    refine (kx.out _ hP.out).mono ?_
    rintro r V1 ⟨rfl, hP2, hf2⟩
    replace hP := hid hP2
    clear hP2
    replace r0 := hid (eff_block24 hf2 r0.out hb_r0)
    replace hef := hid (eff_trans24 hef.out hf2)
    clear hf2
    have x0 := held_cell r0.out 0 _ rfl
    have x1 := held_cell r0.out 1 _ rfl
    go_wp2_with fail
    refine (kf.out _ hP.out).mono ?_
    rintro r V2 ⟨rfl, hP2, hf2⟩
    replace hP := hid hP2
    clear hP2
    replace r0 := hid (eff_block24 hf2 r0.out hb_r0)
    replace hef := hid (eff_trans24 hef.out hf2)
    clear hf2
    clear x0 x1
    go_wp2_with fail
    go_end0
    exact ⟨rfl, hP.out, hef.out⟩
  have q2 : u.toList.isEmpty = true := by rw [hZ]; exact decide_eq_true (by omega)
  have hu : unE u unit i = 0 := by unfold unE; rw [if_neg (by first | exact ⟨c1, .inl c2⟩ | exact ⟨c1, .inr c3⟩ | exact fun h => h.1 c1 | exact fun h => h.2.elim (fun h => c2 h) (fun h => c3 h))]
  rw [hu]
  clear hu
  rw [k0]
  clear k0
  have c4 : i = false := by simpa using c3
  subst c4
  clear hZ c1 c2 c3 q1
  have hlt := hP.lt
  replace hP := hid hP
  go_enter Tryz.func23, Tryz.ntmps23
  go_upto_region 0 with (fail)
  apply wp_region_seg0 (w := w) (S := [.al 1000]) (E := [.al ((fun p => .pointer (some ⟨p, 0, none⟩)), _) 1000]) rfl (by kernel_rfl) rfl rfl
  intro th hge hne
  refine Seg.step _ rfl ⟨by rfl, fun U hU => ?_⟩ ?_
  · go_simp; exact vp_alloc rfl rfl rfl
  refine Seg.sa ?_
  refine Seg.stop (fun U1 hU hk => ?_)
  have nb0 := hge 0 _ _ rfl
  have rb0 := (hk 0 _ _ rfl trivial).1.2 (by simp)
  clear hk hge hne
  generalize th (0 + 0) = p0_0 at *
  dsimp only at rb0
  have r_p0_0 := rb0
  clear rb0
  have n_p0_0 := nb0
  clear nb0
  have sz1 := hU.size
  have hB : Below w.heap.size w U1 := hU
  clear hU
  replace hP := hid (hP.out.aft hB)
  have hef := hid (eff_after24 (g := B) hB)
  clear hB
  have r0 := hid r_p0_0
  have hb_r0 : p0_0 ≠ B := by omega
  clear r_p0_0
  go_wp2_with fail
  refine (kx.out _ hP.out).mono ?_
  rintro r V1 ⟨rfl, hP2, hf2⟩
  replace hP := hid hP2
  clear hP2
  replace r0 := hid (eff_block24 hf2 r0.out hb_r0)
  replace hef := hid (eff_trans24 hef.out hf2)
  clear hf2
  have x0 := held_cell r0.out 0 _ rfl
  have x1 := held_cell r0.out 1 _ rfl
  go_wp2_with fail
  go_end0
  exact ⟨rfl, hP.out, hef.out⟩
end Go.Proofs.YtcacgejljbofjaaGreatDoor
