/- Package gga: the papers' Take. -/
import Derived.Test.YtiokoakamcihcaaGreatDoorGga5
import Derived.Test.YtiokoakamcihcaaGreatDoorGga4
import Derived.Laws.Tables
import Derived.Laws.Rows
import Derived.Deep.DeepCutAuto
namespace Go.Proofs.YtiokoakamcihcaaGreatDoor
open Go.ChangeShapes Go.WideShapes Go.ChangeAt Go.RowKit
set_option linter.unusedVariables false
set_option linter.unusedSimpArgs false

set_option maxRecDepth 100000 in
set_option maxHeartbeats 4000000 in
theorem rtakeunit_any (B : Nat) (e : Int) (u : ByteArray) (R : List ByteArray) (unit : ByteArray) (i : Bool) (n : Int) (w : World) (hP : RowR w B e (u :: R)) : Calls Tryz.prog 46 #[.pointer (some ⟨B, 0, none⟩), .agg #[.bool i, .int .i64 n], .string unit] w fun r w' => r = .returned (.tuple #[]) ∧ RowR w' B (kp e (unE u unit i)) R ∧ Eff B w w' := by
  have k0 : ∀ e, kp e 0 = e := fun e => by unfold kp; split <;> omega
  have kx := hid (fun U h => rtextC B e u R U h)
  have kf := hid (fun U h => rfirstR_any B e 3 R U h)
  have hZ := temp_iff u
  by_cases c1 : u = unit
  case pos =>
    have q1 := ba_neT c1
    have q11 := q1.1
    have q12 := q1.2
    have hu : unE u unit i = 0 := by unfold unE; rw [if_neg (by first | exact ⟨c1, .inl c2⟩ | exact ⟨c1, .inr c3⟩ | exact fun h => h.1 c1 | exact fun h => h.2.elim (fun h => c2 h) (fun h => c3 h))]
    rw [hu]
    clear hu
    rw [k0]
    clear k0
    clear hZ c1 q1
    have hlt := hP.lt
    replace hP := hid hP
    go_enter Tryz.func46, Tryz.ntmps46
    go_upto_region 0 with (fail)
    apply wp_region_seg0 (w := w) (S := [.al 1000]) (E := [.al ((fun p => .pointer (some ⟨p, 0, none⟩)), _) 1000]) rfl (by kernel_rfl) rfl rfl
    intro th hge hne
    refine Seg.step _ rfl ⟨by rfl, fun U hU => ?_⟩ ?_
    · go_simp; exact vp_alloc rfl rfl rfl
    refine ⟨_, by (simp only [Ent.val]; go_simp <;> exact rfl), ?_⟩
    refine Seg.stop (fun U1 hU hk => ?_)
    have nb0 := hge 0 _ _ rfl
    have rb0 := (hk 0 _ _ rfl trivial).1.2 (by simp)
    clear hk hge hne
    generalize th (0 + 0) = p0_0 at *
    dsimp only at rb0
    have r_p0_0 := rb0
    clear rb0
    have n_p0_0 := nb0
    clear nb0
    have sz1 := hU.size
    have hB : Below w.heap.size w U1 := hU
    clear hU
    replace hP := hid (hP.out.aft hB)
    have hef := hid (eff_after24 (g := B) hB)
    clear hB
    have r0 := hid r_p0_0
    have hb_r0 : p0_0 ≠ B := by omega
    clear r_p0_0
    go_wp2_with fail
    refine (kx.out _ hP.out).mono ?_
    rintro r V1 ⟨rfl, hP2, hf2⟩
    replace hP := hid hP2
    clear hP2
    replace r0 := hid (eff_block24 hf2 r0.out hb_r0)
    replace hef := hid (eff_trans24 hef.out hf2)
    clear hf2
    have x0 := held_cell r0.out 0 _ rfl
    have x1 := held_cell r0.out 1 _ rfl
    go_wp2_with fail
    go_end0
    exact ⟨rfl, hP.out, hef.out⟩
  have q1 := ba_neF c1
  have q11 := q1.1
  have q12 := q1.2
  by_cases c3 : i = true
  case pos =>
    have hu : unE u unit i = 3 := by unfold unE; rw [if_pos (by first | exact ⟨c1, .inl c2⟩ | exact ⟨c1, .inr c3⟩ | exact fun h => h.1 c1 | exact fun h => h.2.elim (fun h => c2 h) (fun h => c3 h))]
    rw [hu]
    clear hu
    clear k0
    subst c3
    clear hZ c1 q1
    have hlt := hP.lt
    replace hP := hid hP
    go_enter Tryz.func46, Tryz.ntmps46
    go_upto_region 0 with (fail)
    apply wp_region_seg0 (w := w) (S := [.al 1000]) (E := [.al ((fun p => .pointer (some ⟨p, 0, none⟩)), _) 1000]) rfl (by kernel_rfl) rfl rfl
    intro th hge hne
    refine Seg.step _ rfl ⟨by rfl, fun U hU => ?_⟩ ?_
    · go_simp; exact vp_alloc rfl rfl rfl
    refine ⟨_, by (simp only [Ent.val]; go_simp <;> exact rfl), ?_⟩
    refine Seg.stop (fun U1 hU hk => ?_)
    have nb0 := hge 0 _ _ rfl
    have rb0 := (hk 0 _ _ rfl trivial).1.2 (by simp)
    clear hk hge hne
    generalize th (0 + 0) = p0_0 at *
    dsimp only at rb0
    have r_p0_0 := rb0
    clear rb0
    have n_p0_0 := nb0
    clear nb0
    have sz1 := hU.size
    have hB : Below w.heap.size w U1 := hU
    clear hU
    replace hP := hid (hP.out.aft hB)
    have hef := hid (eff_after24 (g := B) hB)
    clear hB
    have r0 := hid r_p0_0
    have hb_r0 : p0_0 ≠ B := by omega
    clear r_p0_0
    go_wp2_with fail
    refine (kx.out _ hP.out).mono ?_
    rintro r V1 ⟨rfl, hP2, hf2⟩
    replace hP := hid hP2
    clear hP2
    replace r0 := hid (eff_block24 hf2 r0.out hb_r0)
    replace hef := hid (eff_trans24 hef.out hf2)
    clear hf2
    have x0 := held_cell r0.out 0 _ rfl
    have x1 := held_cell r0.out 1 _ rfl
    go_wp2_with fail
    refine (kf.out _ hP.out).mono ?_
    rintro r V2 ⟨rfl, hP2, hf2⟩
    replace hP := hid hP2
    clear hP2
    replace r0 := hid (eff_block24 hf2 r0.out hb_r0)
    replace hef := hid (eff_trans24 hef.out hf2)
    clear hf2
    clear x0 x1
    go_wp2_with fail
    go_end0
    exact ⟨rfl, hP.out, hef.out⟩
  by_cases c2 : u.size ≠ 0
  case pos =>
    have q2 : u.toList.isEmpty = false := by rw [hZ]; exact decide_eq_false c2
    have hu : unE u unit i = 3 := by unfold unE; rw [if_pos (by first | exact ⟨c1, .inl c2⟩ | exact ⟨c1, .inr c3⟩ | exact fun h => h.1 c1 | exact fun h => h.2.elim (fun h => c2 h) (fun h => c3 h))]
    rw [hu]
    clear hu
    clear k0
    have c4 : i = false := by simpa using c3
    subst c4
    clear hZ c1 c2 c3 q1
    have hlt := hP.lt
    replace hP := hid hP
    go_enter Tryz.func46, Tryz.ntmps46
    go_upto_region 0 with (fail)
    apply wp_region_seg0 (w := w) (S := [.al 1000]) (E := [.al ((fun p => .pointer (some ⟨p, 0, none⟩)), _) 1000]) rfl (by kernel_rfl) rfl rfl
    intro th hge hne
    refine Seg.step _ rfl ⟨by rfl, fun U hU => ?_⟩ ?_
    · go_simp; exact vp_alloc rfl rfl rfl
    refine ⟨_, by (simp only [Ent.val]; go_simp <;> exact rfl), ?_⟩
    refine Seg.stop (fun U1 hU hk => ?_)
    have nb0 := hge 0 _ _ rfl
    have rb0 := (hk 0 _ _ rfl trivial).1.2 (by simp)
    clear hk hge hne
    generalize th (0 + 0) = p0_0 at *
    dsimp only at rb0
    have r_p0_0 := rb0
    clear rb0
    have n_p0_0 := nb0
    clear nb0
    have sz1 := hU.size
    have hB : Below w.heap.size w U1 := hU
    clear hU
    replace hP := hid (hP.out.aft hB)
    have hef := hid (eff_after24 (g := B) hB)
    clear hB
    have r0 := hid r_p0_0
    have hb_r0 : p0_0 ≠ B := by omega
    clear r_p0_0
    go_wp2_with fail
    refine (kx.out _ hP.out).mono ?_
    rintro r V1 ⟨rfl, hP2, hf2⟩
    replace hP := hid hP2
    clear hP2
    replace r0 := hid (eff_block24 hf2 r0.out hb_r0)
    replace hef := hid (eff_trans24 hef.out hf2)
    clear hf2
    have x0 := held_cell r0.out 0 _ rfl
    have x1 := held_cell r0.out 1 _ rfl
    go_wp2_with fail
    refine (kf.out _ hP.out).mono ?_
    rintro r V2 ⟨rfl, hP2, hf2⟩
    replace hP := hid hP2
    clear hP2
    replace r0 := hid (eff_block24 hf2 r0.out hb_r0)
    replace hef := hid (eff_trans24 hef.out hf2)
    clear hf2
    clear x0 x1
    go_wp2_with fail
    go_end0
    exact ⟨rfl, hP.out, hef.out⟩
  have q2 : u.toList.isEmpty = true := by rw [hZ]; exact decide_eq_true (by omega)
  have hu : unE u unit i = 0 := by unfold unE; rw [if_neg (by first | exact ⟨c1, .inl c2⟩ | exact ⟨c1, .inr c3⟩ | exact fun h => h.1 c1 | exact fun h => h.2.elim (fun h => c2 h) (fun h => c3 h))]
  rw [hu]
  clear hu
  rw [k0]
  clear k0
  have c4 : i = false := by simpa using c3
  subst c4
  clear hZ c1 c2 c3 q1
  have hlt := hP.lt
  replace hP := hid hP
  go_enter Tryz.func46, Tryz.ntmps46
  go_upto_region 0 with (fail)
  apply wp_region_seg0 (w := w) (S := [.al 1000]) (E := [.al ((fun p => .pointer (some ⟨p, 0, none⟩)), _) 1000]) rfl (by kernel_rfl) rfl rfl
  intro th hge hne
  refine Seg.step _ rfl ⟨by rfl, fun U hU => ?_⟩ ?_
  · go_simp; exact vp_alloc rfl rfl rfl
  refine ⟨_, by (simp only [Ent.val]; go_simp <;> exact rfl), ?_⟩
  refine Seg.stop (fun U1 hU hk => ?_)
  have nb0 := hge 0 _ _ rfl
  have rb0 := (hk 0 _ _ rfl trivial).1.2 (by simp)
  clear hk hge hne
  generalize th (0 + 0) = p0_0 at *
  dsimp only at rb0
  have r_p0_0 := rb0
  clear rb0
  have n_p0_0 := nb0
  clear nb0
  have sz1 := hU.size
  have hB : Below w.heap.size w U1 := hU
  clear hU
  replace hP := hid (hP.out.aft hB)
  have hef := hid (eff_after24 (g := B) hB)
  clear hB
  have r0 := hid r_p0_0
  have hb_r0 : p0_0 ≠ B := by omega
  clear r_p0_0
  go_wp2_with fail
  refine (kx.out _ hP.out).mono ?_
  rintro r V1 ⟨rfl, hP2, hf2⟩
  replace hP := hid hP2
  clear hP2
  replace r0 := hid (eff_block24 hf2 r0.out hb_r0)
  replace hef := hid (eff_trans24 hef.out hf2)
  clear hf2
  have x0 := held_cell r0.out 0 _ rfl
  have x1 := held_cell r0.out 1 _ rfl
  go_wp2_with fail
  go_end0
  exact ⟨rfl, hP.out, hef.out⟩
set_option maxRecDepth 100000 in
set_option maxHeartbeats 32000000 in
theorem rgtake_any (s0 s1 s2 s3 s4 s5 s6 s7 s8 s9 s10 s11 s12 s13 : ByteArray) {b : Bool} {h m c2 c k : Int} {ai : Bool} {an x1 : Int} {oi : Bool} {on x2 q x3 : Int} {n1i : Bool} {n1n x4 : Int} {n2i : Bool} {n2n x5 : Int} {n3i : Bool} {n3n x6 : Int} {n4i : Bool} {n4n x7 : Int} {n5i : Bool} {n5n x8 : Int} {n6i : Bool} {n6n x9 : Int} (hV : takeV (sb s0) = .tuple #[.agg #[.bool b, .int .i64 h, .int .i64 m, .int .i64 c2, .int .i64 c], .int .i64 k]) (h1 : tkaD s1 s2 true = (ai, an, x1)) (h2 : tkaD s3 s4 false = (oi, on, x2)) (h3 : dgS s5 0 8 = (q, x3)) (h4 : takD s6 1 2 0 0 99 = (n1i, n1n, x4)) (h5 : takD s7 1 3 2 0 99999 = (n2i, n2n, x5)) (h6 : takD s8 1 6 1 (-9999999) 9999999 = (n3i, n3n, x6)) (h7 : takD s10 1 4 1 (-99999) 99999 = (n4i, n4n, x7)) (h8 : takD s12 1 4 1 0 99999 = (n5i, n5n, x8)) (h9 : takD s13 1 4 0 0 1023 = (n6i, n6n, x9)) {E : Int} (hKE : kE [k, x1, x2, x3, x4, x5, x6, (unE s9 ⟨#[77]⟩ n3i), x7, (unE s11 ⟨#[77]⟩ n4i), x8, x9] = E) (w : World) (a : Option Addr) (cap : Nat) (hEl : Els w 1 a 14 cap (strV23 [s0, s1, s2, s3, s4, s5, s6, s7, s8, s9, s10, s11, s12, s13])) (hs : ∀ s ∈ [s0, s1, s2, s3, s4, s5, s6, s7, s8, s9, s10, s11, s12, s13], s.size ≤ 1000) : Calls Tryz.prog 13 #[.slice a 14 cap] w fun r w' => r = .returned (ggR E #[.bool b, .int .i64 h, .int .i64 m, .int .i64 c2, .int .i64 c, .bool ai, .int .i64 an, .bool oi, .int .i64 on, .int .i64 q, .bool n1i, .int .i64 n1n, .bool n2i, .int .i64 n2n, .bool n3i, .int .i64 n3n, .bool n4i, .int .i64 n4n, .bool n5i, .int .i64 n5n, .bool n6i, .int .i64 n6n]) ∧ After w w' := by
  replace hKE := hid hKE
  replace h1 := hid h1
  replace h2 := hid h2
  replace h3 := hid h3
  replace h4 := hid h4
  replace h5 := hid h5
  replace h6 := hid h6
  replace h7 := hid h7
  replace h8 := hid h8
  replace h9 := hid h9
  replace hV := hid hV
  replace hEl := hid hEl
  have hs2 : s0.size ≤ 1000 ∧ s1.size ≤ 1000 ∧ s2.size ≤ 1000 ∧ s3.size ≤ 1000 ∧ s4.size ≤ 1000 ∧ s5.size ≤ 1000 ∧ s6.size ≤ 1000 ∧ s7.size ≤ 1000 ∧ s8.size ≤ 1000 ∧ s9.size ≤ 1000 ∧ s10.size ≤ 1000 ∧ s11.size ≤ 1000 ∧ s12.size ≤ 1000 ∧ s13.size ≤ 1000 := by simpa using hs
  clear hs
  obtain ⟨z_0, z_1, z_2, z_3, z_4, z_5, z_6, z_7, z_8, z_9, z_10, z_11, z_12, z_13⟩ := hs2
  replace z_0 := hid z_0
  replace z_1 := hid z_1
  replace z_2 := hid z_2
  replace z_3 := hid z_3
  replace z_4 := hid z_4
  replace z_5 := hid z_5
  replace z_6 := hid z_6
  replace z_7 := hid z_7
  replace z_8 := hid z_8
  replace z_9 := hid z_9
  replace z_10 := hid z_10
  replace z_11 := hid z_11
  replace z_12 := hid z_12
  replace z_13 := hid z_13
  go_enter Tryz.func13, Tryz.ntmps13
  go_upto_region 0 with (fail)
  apply wp_region_seg0 (w := w) (S := [.al 1000, .q []]) (E := [.al ((fun p => .pointer (some ⟨p, 0, none⟩)), _) 1000, .q0 _]) rfl (by kernel_rfl) rfl rfl
  intro th hge hne
  refine Seg.step _ rfl ⟨by rfl, fun U hU => ?_⟩ ?_
  · go_simp; exact vp_alloc rfl rfl rfl
  refine ⟨_, by (simp only [Ent.val]; go_simp <;> exact rfl), ?_⟩
  refine Seg.step _ rfl (Or.inl ⟨by rfl, fun U hU => vp_quiet (by (go_simp <;> exact rfl))⟩) ⟨_, by (simp only [Ent.val]; go_simp <;> exact rfl), ?_⟩
  refine Seg.stop (fun U1 hU hk => ?_)
  have nb0 := hge 0 _ _ rfl
  have rb0 := (hk 0 _ _ rfl trivial).1.2 (by simp)
  clear hk hge hne
  generalize th (0 + 0) = p0_0 at *
  dsimp only at rb0
  have r_p0_0 := rb0
  clear rb0
  have n_p0_0 := nb0
  clear nb0
  have sz1 := hU.size
  have hB : Below w.heap.size w U1 := hU
  clear hU
  have hEl1 := hEl.out.below hB
  have hl0 := held_lt r_p0_0
  go_wp2_with fail
  refine (rcols_any _).mono ?_
  rintro r V ⟨pc, rfl, r_pc, hA, hlC⟩
  replace hB := bthen hB hA
  replace r_p0_0 := held_after hA r_p0_0
  replace hEl1 := hEl1.below hA
  clear hA
  have hlc := held_lt r_pc
  go_upto_region 4 with (fail)
  apply wp_region_seg0 (w := V) (S := [.q [], .q [], .al 1000, .q [2]]) (E := [.q0 _, .q0 _, .al ((fun p => .pointer (some ⟨p, 0, none⟩)), _) 1000, .q1 2 (fun p => .pointer (some ⟨p, 0, none⟩))]) rfl (by kernel_rfl) rfl rfl
  intro th hge hne
  refine Seg.step _ rfl (Or.inl ⟨by rfl, fun U hU => vp_quiet (by (go_simp <;> exact rfl))⟩) ⟨_, by (simp only [Ent.val]; go_simp <;> exact rfl), ?_⟩
  refine Seg.step _ rfl (Or.inl ⟨by rfl, fun U hU => vp_quiet (by (go_simp <;> exact rfl))⟩) ⟨_, by (simp only [Ent.val]; go_simp <;> exact rfl), ?_⟩
  refine Seg.step _ rfl ⟨by rfl, fun U hU => ?_⟩ ?_
  · go_simp; exact vp_alloc rfl rfl rfl
  refine ⟨_, by (simp only [Ent.val]; go_simp <;> exact rfl), ?_⟩
  refine Seg.step _ rfl (Or.inl ⟨by rfl, fun U hU => vp_quiet (by (go_simp <;> exact rfl))⟩) ⟨_, by (simp only [Ent.val]; go_simp <;> exact rfl), ?_⟩
  refine Seg.stop (fun U2 hU hk => ?_)
  have nb2 := hge 2 _ _ rfl
  have rb2 := (hk 2 _ _ rfl trivial).1.2 (by simp)
  clear hk hge hne
  generalize th (0 + 2) = p4_2 at *
  dsimp only at rb2
  replace r_p0_0 := held_after hU r_p0_0
  replace r_pc := held_after hU r_pc
  replace hEl1 := hEl1.below hU
  have r_p4_2 := rb2
  clear rb2
  have n_p4_2 := nb2
  clear nb2
  have sz2 := hU.size
  replace hB := bthen hB hU
  clear hU
  have hnB : ∀ x, a = some x → x.block ≠ p4_2 := by
    intro x hx e2
    obtain ⟨-, b0, off0, e0, hc0⟩ := hEl.out.2.2.2.2 0 [.string s0] rfl
    have hb0 := World.block_lt_of_cell? w _ (hc0 0 (.string s0) rfl)
    rw [hx] at e0
    have e3 := Option.some.inj e0
    subst e3
    dsimp only at e2 hb0
    omega
  have hP : RowR U2 p4_2 0 [s0, s1, s2, s3, s4, s5, s6, s7, s8, s9, s10, s11, s12, s13] := ⟨[s0, s1, s2, s3, s4, s5, s6, s7, s8, s9, s10, s11, s12, s13], a, cap, 0, rfl, Nat.zero_le _, by simp, r_p4_2, hEl1, hnB⟩
  clear r_p4_2 hEl1 hnB
  obtain ⟨B, hBe⟩ : ∃ B, B = p4_2 := ⟨_, rfl⟩
  subst hBe
  have ne0 : p0_0 ≠ B := by omega
  have nec : pc ≠ B := by omega
  have hBw : w.heap.size ≤ B := by have := sz1; omega
  have hlp := hP.lt
  go_upto_region 5 with (fail)
  have hlp2 := hP.lt
  have hla := held_lt r_p0_0
  have hlb := held_lt r_pc
  apply wp_region_seg0 (w := U2) (S := [.al 1000]) (E := [.al ((fun p => .pointer (some ⟨p, 0, none⟩)), _) 1000]) rfl (by kernel_rfl) rfl rfl
  intro th hge hne
  refine Seg.step _ rfl ⟨by rfl, fun U hU => ?_⟩ ?_
  · go_simp; exact vp_alloc rfl rfl rfl
  refine ⟨_, by (simp only [Ent.val]; go_simp <;> exact rfl), ?_⟩
  refine Seg.stop (fun U3 hU hk => ?_)
  have nb0 := hge 0 _ _ rfl
  have rb0 := (hk 0 _ _ rfl trivial).1.2 (by simp)
  clear hk hge hne
  generalize th (0 + 0) = p5_0 at *
  dsimp only at rb0
  replace r_p0_0 := held_after hU r_p0_0
  replace r_pc := held_after hU r_pc
  replace hP := hP.below hU
  have r_p5_0 := rb0
  clear rb0
  have n_p5_0 := nb0
  clear nb0
  have sz3 := hU.size
  replace hB := bthen hB hU
  clear hU
  have neg : p5_0 ≠ B := by omega
  have hgw : w.heap.size ≤ p5_0 := Nat.le_trans (by omega) n_p5_0
  have d0_p0_0 : p0_0 ≠ p5_0 := by omega
  have d0_pc : pc ≠ p5_0 := by omega
  go_upto_region 6 with (fail)
  go_wp2_with fail
  refine (rtakeclock_any B 0 s0 [s1, s2, s3, s4, s5, s6, s7, s8, s9, s10, s11, s12, s13] hV.out _ hP (by simp) (by have := z_0.out; omega)).mono ?_
  rintro r Y1 ⟨rfl, hP2, hf2⟩
  replace r_p0_0 := eff_block24 hf2 r_p0_0 ne0
  replace r_pc := eff_block24 hf2 r_pc nec
  replace r_p5_0 := eff_block24 hf2 r_p5_0 neg
  replace hB := eff_below24 hB hf2 hBw (by have := hB.size; omega)
  obtain ⟨E1, hE1⟩ : ∃ E, kp 0 k = E := ⟨_, rfl⟩
  rw [hE1] at hP2
  replace hE1 := hid hE1
  replace hP := hP2
  clear hP2 hf2
  have k0 := held_cell r_p5_0 0 _ rfl
  have k1 := held_cell r_p5_0 1 _ rfl
  have k2 := held_cell r_p5_0 2 _ rfl
  have k3 := held_cell r_p5_0 3 _ rfl
  have k4 := held_cell r_p5_0 4 _ rfl
  have g0 := held_free r_p5_0 0
  have g1 := held_free r_p5_0 1
  have g2 := held_free r_p5_0 2
  have g3 := held_free r_p5_0 3
  have g4 := held_free r_p5_0 4
  obtain ⟨S0, hS0, s1, o1⟩ := sg0 r_p5_0 (.bool b) (.int .i64 h) (.int .i64 m) (.int .i64 c2) (.int .i64 c)
  replace hP := hP.offG o1 neg r_p5_0 (by intro j s h; match j, h with | 0, h => simp at h | 1, h => simp at h | 2, h => simp at h | 3, h => simp at h | 4, h => simp at h | 5, h => simp at h | 6, h => simp at h | 7, h => simp at h | 8, h => simp at h | 9, h => simp at h | 10, h => simp at h | 11, h => simp at h | 12, h => simp at h | 13, h => simp at h | 14, h => simp at h | 15, h => simp at h | 16, h => simp at h | 17, h => simp at h | 18, h => simp at h | 19, h => simp at h | 20, h => simp at h | 21, h => simp at h | j + 22, h => simp at h)
  replace hB := belowS hB o1 hgw
  replace r_p0_0 := (o1.block _ d0_p0_0).trans r_p0_0
  replace r_pc := (o1.block _ d0_pc).trans r_pc
  clear o1
  go_upto_region 7 with (fail)
  replace hS0 := hid hS0
  clear k0 g0 k1 g1 k2 g2 k3 g3 k4 g4
  clear r_p5_0
  have r_p5_0 := s1
  clear s1
  go_upto_region 7 with (fail)
  go_wp2_with fail
  refine (rtakeangC B E1 s1 s2 [s3, s4, s5, s6, s7, s8, s9, s10, s11, s12, s13] true h1.out _ hP (by simp; exact ⟨z_1.out, z_2.out, z_3.out, z_4.out, z_5.out, z_6.out, z_7.out, z_8.out, z_9.out, z_10.out, z_11.out, z_12.out, z_13.out⟩)).mono ?_
  rintro r Y2 ⟨rfl, hP2, hf2⟩
  replace r_p0_0 := eff_block24 hf2 r_p0_0 ne0
  replace r_pc := eff_block24 hf2 r_pc nec
  replace r_p5_0 := eff_block24 hf2 r_p5_0 neg
  replace hB := eff_below24 hB hf2 hBw (by have := hB.size; omega)
  obtain ⟨E2, hE2⟩ : ∃ E, kp E1 x1 = E := ⟨_, rfl⟩
  rw [hE2] at hP2
  replace hE2 := hid hE2
  replace hP := hP2
  clear hP2 hf2
  have k0 := held_cell r_p5_0 5 _ rfl
  have k1 := held_cell r_p5_0 6 _ rfl
  have g0 := held_free r_p5_0 5
  have g1 := held_free r_p5_0 6
  obtain ⟨S5, hS5, s1, o1⟩ := sg5 r_p5_0 (.bool ai) (.int .i64 an)
  replace hP := hP.offG o1 neg r_p5_0 (by intro j s h; match j, h with | 0, h => simp at h | 1, h => simp at h | 2, h => simp at h | 3, h => simp at h | 4, h => simp at h | 5, h => simp at h | 6, h => simp at h | 7, h => simp at h | 8, h => simp at h | 9, h => simp at h | 10, h => simp at h | 11, h => simp at h | 12, h => simp at h | 13, h => simp at h | 14, h => simp at h | 15, h => simp at h | 16, h => simp at h | 17, h => simp at h | 18, h => simp at h | 19, h => simp at h | 20, h => simp at h | 21, h => simp at h | j + 22, h => simp at h)
  replace hB := belowS hB o1 hgw
  replace r_p0_0 := (o1.block _ d0_p0_0).trans r_p0_0
  replace r_pc := (o1.block _ d0_pc).trans r_pc
  clear o1
  go_upto_region 8 with (fail)
  replace hS5 := hid hS5
  clear k0 g0 k1 g1
  clear r_p5_0
  have r_p5_0 := s1
  clear s1
  go_upto_region 8 with (fail)
  go_wp2_with fail
  refine (rtakeangC B E2 s3 s4 [s5, s6, s7, s8, s9, s10, s11, s12, s13] false h2.out _ hP (by simp; exact ⟨z_3.out, z_4.out, z_5.out, z_6.out, z_7.out, z_8.out, z_9.out, z_10.out, z_11.out, z_12.out, z_13.out⟩)).mono ?_
  rintro r Y3 ⟨rfl, hP2, hf2⟩
  replace r_p0_0 := eff_block24 hf2 r_p0_0 ne0
  replace r_pc := eff_block24 hf2 r_pc nec
  replace r_p5_0 := eff_block24 hf2 r_p5_0 neg
  replace hB := eff_below24 hB hf2 hBw (by have := hB.size; omega)
  obtain ⟨E3, hE3⟩ : ∃ E, kp E2 x2 = E := ⟨_, rfl⟩
  rw [hE3] at hP2
  replace hE3 := hid hE3
  replace hP := hP2
  clear hP2 hf2
  have k0 := held_cell r_p5_0 7 _ rfl
  have k1 := held_cell r_p5_0 8 _ rfl
  have g0 := held_free r_p5_0 7
  have g1 := held_free r_p5_0 8
  obtain ⟨S7, hS7, s1, o1⟩ := sg7 r_p5_0 (.bool oi) (.int .i64 on)
  replace hP := hP.offG o1 neg r_p5_0 (by intro j s h; match j, h with | 0, h => simp at h | 1, h => simp at h | 2, h => simp at h | 3, h => simp at h | 4, h => simp at h | 5, h => simp at h | 6, h => simp at h | 7, h => simp at h | 8, h => simp at h | 9, h => simp at h | 10, h => simp at h | 11, h => simp at h | 12, h => simp at h | 13, h => simp at h | 14, h => simp at h | 15, h => simp at h | 16, h => simp at h | 17, h => simp at h | 18, h => simp at h | 19, h => simp at h | 20, h => simp at h | 21, h => simp at h | j + 22, h => simp at h)
  replace hB := belowS hB o1 hgw
  replace r_p0_0 := (o1.block _ d0_p0_0).trans r_p0_0
  replace r_pc := (o1.block _ d0_pc).trans r_pc
  clear o1
  go_upto_region 9 with (fail)
  replace hS7 := hid hS7
  clear k0 g0 k1 g1
  clear r_p5_0
  have r_p5_0 := s1
  clear s1
  go_upto_region 9 with (fail)
  have kq := hid (fun U h => rdigit_any B E3 s5 [s6, s7, s8, s9, s10, s11, s12, s13] 0 8 U h (by simp))
  rw [h3.out] at kq
  dsimp only at kq
  go_wp2_with fail
  refine (kq.out _ hP).mono ?_
  rintro r Y4 ⟨rfl, hP2, hf2⟩
  replace r_p0_0 := eff_block24 hf2 r_p0_0 ne0
  replace r_pc := eff_block24 hf2 r_pc nec
  replace r_p5_0 := eff_block24 hf2 r_p5_0 neg
  replace hB := eff_below24 hB hf2 hBw (by have := hB.size; omega)
  obtain ⟨E4, hE4⟩ : ∃ E, kp E3 x3 = E := ⟨_, rfl⟩
  rw [hE4] at hP2
  replace hE4 := hid hE4
  replace hP := hP2
  clear hP2 hf2
  clear kq
  have k0 := held_cell r_p5_0 9 _ rfl
  have g0 := held_free r_p5_0 9
  obtain ⟨S9, hS9, s1, o1⟩ := sg9 r_p5_0 (.int .i64 q)
  replace hP := hP.offG o1 neg r_p5_0 (by intro j s h; match j, h with | 0, h => simp at h | 1, h => simp at h | 2, h => simp at h | 3, h => simp at h | 4, h => simp at h | 5, h => simp at h | 6, h => simp at h | 7, h => simp at h | 8, h => simp at h | 9, h => simp at h | 10, h => simp at h | 11, h => simp at h | 12, h => simp at h | 13, h => simp at h | 14, h => simp at h | 15, h => simp at h | 16, h => simp at h | 17, h => simp at h | 18, h => simp at h | 19, h => simp at h | 20, h => simp at h | 21, h => simp at h | j + 22, h => simp at h)
  replace hB := belowS hB o1 hgw
  replace r_p0_0 := (o1.block _ d0_p0_0).trans r_p0_0
  replace r_pc := (o1.block _ d0_pc).trans r_pc
  clear o1
  go_upto_region 10 with (fail)
  replace hS9 := hid hS9
  clear k0 g0
  clear r_p5_0
  have r_p5_0 := s1
  clear s1
  have cc0 := held_cell r_pc 0 _ rfl
  have cc1 := held_cell r_pc 1 _ rfl
  have cc2 := held_cell r_pc 2 _ rfl
  have cc3 := held_cell r_pc 3 _ rfl
  have cc4 := held_cell r_pc 4 _ rfl
  go_wp2_with fail
  refine (rtakenumC B E4 s6 [s7, s8, s9, s10, s11, s12, s13] 1 2 0 0 99 h4.out _ hP (by simp; exact ⟨z_6.out, z_7.out, z_8.out, z_9.out, z_10.out, z_11.out, z_12.out, z_13.out⟩) (by decide)).mono ?_
  rintro r Y5 ⟨rfl, hP2, hf2⟩
  replace r_p0_0 := eff_block24 hf2 r_p0_0 ne0
  replace r_pc := eff_block24 hf2 r_pc nec
  replace r_p5_0 := eff_block24 hf2 r_p5_0 neg
  replace hB := eff_below24 hB hf2 hBw (by have := hB.size; omega)
  obtain ⟨E5, hE5⟩ : ∃ E, kp E4 x4 = E := ⟨_, rfl⟩
  rw [hE5] at hP2
  replace hE5 := hid hE5
  replace hP := hP2
  clear hP2 hf2
  clear cc0 cc1 cc2 cc3 cc4
  have k0 := held_cell r_p5_0 10 _ rfl
  have k1 := held_cell r_p5_0 11 _ rfl
  have g0 := held_free r_p5_0 10
  have g1 := held_free r_p5_0 11
  obtain ⟨S10, hS10, s1, o1⟩ := sg10 r_p5_0 (.bool n1i) (.int .i64 n1n)
  replace hP := hP.offG o1 neg r_p5_0 (by intro j s h; match j, h with | 0, h => simp at h | 1, h => simp at h | 2, h => simp at h | 3, h => simp at h | 4, h => simp at h | 5, h => simp at h | 6, h => simp at h | 7, h => simp at h | 8, h => simp at h | 9, h => simp at h | 10, h => simp at h | 11, h => simp at h | 12, h => simp at h | 13, h => simp at h | 14, h => simp at h | 15, h => simp at h | 16, h => simp at h | 17, h => simp at h | 18, h => simp at h | 19, h => simp at h | 20, h => simp at h | 21, h => simp at h | j + 22, h => simp at h)
  replace hB := belowS hB o1 hgw
  replace r_p0_0 := (o1.block _ d0_p0_0).trans r_p0_0
  replace r_pc := (o1.block _ d0_pc).trans r_pc
  clear o1
  go_upto_region 11 with (fail)
  replace hS10 := hid hS10
  clear k0 g0 k1 g1
  clear r_p5_0
  have r_p5_0 := s1
  clear s1
  have cc0 := held_cell r_pc 5 _ rfl
  have cc1 := held_cell r_pc 6 _ rfl
  have cc2 := held_cell r_pc 7 _ rfl
  have cc3 := held_cell r_pc 8 _ rfl
  have cc4 := held_cell r_pc 9 _ rfl
  go_wp2_with fail
  refine (rtakenumC B E5 s7 [s8, s9, s10, s11, s12, s13] 1 3 2 0 99999 h5.out _ hP (by simp; exact ⟨z_7.out, z_8.out, z_9.out, z_10.out, z_11.out, z_12.out, z_13.out⟩) (by decide)).mono ?_
  rintro r Y6 ⟨rfl, hP2, hf2⟩
  replace r_p0_0 := eff_block24 hf2 r_p0_0 ne0
  replace r_pc := eff_block24 hf2 r_pc nec
  replace r_p5_0 := eff_block24 hf2 r_p5_0 neg
  replace hB := eff_below24 hB hf2 hBw (by have := hB.size; omega)
  obtain ⟨E6, hE6⟩ : ∃ E, kp E5 x5 = E := ⟨_, rfl⟩
  rw [hE6] at hP2
  replace hE6 := hid hE6
  replace hP := hP2
  clear hP2 hf2
  clear cc0 cc1 cc2 cc3 cc4
  have k0 := held_cell r_p5_0 12 _ rfl
  have k1 := held_cell r_p5_0 13 _ rfl
  have g0 := held_free r_p5_0 12
  have g1 := held_free r_p5_0 13
  obtain ⟨S12, hS12, s1, o1⟩ := sg12 r_p5_0 (.bool n2i) (.int .i64 n2n)
  replace hP := hP.offG o1 neg r_p5_0 (by intro j s h; match j, h with | 0, h => simp at h | 1, h => simp at h | 2, h => simp at h | 3, h => simp at h | 4, h => simp at h | 5, h => simp at h | 6, h => simp at h | 7, h => simp at h | 8, h => simp at h | 9, h => simp at h | 10, h => simp at h | 11, h => simp at h | 12, h => simp at h | 13, h => simp at h | 14, h => simp at h | 15, h => simp at h | 16, h => simp at h | 17, h => simp at h | 18, h => simp at h | 19, h => simp at h | 20, h => simp at h | 21, h => simp at h | j + 22, h => simp at h)
  replace hB := belowS hB o1 hgw
  replace r_p0_0 := (o1.block _ d0_p0_0).trans r_p0_0
  replace r_pc := (o1.block _ d0_pc).trans r_pc
  clear o1
  go_upto_region 12 with (fail)
  replace hS12 := hid hS12
  clear k0 g0 k1 g1
  clear r_p5_0
  have r_p5_0 := s1
  clear s1
  have cc0 := held_cell r_pc 10 _ rfl
  have cc1 := held_cell r_pc 11 _ rfl
  have cc2 := held_cell r_pc 12 _ rfl
  have cc3 := held_cell r_pc 13 _ rfl
  have cc4 := held_cell r_pc 14 _ rfl
  go_wp2_with fail
  refine (rtakenumC B E6 s8 [s9, s10, s11, s12, s13] 1 6 1 (-9999999) 9999999 h6.out _ hP (by simp; exact ⟨z_8.out, z_9.out, z_10.out, z_11.out, z_12.out, z_13.out⟩) (by decide)).mono ?_
  rintro r Y7 ⟨rfl, hP2, hf2⟩
  replace r_p0_0 := eff_block24 hf2 r_p0_0 ne0
  replace r_pc := eff_block24 hf2 r_pc nec
  replace r_p5_0 := eff_block24 hf2 r_p5_0 neg
  replace hB := eff_below24 hB hf2 hBw (by have := hB.size; omega)
  obtain ⟨E7, hE7⟩ : ∃ E, kp E6 x6 = E := ⟨_, rfl⟩
  rw [hE7] at hP2
  replace hE7 := hid hE7
  replace hP := hP2
  clear hP2 hf2
  clear cc0 cc1 cc2 cc3 cc4
  have k0 := held_cell r_p5_0 14 _ rfl
  have k1 := held_cell r_p5_0 15 _ rfl
  have g0 := held_free r_p5_0 14
  have g1 := held_free r_p5_0 15
  obtain ⟨S14, hS14, s1, o1⟩ := sg14 r_p5_0 (.bool n3i) (.int .i64 n3n)
  replace hP := hP.offG o1 neg r_p5_0 (by intro j s h; match j, h with | 0, h => simp at h | 1, h => simp at h | 2, h => simp at h | 3, h => simp at h | 4, h => simp at h | 5, h => simp at h | 6, h => simp at h | 7, h => simp at h | 8, h => simp at h | 9, h => simp at h | 10, h => simp at h | 11, h => simp at h | 12, h => simp at h | 13, h => simp at h | 14, h => simp at h | 15, h => simp at h | 16, h => simp at h | 17, h => simp at h | 18, h => simp at h | 19, h => simp at h | 20, h => simp at h | 21, h => simp at h | j + 22, h => simp at h)
  replace hB := belowS hB o1 hgw
  replace r_p0_0 := (o1.block _ d0_p0_0).trans r_p0_0
  replace r_pc := (o1.block _ d0_pc).trans r_pc
  clear o1
  go_upto_region 13 with (fail)
  replace hS14 := hid hS14
  clear k0 g0 k1 g1
  clear r_p5_0
  have r_p5_0 := s1
  clear s1
  have e0 := held_cell r_p5_0 14 _ rfl
  have e1 := held_cell r_p5_0 15 _ rfl
  go_wp2_with fail
  refine (rtakeunit_any B E7 s9 [s10, s11, s12, s13] ⟨#[77]⟩ n3i n3n _ hP).mono ?_
  rintro r Y8 ⟨rfl, hP2, hf2⟩
  replace r_p0_0 := eff_block24 hf2 r_p0_0 ne0
  replace r_pc := eff_block24 hf2 r_pc nec
  replace r_p5_0 := eff_block24 hf2 r_p5_0 neg
  replace hB := eff_below24 hB hf2 hBw (by have := hB.size; omega)
  obtain ⟨E8, hE8⟩ : ∃ E, kp E7 (unE s9 ⟨#[77]⟩ n3i) = E := ⟨_, rfl⟩
  rw [hE8] at hP2
  replace hE8 := hid hE8
  replace hP := hP2
  clear hP2 hf2
  clear e0 e1
  go_upto_region 14 with (fail)
  have cc0 := held_cell r_pc 15 _ rfl
  have cc1 := held_cell r_pc 16 _ rfl
  have cc2 := held_cell r_pc 17 _ rfl
  have cc3 := held_cell r_pc 18 _ rfl
  have cc4 := held_cell r_pc 19 _ rfl
  go_wp2_with fail
  refine (rtakenumC B E8 s10 [s11, s12, s13] 1 4 1 (-99999) 99999 h7.out _ hP (by simp; exact ⟨z_10.out, z_11.out, z_12.out, z_13.out⟩) (by decide)).mono ?_
  rintro r Y9 ⟨rfl, hP2, hf2⟩
  replace r_p0_0 := eff_block24 hf2 r_p0_0 ne0
  replace r_pc := eff_block24 hf2 r_pc nec
  replace r_p5_0 := eff_block24 hf2 r_p5_0 neg
  replace hB := eff_below24 hB hf2 hBw (by have := hB.size; omega)
  obtain ⟨E9, hE9⟩ : ∃ E, kp E8 x7 = E := ⟨_, rfl⟩
  rw [hE9] at hP2
  replace hE9 := hid hE9
  replace hP := hP2
  clear hP2 hf2
  clear cc0 cc1 cc2 cc3 cc4
  have k0 := held_cell r_p5_0 16 _ rfl
  have k1 := held_cell r_p5_0 17 _ rfl
  have g0 := held_free r_p5_0 16
  have g1 := held_free r_p5_0 17
  obtain ⟨S16, hS16, s1, o1⟩ := sg16 r_p5_0 (.bool n4i) (.int .i64 n4n)
  replace hP := hP.offG o1 neg r_p5_0 (by intro j s h; match j, h with | 0, h => simp at h | 1, h => simp at h | 2, h => simp at h | 3, h => simp at h | 4, h => simp at h | 5, h => simp at h | 6, h => simp at h | 7, h => simp at h | 8, h => simp at h | 9, h => simp at h | 10, h => simp at h | 11, h => simp at h | 12, h => simp at h | 13, h => simp at h | 14, h => simp at h | 15, h => simp at h | 16, h => simp at h | 17, h => simp at h | 18, h => simp at h | 19, h => simp at h | 20, h => simp at h | 21, h => simp at h | j + 22, h => simp at h)
  replace hB := belowS hB o1 hgw
  replace r_p0_0 := (o1.block _ d0_p0_0).trans r_p0_0
  replace r_pc := (o1.block _ d0_pc).trans r_pc
  clear o1
  go_upto_region 15 with (fail)
  replace hS16 := hid hS16
  clear k0 g0 k1 g1
  clear r_p5_0
  have r_p5_0 := s1
  clear s1
  have e0 := held_cell r_p5_0 16 _ rfl
  have e1 := held_cell r_p5_0 17 _ rfl
  go_wp2_with fail
  refine (rtakeunit_any B E9 s11 [s12, s13] ⟨#[77]⟩ n4i n4n _ hP).mono ?_
  rintro r Y10 ⟨rfl, hP2, hf2⟩
  replace r_p0_0 := eff_block24 hf2 r_p0_0 ne0
  replace r_pc := eff_block24 hf2 r_pc nec
  replace r_p5_0 := eff_block24 hf2 r_p5_0 neg
  replace hB := eff_below24 hB hf2 hBw (by have := hB.size; omega)
  obtain ⟨E10, hE10⟩ : ∃ E, kp E9 (unE s11 ⟨#[77]⟩ n4i) = E := ⟨_, rfl⟩
  rw [hE10] at hP2
  replace hE10 := hid hE10
  replace hP := hP2
  clear hP2 hf2
  clear e0 e1
  go_upto_region 16 with (fail)
  have cc0 := held_cell r_pc 20 _ rfl
  have cc1 := held_cell r_pc 21 _ rfl
  have cc2 := held_cell r_pc 22 _ rfl
  have cc3 := held_cell r_pc 23 _ rfl
  have cc4 := held_cell r_pc 24 _ rfl
  go_wp2_with fail
  refine (rtakenumC B E10 s12 [s13] 1 4 1 0 99999 h8.out _ hP (by simp; exact ⟨z_12.out, z_13.out⟩) (by decide)).mono ?_
  rintro r Y11 ⟨rfl, hP2, hf2⟩
  replace r_p0_0 := eff_block24 hf2 r_p0_0 ne0
  replace r_pc := eff_block24 hf2 r_pc nec
  replace r_p5_0 := eff_block24 hf2 r_p5_0 neg
  replace hB := eff_below24 hB hf2 hBw (by have := hB.size; omega)
  obtain ⟨E11, hE11⟩ : ∃ E, kp E10 x8 = E := ⟨_, rfl⟩
  rw [hE11] at hP2
  replace hE11 := hid hE11
  replace hP := hP2
  clear hP2 hf2
  clear cc0 cc1 cc2 cc3 cc4
  have k0 := held_cell r_p5_0 18 _ rfl
  have k1 := held_cell r_p5_0 19 _ rfl
  have g0 := held_free r_p5_0 18
  have g1 := held_free r_p5_0 19
  obtain ⟨S18, hS18, s1, o1⟩ := sg18 r_p5_0 (.bool n5i) (.int .i64 n5n)
  replace hP := hP.offG o1 neg r_p5_0 (by intro j s h; match j, h with | 0, h => simp at h | 1, h => simp at h | 2, h => simp at h | 3, h => simp at h | 4, h => simp at h | 5, h => simp at h | 6, h => simp at h | 7, h => simp at h | 8, h => simp at h | 9, h => simp at h | 10, h => simp at h | 11, h => simp at h | 12, h => simp at h | 13, h => simp at h | 14, h => simp at h | 15, h => simp at h | 16, h => simp at h | 17, h => simp at h | 18, h => simp at h | 19, h => simp at h | 20, h => simp at h | 21, h => simp at h | j + 22, h => simp at h)
  replace hB := belowS hB o1 hgw
  replace r_p0_0 := (o1.block _ d0_p0_0).trans r_p0_0
  replace r_pc := (o1.block _ d0_pc).trans r_pc
  clear o1
  go_upto_region 17 with (fail)
  replace hS18 := hid hS18
  clear k0 g0 k1 g1
  clear r_p5_0
  have r_p5_0 := s1
  clear s1
  have cc0 := held_cell r_pc 25 _ rfl
  have cc1 := held_cell r_pc 26 _ rfl
  have cc2 := held_cell r_pc 27 _ rfl
  have cc3 := held_cell r_pc 28 _ rfl
  have cc4 := held_cell r_pc 29 _ rfl
  go_wp2_with fail
  refine (rtakenumC B E11 s13 [] 1 4 0 0 1023 h9.out _ hP (by simp; exact z_13.out) (by decide)).mono ?_
  rintro r Y12 ⟨rfl, hP2, hf2⟩
  replace r_p0_0 := eff_block24 hf2 r_p0_0 ne0
  replace r_pc := eff_block24 hf2 r_pc nec
  replace r_p5_0 := eff_block24 hf2 r_p5_0 neg
  replace hB := eff_below24 hB hf2 hBw (by have := hB.size; omega)
  obtain ⟨E12, hE12⟩ : ∃ E, kp E11 x9 = E := ⟨_, rfl⟩
  rw [hE12] at hP2
  replace hE12 := hid hE12
  replace hP := hP2
  clear hP2 hf2
  clear cc0 cc1 cc2 cc3 cc4
  have k0 := held_cell r_p5_0 20 _ rfl
  have k1 := held_cell r_p5_0 21 _ rfl
  have g0 := held_free r_p5_0 20
  have g1 := held_free r_p5_0 21
  obtain ⟨S20, hS20, s1, o1⟩ := sg20 r_p5_0 (.bool n6i) (.int .i64 n6n)
  replace hP := hP.offG o1 neg r_p5_0 (by intro j s h; match j, h with | 0, h => simp at h | 1, h => simp at h | 2, h => simp at h | 3, h => simp at h | 4, h => simp at h | 5, h => simp at h | 6, h => simp at h | 7, h => simp at h | 8, h => simp at h | 9, h => simp at h | 10, h => simp at h | 11, h => simp at h | 12, h => simp at h | 13, h => simp at h | 14, h => simp at h | 15, h => simp at h | 16, h => simp at h | 17, h => simp at h | 18, h => simp at h | 19, h => simp at h | 20, h => simp at h | 21, h => simp at h | j + 22, h => simp at h)
  replace hB := belowS hB o1 hgw
  replace r_p0_0 := (o1.block _ d0_p0_0).trans r_p0_0
  replace r_pc := (o1.block _ d0_pc).trans r_pc
  clear o1
  go_upto_region 18 with (fail)
  replace hS20 := hid hS20
  clear k0 g0 k1 g1
  clear r_p5_0
  have r_p5_0 := s1
  clear s1
  have hEe : E = E12 := by
    rw [← hKE.out]
    show kp (kp (kp (kp (kp (kp (kp (kp (kp (kp (kp (kp 0 k) x1) x2) x3) x4) x5) x6) (unE s9 ⟨#[77]⟩ n3i)) x7) (unE s11 ⟨#[77]⟩ n4i)) x8) x9 = _
    rw [hE1.out, hE2.out, hE3.out, hE4.out, hE5.out, hE6.out, hE7.out, hE8.out, hE9.out, hE10.out, hE11.out, hE12.out]
  replace hEe := hid hEe
  obtain ⟨F0, a0, cap0, i0, q1, q2, q3, q4, q5, q6⟩ := hP
  have c9 := held_cell q4 2 _ rfl
  by_cases hE0 : E12 = 0
  case pos =>
    replace hEe := hid (hEe.out.trans hE0)
    have t0 : (E12 != 0) = false := by simpa using hE0
    have hres : ggR E #[.bool b, .int .i64 h, .int .i64 m, .int .i64 c2, .int .i64 c, .bool ai, .int .i64 an, .bool oi, .int .i64 on, .int .i64 q, .bool n1i, .int .i64 n1n, .bool n2i, .int .i64 n2n, .bool n3i, .int .i64 n3n, .bool n4i, .int .i64 n4n, .bool n5i, .int .i64 n5n, .bool n6i, .int .i64 n6n] = .tuple #[.agg #[.bool b, .int .i64 h, .int .i64 m, .int .i64 c2, .int .i64 c, .bool ai, .int .i64 an, .bool oi, .int .i64 on, .int .i64 q, .bool n1i, .int .i64 n1n, .bool n2i, .int .i64 n2n, .bool n3i, .int .i64 n3n, .bool n4i, .int .i64 n4n, .bool n5i, .int .i64 n5n, .bool n6i, .int .i64 n6n], .int .i64 0] := by unfold ggR; rw [hEe.out, if_pos rfl]
    replace hres := hid hres
    have ya := setRow_heap S20 p0_0 _ #[.bool b, .int .i64 h, .int .i64 m, .int .i64 c2, .int .i64 c, .bool ai, .int .i64 an, .bool oi, .int .i64 on, .int .i64 q, .bool n1i, .int .i64 n1n, .bool n2i, .int .i64 n2n, .bool n3i, .int .i64 n3n, .bool n4i, .int .i64 n4n, .bool n5i, .int .i64 n5n, .bool n6i, .int .i64 n6n] 27 (0, 0) r_p0_0
    have yO : Only p0_0 S20 (S20.setRow p0_0 #[.bool b, .int .i64 h, .int .i64 m, .int .i64 c2, .int .i64 c, .bool ai, .int .i64 an, .bool oi, .int .i64 on, .int .i64 q, .bool n1i, .int .i64 n1n, .bool n2i, .int .i64 n2n, .bool n3i, .int .i64 n3n, .bool n4i, .int .i64 n4n, .bool n5i, .int .i64 n5n, .bool n6i, .int .i64 n6n]) := ⟨rfl, rfl, rfl, by simp [World.setRow], fun k hk => setRow_other _ _ _ _ hk⟩
    obtain ⟨W9, hW9⟩ : ∃ X, S20.setRow p0_0 #[.bool b, .int .i64 h, .int .i64 m, .int .i64 c2, .int .i64 c, .bool ai, .int .i64 an, .bool oi, .int .i64 on, .int .i64 q, .bool n1i, .int .i64 n1n, .bool n2i, .int .i64 n2n, .bool n3i, .int .i64 n3n, .bool n4i, .int .i64 n4n, .bool n5i, .int .i64 n5n, .bool n6i, .int .i64 n6n] = X := ⟨_, rfl⟩
    rw [hW9] at ya yO
    have hB9 := hid (belowS hB yO (by omega))
    have hld := run_loadVar_row (P := Tryz.prog) W9 p0_0 27 27 #[.bool b, .int .i64 h, .int .i64 m, .int .i64 c2, .int .i64 c, .bool ai, .int .i64 an, .bool oi, .int .i64 on, .int .i64 q, .bool n1i, .int .i64 n1n, .bool n2i, .int .i64 n2n, .bool n3i, .int .i64 n3n, .bool n4i, .int .i64 n4n, .bool n5i, .int .i64 n5n, .bool n6i, .int .i64 n6n] (0, 0) _ ya Tryz.underlying27 rfl (by kernel_rfl)
    replace ya := hid ya
    clear yO
    go_wp2_with (first | (refine wpList_load_row rfl 27 (.tmp 6) rfl p5_0 rfl 27 #[.bool b, .int .i64 h, .int .i64 m, .int .i64 c2, .int .i64 c, .bool ai, .int .i64 an, .bool oi, .int .i64 on, .int .i64 q, .bool n1i, .int .i64 n1n, .bool n2i, .int .i64 n2n, .bool n3i, .int .i64 n3n, .bool n4i, .int .i64 n4n, .bool n5i, .int .i64 n5n, .bool n6i, .int .i64 n6n] (0, 0) _ r_p5_0 Tryz.underlying27 rfl (by kernel_rfl) ?_) | (refine wpList_store_row rfl 27 (.tmp 2) (.tmp 81) rfl p0_0 #[.bool b, .int .i64 h, .int .i64 m, .int .i64 c2, .int .i64 c, .bool ai, .int .i64 an, .bool oi, .int .i64 on, .int .i64 q, .bool n1i, .int .i64 n1n, .bool n2i, .int .i64 n2n, .bool n3i, .int .i64 n3n, .bool n4i, .int .i64 n4n, .bool n5i, .int .i64 n5n, .bool n6i, .int .i64 n6n] rfl rfl 27 _ r_p0_0 (by kernel_rfl) rfl (by simp [Value.oneCell']) ?_; rw [hW9]))
    refine bodyPost_ret (v := .tuple #[.agg #[.bool b, .int .i64 h, .int .i64 m, .int .i64 c2, .int .i64 c, .bool ai, .int .i64 an, .bool oi, .int .i64 on, .int .i64 q, .bool n1i, .int .i64 n1n, .bool n2i, .int .i64 n2n, .bool n3i, .int .i64 n3n, .bool n4i, .int .i64 n4n, .bool n5i, .int .i64 n5n, .bool n6i, .int .i64 n6n], .int .i64 0]) (by simp [results, Tryz.results13, asAddr, hld]) rfl ⟨by rw [hres.out], hB9.out⟩
  case neg =>
    have t0 : (E12 != 0) = true := by simpa using hE0
    have hres : ggR E #[.bool b, .int .i64 h, .int .i64 m, .int .i64 c2, .int .i64 c, .bool ai, .int .i64 an, .bool oi, .int .i64 on, .int .i64 q, .bool n1i, .int .i64 n1n, .bool n2i, .int .i64 n2n, .bool n3i, .int .i64 n3n, .bool n4i, .int .i64 n4n, .bool n5i, .int .i64 n5n, .bool n6i, .int .i64 n6n] = .tuple #[.agg #[.bool false, .int .i64 0, .int .i64 0, .int .i64 0, .int .i64 0, .bool false, .int .i64 0, .bool false, .int .i64 0, .int .i64 0, .bool false, .int .i64 0, .bool false, .int .i64 0, .bool false, .int .i64 0, .bool false, .int .i64 0, .bool false, .int .i64 0, .bool false, .int .i64 0], .int .i64 E12] := by unfold ggR; rw [hEe.out, if_neg hE0]
    replace hres := hid hres
    go_upto_region 19 with (fail)
    obtain ⟨QQ, hQQ⟩ : ∃ X, S20.drew = X := ⟨_, rfl⟩
    have rp0q : QQ.heap[p0_0]? = some (.cells #[.bool false, .int .i64 0, .int .i64 0, .int .i64 0, .int .i64 0, .bool false, .int .i64 0, .bool false, .int .i64 0, .int .i64 0, .bool false, .int .i64 0, .bool false, .int .i64 0, .bool false, .int .i64 0, .bool false, .int .i64 0, .bool false, .int .i64 0, .bool false, .int .i64 0] 27 (0, 0)) := by rw [← hQQ]; exact r_p0_0
    have c9q : QQ.cell? ⟨B, 2, none⟩ = some (.int .i64 E12) := by rw [← hQQ]; exact c9
    have hBq : Below w.heap.size w QQ := by rw [← hQQ]; exact hB.drew
    have hlq : B < QQ.heap.size := by rw [← hQQ]; exact held_lt q4
    have ya := setRow_heap QQ p0_0 _ #[.bool false, .int .i64 0, .int .i64 0, .int .i64 0, .int .i64 0, .bool false, .int .i64 0, .bool false, .int .i64 0, .int .i64 0, .bool false, .int .i64 0, .bool false, .int .i64 0, .bool false, .int .i64 0, .bool false, .int .i64 0, .bool false, .int .i64 0, .bool false, .int .i64 0] 27 (0, 0) rp0q
    have yO : Only p0_0 QQ (QQ.setRow p0_0 #[.bool false, .int .i64 0, .int .i64 0, .int .i64 0, .int .i64 0, .bool false, .int .i64 0, .bool false, .int .i64 0, .int .i64 0, .bool false, .int .i64 0, .bool false, .int .i64 0, .bool false, .int .i64 0, .bool false, .int .i64 0, .bool false, .int .i64 0, .bool false, .int .i64 0]) := ⟨rfl, rfl, rfl, by simp [World.setRow], fun k hk => setRow_other _ _ _ _ hk⟩
    obtain ⟨W9, hW9⟩ : ∃ X, QQ.setRow p0_0 #[.bool false, .int .i64 0, .int .i64 0, .int .i64 0, .int .i64 0, .bool false, .int .i64 0, .bool false, .int .i64 0, .int .i64 0, .bool false, .int .i64 0, .bool false, .int .i64 0, .bool false, .int .i64 0, .bool false, .int .i64 0, .bool false, .int .i64 0, .bool false, .int .i64 0] = X := ⟨_, rfl⟩
    rw [hW9] at ya yO
    have hB9 := hid (belowS hBq yO (by omega))
    have hld := run_loadVar_row (P := Tryz.prog) W9 p0_0 27 27 #[.bool false, .int .i64 0, .int .i64 0, .int .i64 0, .int .i64 0, .bool false, .int .i64 0, .bool false, .int .i64 0, .int .i64 0, .bool false, .int .i64 0, .bool false, .int .i64 0, .bool false, .int .i64 0, .bool false, .int .i64 0, .bool false, .int .i64 0, .bool false, .int .i64 0] (0, 0) _ ya Tryz.underlying27 rfl (by kernel_rfl)
    replace ya := hid ya
    clear yO
    refine wp_region_K (N := QQ.heap.size) (X := [p0_0]) (by kernel_rfl) ?_
    rw [hQQ]
    refine wpAnyK_take 0 rfl (by kernel_rfl) (by kernel_rfl) (by kernel_rfl) (fun _ _ _ _ h => h) ⟨_, Or.inl ⟨by rfl, fun w2 hb => by (go_simp; try with_reducible rfl)⟩, _, by (go_simp; try rfl), ?_⟩
    refine wpAnyK_take 1 rfl (by kernel_rfl) (by kernel_rfl) (by kernel_rfl) (fun _ _ _ _ h => h) ⟨_, Or.inl ⟨by rfl, fun w2 hb => by (go_simp; try with_reducible rfl)⟩, _, by (go_simp; try rfl), ?_⟩
    refine wpAnyK_take 2 rfl (by kernel_rfl) (by kernel_rfl) (by kernel_rfl) (fun _ _ _ _ h => h) ⟨_, Or.inl ⟨by rfl, fun w2 hb => by (go_simp; try with_reducible rfl)⟩, _, by (go_simp; try rfl), ?_⟩
    refine wpAnyK_take 3 rfl (by kernel_rfl) (by kernel_rfl) (by kernel_rfl) (fun _ _ _ _ h => h) ⟨_, Or.inl ⟨by rfl, fun w2 hb => by (go_simp; try with_reducible rfl)⟩, _, by (go_simp; try rfl), ?_⟩
    refine wpAnyK_take 4 rfl (by kernel_rfl) (by kernel_rfl) (by kernel_rfl) (fun _ _ _ _ h => h) ⟨_, Or.inl ⟨by rfl, fun w2 hb => by (have h0 := Kp.cellB hb (by simpa using hlq) (by simp; omega) c9q; go_simp; try with_reducible rfl)⟩, _, by (go_simp; try rfl), ?_⟩
    refine wpAnyK_only 5 rfl (by kernel_rfl) (by rfl) (fun K hK => ?_)
    refine wp_store_row 27 (.tmp 2) (.tmp 76) rfl p0_0 #[.bool false, .int .i64 0, .int .i64 0, .int .i64 0, .int .i64 0, .bool false, .int .i64 0, .bool false, .int .i64 0, .int .i64 0, .bool false, .int .i64 0, .bool false, .int .i64 0, .bool false, .int .i64 0, .bool false, .int .i64 0, .bool false, .int .i64 0, .bool false, .int .i64 0] rfl rfl 27 _ rp0q (by kernel_rfl) rfl (by simp [Value.oneCell']) ?_
    refine hK _ _ ⟨⟨rfl, rfl, rfl, by simp [World.setRow], fun k h1 h2 => setRow_other _ _ _ _ (fun e => h2 (by simp [e]))⟩, ?_⟩
    clear hK
    rw [hW9]
    refine wpAnyK_take 6 rfl (by kernel_rfl) (by kernel_rfl) (by kernel_rfl) (fun _ _ _ _ h => h) ⟨_, Or.inl ⟨by rfl, fun w2 hb => by (go_simp; try with_reducible rfl)⟩, _, by (go_simp; try rfl), ?_⟩
    refine wpAnyK_done (by kernel_rfl) ?_ _
    go_wp2_with fail
    refine bodyPost_ret (v := .tuple #[.agg #[.bool false, .int .i64 0, .int .i64 0, .int .i64 0, .int .i64 0, .bool false, .int .i64 0, .bool false, .int .i64 0, .int .i64 0, .bool false, .int .i64 0, .bool false, .int .i64 0, .bool false, .int .i64 0, .bool false, .int .i64 0, .bool false, .int .i64 0, .bool false, .int .i64 0], .int .i64 E12]) (by simp [results, Tryz.results13, asAddr, hld]) rfl ⟨by rw [hres.out], hB9.out⟩

end Go.Proofs.YtiokoakamcihcaaGreatDoor
