/- The laws of layer 26: RmcBack. -/
import Derived.Test.YthnoomdhgbaecaaGreatDoorRmcB
import Derived.Laws.StructEq
import Derived.Deep.DeepCutAuto
namespace Go.Proofs.YthnoomdhgbaecaaGreatDoor

open Go.ChangeShapes Go.WideShapes Go.ChangeAt Go.RowKit

set_option linter.unusedVariables false

set_option linter.unusedSimpArgs false

set_option maxRecDepth 100000 in
set_option maxHeartbeats 32000000 in
theorem law_RmcBack (a0_0 : Bool) (a0_1 : Int) (a0_2 : Int) (a0_3 : Int) (a0_4 : Int) (a0_5 : Bool) (a0_6 : Bool) (a0_7 : Int) (a0_8 : Bool) (a0_9 : Int) (a0_10 : Bool) (a0_11 : Int) (a0_12 : Bool) (a0_13 : Int) (a0_14 : Bool) (a0_15 : Int) (a0_16 : Bool) (a0_17 : Int) (a0_18 : Int) (a0_19 : Int) (a1 : Option Addr) (len1 cap1 : Nat) (x1 : List (List Value)) (W : World) (w0_1 : (Lit.int .i64 a0_1).wf = true) (w0_2 : (Lit.int .i64 a0_2).wf = true) (w0_3 : (Lit.int .i64 a0_3).wf = true) (w0_4 : (Lit.int .i64 a0_4).wf = true) (w0_7 : (Lit.int .i64 a0_7).wf = true) (w0_9 : (Lit.int .i64 a0_9).wf = true) (w0_11 : (Lit.int .i64 a0_11).wf = true) (w0_13 : (Lit.int .i64 a0_13).wf = true) (w0_15 : (Lit.int .i64 a0_15).wf = true) (w0_17 : (Lit.int .i64 a0_17).wf = true) (w0_18 : (Lit.int .i64 a0_18).wf = true) (w0_19 : (Lit.int .i64 a0_19).wf = true) (w1 : Els W 1 a1 len1 cap1 x1) (t1 : ∀ x ∈ x1, (∃ (c0 : ByteArray), x = [.string c0] ∧ (c0.size ≤ maxLen))) (hT : Tab W) :
    Calls Tryz.prog 5 #[.agg #[.bool a0_0, .int .i64 a0_1, .int .i64 a0_2, .int .i64 a0_3, .int .i64 a0_4, .bool a0_5, .bool a0_6, .int .i64 a0_7, .bool a0_8, .int .i64 a0_9, .bool a0_10, .int .i64 a0_11, .bool a0_12, .int .i64 a0_13, .bool a0_14, .int .i64 a0_15, .bool a0_16, .int .i64 a0_17, .int .i64 a0_18, .int .i64 a0_19], .slice a1 len1 cap1] W fun e w' => e = .returned (.bool true) ∧ Below W.heap.size W w' := by
  have hbd := And.intro (bounds_i64 w0_7) (And.intro (bounds_i64 w0_9) (And.intro (bounds_i64 w0_11) (And.intro (bounds_i64 w0_13) (bounds_i64 w0_15))))
  clear w0_1 w0_2 w0_3 w0_4 w0_7 w0_9 w0_11 w0_13 w0_15 w0_17 w0_18 w0_19
  obtain ⟨T, k, hV, -⟩ := putV_form a0_0 a0_1 a0_2 a0_3 a0_4
  obtain ⟨Td, kd, hD⟩ := putD_form26 a0_16 a0_17 a0_18 a0_19
  have kP := hid (fun U (h : Tab U) => rmput_any a0_0 a0_1 a0_2 a0_3 a0_4 a0_5 a0_6 a0_7 a0_8 a0_9 a0_10 a0_11 a0_12 a0_13 a0_14 a0_15 a0_16 a0_17 a0_18 a0_19 T k Td kd hV hD U hbd h)
  have kB := hid (rback1 a0_0 a0_1 a0_2 a0_3 a0_4 a0_5 a0_6 a0_7 a0_8 a0_9 a0_10 a0_11 a0_12 a0_13 a0_14 a0_15 a0_16 a0_17 a0_18 a0_19 T k Td kd hV hD)
  obtain ⟨E, hE⟩ : ∃ E, fE (rmI T k a0_5 a0_6 a0_7 a0_8 a0_9 a0_10 a0_11 a0_12 a0_13 a0_14 a0_15 Td kd) = E := ⟨_, rfl⟩
  obtain ⟨L, hL⟩ : ∃ L, fL (rmI T k a0_5 a0_6 a0_7 a0_8 a0_9 a0_10 a0_11 a0_12 a0_13 a0_14 a0_15 Td kd) = L := ⟨_, rfl⟩
  rw [hE, hL] at kP kB
  clear hE hL hV hD hbd
  obtain ⟨F, rfl⟩ : ∃ F, x1 = strV23 F := strV23_of x1 (fun x hx => by obtain ⟨c, h, -⟩ := t1 x hx; exact ⟨c, h⟩)
  have hlen := w1.1
  rw [strV23_len] at hlen
  have hEl := hid w1
  clear t1 w1
  replace hT := hid hT
  have two : (∀ f ∈ F, f.size ≤ 100) → (∃ X : Int, X ≠ 0 ∧ ∀ (U : World) a cap, Els U 1 a len1 cap (strV23 F) → Calls Tryz.prog 14 #[.slice a len1 cap] U fun r w' => r = .returned (.tuple #[.agg #[.bool false, .int .i64 0, .int .i64 0, .int .i64 0, .int .i64 0, .bool false, .bool false, .int .i64 0, .bool false, .int .i64 0, .bool false, .int .i64 0, .bool false, .int .i64 0, .bool false, .int .i64 0, .bool false, .int .i64 0, .int .i64 0, .int .i64 0], .int .i64 X]) ∧ After U w') ∨ (∃ (b : Bool) (ho : Int) (mi : Int) (se : Int) (ce : Int) (ac : Bool) (ai : Bool) (an : Int) (oi : Bool) (on : Int) (pi : Bool) (pn : Int) (ci : Bool) (cn : Int) (vi : Bool) (vn : Int) (db : Bool) (dd : Int) (dm : Int) (dy : Int), (∀ (U : World) a cap, Els U 1 a len1 cap (strV23 F) → Calls Tryz.prog 14 #[.slice a len1 cap] U fun r w' => r = .returned (.tuple #[.agg #[.bool b, .int .i64 ho, .int .i64 mi, .int .i64 se, .int .i64 ce, .bool ac, .bool ai, .int .i64 an, .bool oi, .int .i64 on, .bool pi, .int .i64 pn, .bool ci, .int .i64 cn, .bool vi, .int .i64 vn, .bool db, .int .i64 dd, .int .i64 dm, .int .i64 dy], .int .i64 0]) ∧ After U w') ∧ 11 ≤ len1 ∧ ∃ M : List ByteArray, M.length = 11 ∧ (∀ U : World, Tab U → Calls Tryz.prog 6 #[.agg #[.bool b, .int .i64 ho, .int .i64 mi, .int .i64 se, .int .i64 ce, .bool ac, .bool ai, .int .i64 an, .bool oi, .int .i64 on, .bool pi, .int .i64 pn, .bool ci, .int .i64 cn, .bool vi, .int .i64 vn, .bool db, .int .i64 dd, .int .i64 dm, .int .i64 dy]] U fun r w' => DnOk U 0 M r w') ∧ (∀ (U : World) a cap, Els U 1 a 11 cap (strV23 M) → Calls Tryz.prog 14 #[.slice a 11 cap] U fun r w' => r = .returned (.tuple #[.agg #[.bool b, .int .i64 ho, .int .i64 mi, .int .i64 se, .int .i64 ce, .bool ac, .bool ai, .int .i64 an, .bool oi, .int .i64 on, .bool pi, .int .i64 pn, .bool ci, .int .i64 cn, .bool vi, .int .i64 vn, .bool db, .int .i64 dd, .int .i64 dm, .int .i64 dy], .int .i64 0]) ∧ After U w') ∧ ∀ (i : Nat) (t s : ByteArray), M[i]? = some t → F[i]? = some s → t.size ≤ s.size) := by
    intro h100
    by_cases hl : len1 = 11 ∨ len1 = 12
    case neg => exact .inl ⟨3, by decide, fun U a cap _ => rmtake_no U a len1 cap (by omega)⟩
    obtain ⟨s0, s1, s2, s3, s4, s5, s6, s7, s8, s9, s10, R, hR, hn, rfl⟩ := list11 (hlen ▸ hl)
    rw [hlen] at hn
    obtain ⟨b, ho, mi, se, ce, k, hV, -⟩ := takeV_form (sb s0)
    obtain ⟨⟨ai, an, x1⟩, h1⟩ : ∃ r, tkaD s2 s3 true = r := ⟨_, rfl⟩
    obtain ⟨⟨oi, on, x2⟩, h2⟩ : ∃ r, tkaD s4 s5 false = r := ⟨_, rfl⟩
    obtain ⟨⟨pi, pn, x3⟩, h3⟩ : ∃ r, takD s6 1 4 2 0 999999 = r := ⟨_, rfl⟩
    obtain ⟨⟨ci, cn, x4⟩, h4⟩ : ∃ r, takD s7 1 3 2 0 36000 = r := ⟨_, rfl⟩
    obtain ⟨db, dd, dm, dy, kd, hD⟩ := takeD_form26 (sb s8)
    obtain ⟨⟨vi, vn, x5⟩, h5⟩ : ∃ r, takD s9 1 3 1 0 1800 = r := ⟨_, rfl⟩
    obtain ⟨E2, hE2⟩ : ∃ E, moL (kp (kp (kp (kp (kp (kp (kp (kp 0 k) (onE s1 ⟨#[65]⟩ ⟨#[86]⟩)) x1) x2) x3) x4) kd) (tvD (vi, vn, x5) s10).2.2) R = E := ⟨_, rfl⟩
    have h1000 : ∀ s ∈ (s0 :: s1 :: s2 :: s3 :: s4 :: s5 :: s6 :: s7 :: s8 :: s9 :: s10 :: R), s.size ≤ 1000 := fun s hs => Nat.le_trans (h100 s hs) (by decide)
    by_cases hE0 : E2 = 0
    · subst hE0
      have hq := tv_val (kp_ok (moL_zero hE2)).2
      obtain ⟨T2, Td2, hV2, hD2, hz, hb2, hsz⟩ := rback2 s0 s1 s2 s3 s4 s5 s6 s7 s8 s9 s10 R hR hV h1 h2 h3 h4 hD h5 hE2
      obtain ⟨hl2, hk2⟩ := rback1 b ho mi se ce (decide (s1 = ⟨#[65]⟩)) ai an oi on pi pn ci cn vi (sdN s10 vn) db dd dm dy T2 0 Td2 0 hV2 hD2 hz
      have kp2 := fun (U : World) (hTU : Tab U) => rmput_any b ho mi se ce (decide (s1 = ⟨#[65]⟩)) ai an oi on pi pn ci cn vi (sdN s10 vn) db dd dm dy T2 0 Td2 0 hV2 hD2 U hb2 hTU
      rw [hz] at kp2
      have kt2 := fun U a cap hU => rmtake_any s0 s1 s2 s3 s4 s5 s6 s7 s8 s9 s10 R hR hV h1 h2 h3 h4 hD h5 hE2 U a len1 cap hn hU h1000
      rw [hq.2.2.1, hq.2.2.2] at kt2
      refine .inr ⟨b, ho, mi, se, ce, decide (s1 = ⟨#[65]⟩), ai, an, oi, on, pi, pn, ci, cn, vi, (sdN s10 vn), db, dd, dm, dy, kt2, by omega, _, hl2, kp2, hk2, hsz⟩
    · refine .inl ⟨E2, hE0, fun U a cap hU => ?_⟩
      have := rmtake_any s0 s1 s2 s3 s4 s5 s6 s7 s8 s9 s10 R hR hV h1 h2 h3 h4 hD h5 hE2 U a len1 cap hn hU h1000
      unfold rmR at this
      rw [if_neg hE0] at this
      exact this
  replace two := hid two
  go_enter Tryz.func5, Tryz.ntmps5
  go_upto_region 0 with (fail)
  apply wp_region_seg0 (w := W) (S := [.al 1000, .q []]) (E := [.al ((fun p => .pointer (some ⟨p, 0, none⟩)), _) 1000, .q0 _]) rfl (by kernel_rfl) rfl rfl
  intro th hge hne
  refine Seg.step _ rfl ⟨by rfl, fun U hU => ?_⟩ ?_
  · go_simp; exact vp_alloc rfl rfl rfl
  refine Seg.sa ?_
  refine Seg.sq ?_
  refine Seg.stop (fun U1 hU hk => ?_)
  have nb0 := hge 0 _ _ rfl
  have rb0 := (hk 0 _ _ rfl trivial).1.2 (by simp)
  clear hk hge hne
  generalize th (0 + 0) = p0_0 at *
  dsimp only at rb0
  have r_p0_0 := rb0
  clear rb0
  have n_p0_0 := nb0
  clear nb0
  have sz1 := hU.size
  have hB : Below W.heap.size W U1 := hU
  clear hU
  replace hT := hid (hT.out.on hB)
  replace hEl := hid (hEl.out.below hB)
  replace hB := hid hB
  have r1 := hid r_p0_0
  clear r_p0_0 n_p0_0
  go_wp2_with fail
  refine (few25_any a1 len1 cap1 F _ hlen hEl.out).mono ?_
  rintro e V1 ⟨fb, rfl, hfew, hA⟩
  replace hB := hid (bthen hB.out hA)
  replace hT := hid (hT.out.on hA)
  replace hEl := hid (hEl.out.below hA)
  replace r1 := hid (held_after hA r1.out)
  clear hA
  cases fb
  case false =>
    clear hfew
    go_wp2_with fail
    refine (knows26_any _ hT.out).mono ?_
    rintro e V2 ⟨rfl, hA⟩
    replace hB := hid (bthen hB.out hA)
    clear hA
    go_wp2_with fail
    go_ret
    exact ⟨rfl, hB.out⟩
  obtain ⟨h40, h100⟩ := hfew rfl
  clear hfew
  replace two := hid (two.out h100)
  clear h100
  go_wp2_with fail
  refine (knows26_any _ hT.out).mono ?_
  rintro e V2 ⟨rfl, hA⟩
  replace hB := hid (bthen hB.out hA)
  replace hT := hid (hT.out.on hA)
  replace hEl := hid (hEl.out.below hA)
  replace r1 := hid (held_after hA r1.out)
  clear hA
  go_wp2_with (first | (refine wpList_load_row rfl 29 (.tmp 2) rfl p0_0 rfl 29 #[.bool a0_0, .int .i64 a0_1, .int .i64 a0_2, .int .i64 a0_3, .int .i64 a0_4, .bool a0_5, .bool a0_6, .int .i64 a0_7, .bool a0_8, .int .i64 a0_9, .bool a0_10, .int .i64 a0_11, .bool a0_12, .int .i64 a0_13, .bool a0_14, .int .i64 a0_15, .bool a0_16, .int .i64 a0_17, .int .i64 a0_18, .int .i64 a0_19] (0, 0) _ r1.out Tryz.underlying29 rfl (by kernel_rfl) ?_))
  refine (kP.out _ hT.out).mono ?_
  rintro e V3 ⟨pa, pc, rfl, g1, -, hA⟩
  replace hB := hid (bthen hB.out hA)
  replace hT := hid (hT.out.on hA)
  replace hEl := hid (hEl.out.below hA)
  replace r1 := hid (held_after hA r1.out)
  clear hA
  obtain ⟨ln, hln⟩ : ∃ n, (if E = 0 then L else []).length = n := ⟨_, rfl⟩
  rw [hln]
  have hl0 := hid (fun (h : E ≠ 0) => (show ln = 0 by rw [← hln, if_neg h]; rfl))
  have g14 := hid (fun (h : E = 0) => (show ln = 11 ∧ Els V3 1 pa 11 pc (strV23 L) by have h1 := (kB.out h).1; rw [if_pos h] at hln g1; rw [h1] at hln g1; exact ⟨hln.symm, g1⟩))
  clear hln g1 kP
  go_wp2_with fail
  refine (num26_any E _).mono ?_
  rintro e V ⟨rfl, hv⟩
  obtain rfl : V3 = V := hv.symm
  go_upto_if 31 with (fail)
  go_cut [7, 8] (fun _ _ W0 => W0.heap[p0_0]? = some (.cells #[.bool a0_0, .int .i64 a0_1, .int .i64 a0_2, .int .i64 a0_3, .int .i64 a0_4, .bool a0_5, .bool a0_6, .int .i64 a0_7, .bool a0_8, .int .i64 a0_9, .bool a0_10, .int .i64 a0_11, .bool a0_12, .int .i64 a0_13, .bool a0_14, .int .i64 a0_15, .bool a0_16, .int .i64 a0_17, .int .i64 a0_18, .int .i64 a0_19] 29 (0, 0)) ∧ Tab W0 ∧ Els W0 1 a1 len1 cap1 (strV23 F) ∧ Below W.heap.size W W0)
  case first =>
    by_cases c0 : E = 0
    case neg =>
      have t0 : (E == 0) = false := by simpa using c0
      go_wp2_with fail
      go_meet
      exact ⟨r1.out, hT.out, hEl.out, hB.out⟩
    have g2 := g14.out c0
    obtain ⟨rfl, g3⟩ := g2
    have kX := hid (fun U a cap hU => (kB.out c0).2 U a cap hU)
    subst c0
    clear g14 hl0 kB
    replace g3 := hid g3
    replace hB := hB.out
    go_upto_region 5 with (fail)
    apply wp_region_seg0 (w := V3) (S := [.q [], .q [], .q [], .q [], .q [], .al 6, .st 5 [], .q []]) (E := [.q0 _, .c0 _, .q0 _, .q0 _, .q0 _, .al ((fun p => .pointer (some ⟨p, 0, none⟩)), _) 6, .s0 5 (.cells _ _), .q0 _]) rfl (by kernel_rfl) rfl rfl
    intro th hge hne
    refine Seg.sq ?_
    refine Seg.step _ rfl (Or.inl ⟨by rfl, fun U hU => ?_⟩) ?_
    · go_simp
      refine vp_call (kX.out _ _ _ (g3.out.below hU.1))
    refine Seg.sa ?_
    iterate 3 refine Seg.sq ?_
    refine Seg.step _ rfl ⟨by rfl, fun U hU => ?_⟩ ?_
    · go_simp; exact vp_alloc rfl rfl rfl
    refine Seg.sa ?_
    refine Seg.step _ rfl ⟨by rfl, fun U z k hz hU hc => ?_⟩ ?_
    · have hz2 := Option.some.inj hz
      cases hz2; clear hz
      exact vp_store_agg _ _ _ rfl hc rfl rfl (by kernel_rfl) rfl (by rfl)
    refine Seg.sa ?_
    refine Seg.sq ?_
    refine Seg.stop (fun U31 hU hk => ?_)
    have nb5 := hge 5 _ _ rfl
    have rb5 := (hk 5 _ 6 rfl trivial).1.1 trivial _ (Nat.zero_le _) rfl
    clear hk hge hne
    generalize th (0 + 5) = p5_5 at *
    simp only [Ent.obj] at rb5
    have r_p5_5 := rb5
    clear rb5
    have n_p5_5 := nb5
    clear nb5
    have sz31 := hU.size
    replace hB := bthen hB hU
    replace hT := hid (hT.out.on hU)
    replace hEl := hid (hEl.out.below hU)
    replace r1 := hid (held_after hU r1.out)
    clear hU g3 kX
    have r2 := hid r_p5_5
    replace hB := hid hB
    clear r_p5_5
    have hq := fun W => eqR20 a0_0 a0_1 a0_2 a0_3 a0_4 a0_5 a0_6 a0_7 a0_8 a0_9 a0_10 a0_11 a0_12 a0_13 a0_14 a0_15 a0_16 a0_17 a0_18 a0_19 W
    go_wp2_with (first | (refine wpList_load_row rfl 29 (.tmp 7) rfl p5_5 rfl 29 #[.bool a0_0, .int .i64 a0_1, .int .i64 a0_2, .int .i64 a0_3, .int .i64 a0_4, .bool a0_5, .bool a0_6, .int .i64 a0_7, .bool a0_8, .int .i64 a0_9, .bool a0_10, .int .i64 a0_11, .bool a0_12, .int .i64 a0_13, .bool a0_14, .int .i64 a0_15, .bool a0_16, .int .i64 a0_17, .int .i64 a0_18, .int .i64 a0_19] (0, 0) _ r2.out Tryz.underlying29 rfl (by kernel_rfl) ?_) | (refine wpList_load_row rfl 29 (.tmp 2) rfl p0_0 rfl 29 #[.bool a0_0, .int .i64 a0_1, .int .i64 a0_2, .int .i64 a0_3, .int .i64 a0_4, .bool a0_5, .bool a0_6, .int .i64 a0_7, .bool a0_8, .int .i64 a0_9, .bool a0_10, .int .i64 a0_11, .bool a0_12, .int .i64 a0_13, .bool a0_14, .int .i64 a0_15, .bool a0_16, .int .i64 a0_17, .int .i64 a0_18, .int .i64 a0_19] (0, 0) _ r1.out Tryz.underlying29 rfl (by kernel_rfl) ?_))
    refine (num26_any 0 _).mono ?_
    rintro e V ⟨rfl, hv⟩
    obtain rfl : U31 = V := hv.symm
    go_wp2_with fail
    go_meet
    exact ⟨r1.out, hT.out, hEl.out, hB.out⟩
  case rest =>
    clear r1 hT hEl hB g14 kB
    obtain ⟨r1, hT, hEl, hB⟩ := hcut
    replace hT := hid hT
    replace hEl := hid hEl
    clear r1
    rcases two.out with ⟨X, hX, kN⟩ | ⟨b, ho, mi, se, ce, ac, ai, an, oi, on, pi, pn, ci, cn, vi, vn, db, dd, dm, dy, kT, h11, M, hMl, kM, kR, hsz⟩
    · replace kN := hid kN
      clear two
      go_upto_region 8 with (fail)
      apply wp_region_seg0 (w := wc) (S := [.q [], .q [], .q [], .q [], .q [], .al 6, .st 5 [], .q []]) (E := [.q0 _, .c0 _, .q0 _, .q0 _, .q0 _, .al ((fun p => .pointer (some ⟨p, 0, none⟩)), _) 6, .s0 5 (.cells _ _), .q0 _]) rfl (by kernel_rfl) rfl rfl
      intro th hge hne
      refine Seg.sq ?_
      refine Seg.step _ rfl (Or.inl ⟨by rfl, fun U hU => ?_⟩) ?_
      · go_simp
        refine vp_call (kN.out _ _ _ (hEl.out.below hU.1))
      refine Seg.sa ?_
      iterate 3 refine Seg.sq ?_
      refine Seg.step _ rfl ⟨by rfl, fun U hU => ?_⟩ ?_
      · go_simp; exact vp_alloc rfl rfl rfl
      refine Seg.sa ?_
      refine Seg.step _ rfl ⟨by rfl, fun U z k hz hU hc => ?_⟩ ?_
      · have hz2 := Option.some.inj hz
        cases hz2; clear hz
        exact vp_store_agg _ _ _ rfl hc rfl rfl (by kernel_rfl) rfl (by rfl)
      refine Seg.sa ?_
      refine Seg.sq ?_
      refine Seg.stop (fun U41 hU hk => ?_)
      have nb5 := hge 5 _ _ rfl
      have rb5 := (hk 5 _ 6 rfl trivial).1.1 trivial _ (Nat.zero_le _) rfl
      clear hk hge hne
      generalize th (0 + 5) = p8_5 at *
      simp only [Ent.obj] at rb5
      have r_p8_5 := rb5
      clear rb5
      have n_p8_5 := nb5
      clear nb5
      have sz41 := hU.size
      replace hB := bthen hB hU
      clear hU
      have r2 := hid r_p8_5
      replace hB := hid hB
      clear r_p8_5 hEl hT
      have tX : (X != 0) = true := by simpa using hX
      go_wp2_with fail
      refine (num26_any X _).mono ?_
      rintro e V ⟨rfl, hv⟩
      obtain rfl : U41 = V := hv.symm
      have hq := fun W => eqR20 false 0 0 0 0 false false 0 false 0 false 0 false 0 false 0 false 0 0 0 W
      go_wp2_with (first | (refine wpList_load_row rfl 29 (.tmp 9) rfl p8_5 rfl 29 #[.bool false, .int .i64 0, .int .i64 0, .int .i64 0, .int .i64 0, .bool false, .bool false, .int .i64 0, .bool false, .int .i64 0, .bool false, .int .i64 0, .bool false, .int .i64 0, .bool false, .int .i64 0, .bool false, .int .i64 0, .int .i64 0, .int .i64 0] (0, 0) _ r2.out Tryz.underlying29 rfl (by kernel_rfl) ?_))
      refine (num26_any E _).mono ?_
      rintro e V ⟨rfl, hv⟩
      obtain rfl : U41 = V := hv.symm
      by_cases c0 : E = 0
      · have t0 : (E == 0) = true := by simpa using c0
        go_wp2_with fail
        go_ret
        exact ⟨ret_bool (by simp), hB.out⟩
      · have t0 : (E == 0) = false := by simpa using c0
        have tl := hl0.out c0
        have tl2 : ((ln : Int) == 0) = true := by simp; omega
        go_wp2_with fail
        go_ret
        exact ⟨ret_bool (by simp [tl]), hB.out⟩
    · replace kT := hid kT
      replace kM := hid kM
      replace kR := hid kR
      replace hsz := hid hsz
      clear two hl0
      go_upto_region 8 with (fail)
      apply wp_region_seg0 (w := wc) (S := [.q [], .q [], .q [], .q [], .q [], .al 6, .st 5 [], .q []]) (E := [.q0 _, .c0 _, .q0 _, .q0 _, .q0 _, .al ((fun p => .pointer (some ⟨p, 0, none⟩)), _) 6, .s0 5 (.cells _ _), .q0 _]) rfl (by kernel_rfl) rfl rfl
      intro th hge hne
      refine Seg.sq ?_
      refine Seg.step _ rfl (Or.inl ⟨by rfl, fun U hU => ?_⟩) ?_
      · go_simp
        refine vp_call (kT.out _ _ _ (hEl.out.below hU.1))
      refine Seg.sa ?_
      iterate 3 refine Seg.sq ?_
      refine Seg.step _ rfl ⟨by rfl, fun U hU => ?_⟩ ?_
      · go_simp; exact vp_alloc rfl rfl rfl
      refine Seg.sa ?_
      refine Seg.step _ rfl ⟨by rfl, fun U z k hz hU hc => ?_⟩ ?_
      · have hz2 := Option.some.inj hz
        cases hz2; clear hz
        exact vp_store_agg _ _ _ rfl hc rfl rfl (by kernel_rfl) rfl (by rfl)
      refine Seg.sa ?_
      refine Seg.sq ?_
      refine Seg.stop (fun U41 hU hk => ?_)
      have nb5 := hge 5 _ _ rfl
      have rb5 := (hk 5 _ 6 rfl trivial).1.1 trivial _ (Nat.zero_le _) rfl
      clear hk hge hne
      generalize th (0 + 5) = p8_5 at *
      simp only [Ent.obj] at rb5
      have r_p8_5 := rb5
      clear rb5
      have n_p8_5 := nb5
      clear nb5
      have sz41 := hU.size
      replace hB := bthen hB hU
      replace hT := hid (hT.out.on hU)
      replace hEl := hid (hEl.out.below hU)
      clear hU
      have r2 := hid r_p8_5
      replace hB := hid hB
      clear r_p8_5
      go_wp2_with fail
      refine (num26_any 0 _).mono ?_
      rintro e V ⟨rfl, hv⟩
      obtain rfl : U41 = V := hv.symm
      go_wp2_with (first | (refine wpList_load_row rfl 29 (.tmp 9) rfl p8_5 rfl 29 #[.bool b, .int .i64 ho, .int .i64 mi, .int .i64 se, .int .i64 ce, .bool ac, .bool ai, .int .i64 an, .bool oi, .int .i64 on, .bool pi, .int .i64 pn, .bool ci, .int .i64 cn, .bool vi, .int .i64 vn, .bool db, .int .i64 dd, .int .i64 dm, .int .i64 dy] (0, 0) _ r2.out Tryz.underlying29 rfl (by kernel_rfl) ?_))
      refine (kM.out _ hT.out).mono ?_
      rintro e V5 ⟨qa, qc, rfl, g1, -, hA⟩
      rw [if_pos rfl] at g1 ⊢
      rw [hMl] at g1 ⊢
      replace g1 := hid g1
      replace hB := bthen hB.out hA
      replace hEl := hid (hEl.out.below hA)
      replace r2 := hid (held_after hA r2.out)
      clear hA hT kM
      go_upto_region 12 with (fail)
      apply wp_region_seg0 (w := V5) (S := [.q [], .q [], .q [], .q [], .q [], .al 6, .st 5 [], .q []]) (E := [.q0 _, .c0 _, .q0 _, .q0 _, .q0 _, .al ((fun p => .pointer (some ⟨p, 0, none⟩)), _) 6, .s0 5 (.cells _ _), .q0 _]) rfl (by kernel_rfl) rfl rfl
      intro th hge hne
      refine Seg.sq ?_
      refine Seg.step _ rfl (Or.inl ⟨by rfl, fun U hU => ?_⟩) ?_
      · go_simp
        refine vp_call (kR.out _ _ _ (g1.out.below hU.1))
      refine Seg.sa ?_
      iterate 3 refine Seg.sq ?_
      refine Seg.step _ rfl ⟨by rfl, fun U hU => ?_⟩ ?_
      · go_simp; exact vp_alloc rfl rfl rfl
      refine Seg.sa ?_
      refine Seg.step _ rfl ⟨by rfl, fun U z k hz hU hc => ?_⟩ ?_
      · have hz2 := Option.some.inj hz
        cases hz2; clear hz
        exact vp_store_agg _ _ _ rfl hc rfl rfl (by kernel_rfl) rfl (by rfl)
      refine Seg.sa ?_
      refine Seg.sq ?_
      refine Seg.stop (fun U42 hU hk => ?_)
      have nb5 := hge 5 _ _ rfl
      have rb5 := (hk 5 _ 6 rfl trivial).1.1 trivial _ (Nat.zero_le _) rfl
      clear hk hge hne
      generalize th (0 + 5) = p12_5 at *
      simp only [Ent.obj] at rb5
      have r_p12_5 := rb5
      clear rb5
      have n_p12_5 := nb5
      clear nb5
      have sz42 := hU.size
      replace hB := bthen hB hU
      replace hEl := hid (hEl.out.below hU)
      replace g1 := hid (g1.out.below hU)
      replace r2 := hid (held_after hU r2.out)
      clear hU kR
      have r3 := hid r_p12_5
      replace hB := hid hB
      clear r_p12_5
      go_wp2_with fail
      refine (num26_any 0 _).mono ?_
      rintro e V ⟨rfl, hv⟩
      obtain rfl : U42 = V := hv.symm
      go_wp2_with fail
      refine (num26_any 0 _).mono ?_
      rintro e V ⟨rfl, hv⟩
      obtain rfl : U42 = V := hv.symm
      have hq := fun W => eqR20 b ho mi se ce ac ai an oi on pi pn ci cn vi vn db dd dm dy W
      go_wp2_with (first | (refine BigFrame.wpList_want (by rfl) (fun K hK => wp_load_row 29 (.tmp 9) rfl p8_5 rfl 29 #[.bool b, .int .i64 ho, .int .i64 mi, .int .i64 se, .int .i64 ce, .bool ac, .bool ai, .int .i64 an, .bool oi, .int .i64 on, .bool pi, .int .i64 pn, .bool ci, .int .i64 cn, .bool vi, .int .i64 vn, .bool db, .int .i64 dd, .int .i64 dm, .int .i64 dy] (0, 0) _ r2.out Tryz.underlying29 rfl (by kernel_rfl) ?_); refine hK _ _ ?_; clear hK) | (refine BigFrame.wpList_want (by rfl) (fun K hK => wp_load_row 29 (.tmp 13) rfl p12_5 rfl 29 #[.bool b, .int .i64 ho, .int .i64 mi, .int .i64 se, .int .i64 ce, .bool ac, .bool ai, .int .i64 an, .bool oi, .int .i64 on, .bool pi, .int .i64 pn, .bool ci, .int .i64 cn, .bool vi, .int .i64 vn, .bool db, .int .i64 dd, .int .i64 dm, .int .i64 dy] (0, 0) _ r3.out Tryz.underlying29 rfl (by kernel_rfl) ?_); refine hK _ _ ?_; clear hK))
      clear r2 r3 kT hq
      replace hMl := hid hMl
      replace hlen := hid hlen
      go_loopw [15] (fun ix wr => ∃ k : Nat, ix = .int .i64 k ∧ k ≤ 11 ∧ After U42 wr) (fun ix _ => 11 - (intOf ix).toNat)
      case atStart => exact ⟨0, rfl, by omega, Below.refl _ _⟩
      case round =>
        obtain ⟨k, rfl, hk, hA⟩ := hrel
        by_cases hlt : (k : Int) < 11
        case neg =>
          replace hA := hid hA
          go_wp2_with fail
          go_ret
          exact ⟨ret_bool (by simp), bthen hB.out hA.out⟩
        have hltl : (k : Int) < len1 := by omega
        obtain ⟨t, ht⟩ : ∃ x, M[k]? = some x := ⟨_, List.getElem?_eq_getElem (show k < M.length by have := hMl.out; omega)⟩
        obtain ⟨s, hs⟩ : ∃ x, F[k]? = some x := ⟨_, List.getElem?_eq_getElem (show k < F.length by have := hlen.out; omega)⟩
        have hle := hsz.out k t s ht hs
        obtain ⟨b1, o1, rfl, g0⟩ := (g1.out.below hA).at1 (strV23_at ht)
        obtain ⟨b2, o2, rfl, d0⟩ := (hEl.out.below hA).at1 (strV23_at hs)
        have kz : (0 : Int) ≤ k := by omega
        have wk : IntKind.i64.wrap ((k : Int) + 1) = (k : Int) + 1 := by rw [IntKind.wrap_i64]; omega
        have hk1 := hid (show k + 1 ≤ 11 by omega)
        have hms := hid (show 11 - (k + 1) < 11 - k by omega)
        have hle2 : ¬ s.size < t.size := by omega
        clear ht hs hk
        go_upto_region 18 with (fail)
        apply wp_region_seg (w := wr) (S := [.q [], .q [], .q [], .q [], .q [], .q [], .q [], .q [], .q [], .q [], .q []]) (E := [.q0 _, .q0 _, .q0 _, .q0 _, .q0 _, .q0 _, .q0 _, .q0 _, .q0 _, .q0 _, .q0 _]) (by kernel_rfl) rfl (by kernel_rfl) rfl rfl
        intro th hge hne
        iterate 3 refine Seg.sq ?_
        refine Seg.sq ?_ (ht := Or.inl ⟨by rfl, fun U hU => vp_quiet (by (have hx := After.cellB hU.1 g0; go_simp <;> exact rfl))⟩)
        iterate 4 refine Seg.sq ?_
        refine Seg.sq ?_ (ht := Or.inl ⟨by rfl, fun U hU => vp_quiet (by (have hx := After.cellB hU.1 d0; go_simp <;> exact rfl))⟩)
        refine Seg.sq ?_
        refine Seg.sq ?_
        refine Seg.stop (fun U61 hU hk => ?_)
        clear hk hge hne
        have sz61 := hU.size
        have hBr : Below wr.heap.size wr U61 := hU
        have hAd := hid (After.trans hA hU)
        clear hU
        go_wp2_with fail
        go_roundw
        case rel => exact ⟨k + 1, by simp, hk1.out, hAd.out⟩
        case measure => simp [intOf]; have := hms.out; omega

end Go.Proofs.YthnoomdhgbaecaaGreatDoor
