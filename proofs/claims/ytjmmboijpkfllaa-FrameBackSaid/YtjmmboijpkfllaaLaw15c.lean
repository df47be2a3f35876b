/- The laws of layer 15: FrameBack. -/
import Derived.Test.YtjmmboijpkfllaaLaw15b
import Derived.Deep.DeepCutAuto
namespace Go.Proofs.Ytjmmboijpkfllaa
open Go.ChangeShapes Go.WideShapes Go.ChangeAt Go.RowKit
set_option linter.unusedVariables false

set_option maxRecDepth 100000 in
set_option maxHeartbeats 8000000 in
theorem law_FrameBack (a0_0 a0_1 : Int) (a0_2 : Option Addr) (len0_2 cap0_2 : Nat) (z0_2 : List Int) (a1 : Option Addr) (len1 cap1 : Nat) (z1 : List Int) (W : World) (w0_0 : (Lit.int .i64 a0_0).wf = true) (w0_1 : (Lit.int .i64 a0_1).wf = true) (w0_2 : IsRow .u8 W a0_2 len0_2 cap0_2 z0_2) (w1 : IsRow .u8 W a1 len1 cap1 z1) :
    Calls Try.prog 5 #[.agg #[.int .i64 a0_0, .int .i64 a0_1, .slice a0_2 len0_2 cap0_2], .slice a1 len1 cap1] W fun e w' => e = .returned (.bool true) ∧ Below W.heap.size W w' := by
  clear w0_0 w0_1
  obtain ⟨hs1, hw1⟩ := w0_2.sl
  generalize z0_2.take len0_2 = zs at hs1 hw1
  obtain ⟨hs2, hw2⟩ := w1.sl
  generalize z1.take len1 = ms at hs2 hw2
  clear w0_2 w1
  have hb1 := hid (bytes_bd hw1)
  have hb2 := hid (bytes_bd hw2)
  have zl1 := hid hs1.1
  have zl2 := hid hs2.1
  replace hs1 := hid hs1
  replace hs2 := hid hs2
  replace hw1 := hid hw1
  replace hw2 := hid hw2
  have nw := alloc_new W (.cells #[.int .i64 a0_0, .int .i64 a0_1, .slice a0_2 len0_2 cap0_2] 24)
  have hB := hid nw.2.1
  have rm := hid nw.2.2
  have z0 := held_cell nw.2.2 0 _ rfl
  have z1 := held_cell nw.2.2 1 _ rfl
  have z2 := held_cell nw.2.2 2 _ rfl
  clear nw
  obtain ⟨V0, hV0⟩ : ∃ X, W.alloc (.cells #[.int .i64 a0_0, .int .i64 a0_1, .slice a0_2 len0_2 cap0_2] 24) = X := ⟨_, rfl⟩
  rw [hV0] at hB rm z0 z1 z2
  by_cases cb : (1100 : Int) < len0_2
  case pos =>
    go_enter Try.func5, Try.ntmps5
    go_wp2_with fail
    refine (knows15_any _).mono ?_
    rintro e V ⟨rfl, hst⟩
    replace hst := hid (bthen hB.out hst)
    go_wp2_with fail
    go_ret
    exact ⟨rfl, hst.out⟩
  have cb2 := cb
  by_cases cb : (1100 : Int) < len1
  case pos =>
    go_enter Try.func5, Try.ntmps5
    go_wp2_with fail
    refine (knows15_any _).mono ?_
    rintro e V ⟨rfl, hst⟩
    replace hst := hid (bthen hB.out hst)
    go_wp2_with fail
    go_ret
    exact ⟨rfl, hst.out⟩
  have hl : len0_2 ≤ 1000000 := by omega
  have pe := putFr_e a0_0 a0_1 zs
  obtain ⟨⟨L, ee⟩, hr⟩ : ∃ r, putFr a0_0 a0_1 zs = r := ⟨_, rfl⟩
  have te := takFr_e ms
  have td := takFr_bd hb2.out
  obtain ⟨⟨⟨xc, xi, xp⟩, xk, xe⟩, hm⟩ : ∃ r, takFr ms = r := ⟨_, rfl⟩
  rw [hr] at pe
  rw [hm] at te td
  dsimp only at pe te td
  have hL0 := hid (fun h => putFr_bad hr h)
  have hX0 := hid (fun h => takFr_bad hm h)
  replace hr := hid hr
  replace hm := hid hm
  replace td := hid td
  by_cases he : ee = 0
  · by_cases hx : xe = 0
    · subst he
      have hPT := put_takF hr.out ms
      have hq := hid hPT.1
      have hLl := hPT.2.1
      have hl16 := hPT.2.2
      have hzl := zl1.out
      have hsz : sizeS (len0_2 : Int) = ((L.length : Nat) : Int) := by unfold sizeS; rw [if_pos (by omega)]; omega
      have hLb := hid (put_bd15 hr.out hb1.out)
      have hLn : L.length ≤ 2000 := by omega
      have hne1 : (((zs.length : Int) + 8) != ((L.length : Nat) : Int)) = false := by rw [hLl]; simp
      have hsz2 := hid hsz
      clear hPT hsz hLl hzl hl16
      clear hL0
      subst hx
      obtain ⟨K, rfl, hTP, hK1, hK2, hxl⟩ := take_putF hm.out hb2.out
      obtain ⟨S5, hS5⟩ : ∃ S, ms.take K = S := ⟨_, rfl⟩
      rw [hS5] at hTP
      replace hTP := hid hTP
      replace hS5 := hid hS5
      clear hX0
      go_enter Try.func5, Try.ntmps5
      go_wp2_with fail
      refine (knows15_any _).mono ?_
      rintro e V1 ⟨rfl, hA⟩
      clear hV0
      clear z0 z1 z2
      replace rm := hid (held_after hA rm.out)
      replace hB := hid (bthen hB.out hA)
      clear hA
      have z0 := held_cell rm.out 0 _ rfl
      have z1 := held_cell rm.out 1 _ rfl
      have z2 := held_cell rm.out 2 _ rfl
      go_wp2_with fail
      clear z0 z1 z2
      refine (fput_of a0_0 a0_1 a0_2 len0_2 cap0_2 zs _ hl (hs1.out.below hB.out) hw1.out hr.out).mono ?_
      rintro e V2 ⟨r1a, r1c, rfl, hO1, hA⟩
      replace rm := hid (held_after hA rm.out)
      replace hB := hid (bthen hB.out hA)
      clear hA
      replace hO1 := hid hO1
      have nE := alloc_new V2 (.cells #[] 5)
      have ownE := Own.lit .u8 5 V2 [] V2.heap.size (Nat.le_refl _) (by simp) #[] rfl
      have hAE := nE.2.1
      have slA := (hO1.out.slf).below hAE
      clear nE
      go_wp2_with (at_builtin; go_loud (refine wpList_appK rfl (.tmp 35) (.tmp 36) 22 rfl V2.heap.size 5 .u8 1 bytesOf _ [] rfl ownE r1a (L.length) r1c L rfl slA (by simp <;> omega) (by decide) hAE.size ?_))
      intro a8 c8 V8 hO8 hG8 hq8
      have hA8 := ownE.grew hG8 hAE (Nat.le_refl _) hAE.size
      have ownF : Own .u8 5 V8 V2.heap.size (.slice a8 (L.length) c8) L := by first | exact hO8 | (have := hO8; rwa [List.nil_append, show ([] : List Int).length + L.length = L.length from Nat.zero_add _] at this)
      have slB := (hs2.out.below hB.out).below hA8
      clear hO8 hq8 hG8 ownE slA hAE
      try rw [show ([] : List Int).length + L.length = L.length from Nat.zero_add _]
      have hLN := hid ownF.slf.1
      go_wp2_with (at_builtin; go_loud (refine wpList_appK rfl (.tmp 37) (.tmp 38) 22 rfl V2.heap.size 5 .u8 1 bytesOf _ L rfl ownF a1 len1 cap1 ms rfl slB (by have := hLN.out; omega) (by decide) hA8.size ?_))
      intro a9 c9 V9 hO9 hG9 hq9
      have hA := ownF.grew hG9 hA8 (Nat.le_refl _) hA8.size
      replace hO9 := hid hO9
      clear hG9 hq9 ownF slB hA8
      replace hO1 := hid (hO1.out.below hA)
      replace rm := hid (held_after hA rm.out)
      replace hB := hid (bthen hB.out hA)
      clear hA
      go_wp2_with fail
      refine (ftake_of a9 (L.length + len1) c9 (L ++ ms) _ hO9.out.slf (bytes_wf (app_bd hLb.out hb2.out)) (by omega) hq.out).mono ?_
      rintro e V10 ⟨r2a, r2c, rfl, hO2, hA⟩
      replace hO1 := hid (hO1.out.below hA)
      replace hO9 := hid (hO9.out.below hA)
      replace rm := hid (held_after hA rm.out)
      replace hB := hid (bthen hB.out hA)
      clear hA
      replace hO2 := hid hO2
      have nw := alloc_new V10 (.cells #[.int .i64 a0_0, .int .i64 a0_1, .slice r2a zs.length r2c] 24)
      have hA := nw.2.1
      have rg := nw.2.2
      clear nw
      go_upto_region 5 with (fail)
      obtain ⟨V11, hV11⟩ : ∃ X, V10.alloc (.cells #[.int .i64 a0_0, .int .i64 a0_1, .slice r2a zs.length r2c] 24) = X := ⟨_, rfl⟩
      rw [hV11] at hA rg ⊢
      obtain ⟨qg, hqg⟩ : ∃ X, V10.heap.size = X := ⟨_, rfl⟩
      rw [hqg] at rg ⊢
      replace hV11 := hid hV11
      replace hqg := hid hqg
      replace hO1 := hid (hO1.out.below hA)
      replace hO9 := hid (hO9.out.below hA)
      replace hO2 := hid (hO2.out.below hA)
      replace rm := hid (held_after hA rm.out)
      replace hB := hid (bthen hB.out hA)
      clear hA
      replace rg := hid rg
      have z0 := held_cell rm.out 0 _ rfl
      have z1 := held_cell rm.out 1 _ rfl
      have z2 := held_cell rm.out 2 _ rfl
      have y0 := held_cell rg.out 0 _ rfl
      have y1 := held_cell rg.out 1 _ rfl
      have y2 := held_cell rg.out 2 _ rfl
      go_wp2_with fail
      refine (num15_any 0 _ (by omega) (by omega)).mono ?_
      rintro e V ⟨rfl, rfl⟩
      go_wp2_with fail
      refine (num15_any 0 _ (by omega) (by omega)).mono ?_
      rintro e V ⟨rfl, rfl⟩
      go_wp2_with fail
      clear z0 z1 z2 y0 y1 y2
      refine (same15_self a0_0 a0_1 a0_2 r2a len0_2 cap0_2 zs.length r2c zs _ (hs1.out.below hB.out) hO2.out hb1.out).mono ?_
      rintro e V12 ⟨rfl, hA⟩
      replace hO1 := hid (hO1.out.below hA)
      replace hO9 := hid (hO9.out.below hA)
      replace hO2 := hid (hO2.out.below hA)
      replace rm := hid (held_after hA rm.out)
      replace rg := hid (held_after hA rg.out)
      replace hB := hid (bthen hB.out hA)
      clear hA
      have z0 := held_cell rm.out 0 _ rfl
      have z1 := held_cell rm.out 1 _ rfl
      have z2 := held_cell rm.out 2 _ rfl
      go_wp2_with fail
      refine (fsize_any (len0_2 : Int) _).mono ?_
      rintro e V ⟨rfl, rfl⟩
      rw [hsz2.out]
      go_wp2_with fail
      refine (num15_any 0 _ (by omega) (by omega)).mono ?_
      rintro e V ⟨rfl, rfl⟩
      go_wp2_with fail
      try clear z0 z1 z2
      try clear y0 y1 y2
      refine (ftake_of a1 len1 cap1 ms _ (hs2.out.below hB.out) hw2.out (by omega) hm.out).mono ?_
      rintro e V13 ⟨r3a, r3c, rfl, hO3, hA⟩
      replace hO1 := hid (hO1.out.below hA)
      replace hO9 := hid (hO9.out.below hA)
      replace hO2 := hid (hO2.out.below hA)
      replace rm := hid (held_after hA rm.out)
      replace rg := hid (held_after hA rg.out)
      replace hB := hid (bthen hB.out hA)
      clear hA
      replace hO3 := hid hO3
      have nw := alloc_new V13 (.cells #[.int .i64 xc, .int .i64 xi, .slice r3a xp.length r3c] 24)
      have hA := nw.2.1
      have rx := nw.2.2
      clear nw
      go_upto_region 8 with (fail)
      obtain ⟨V14, hV14⟩ : ∃ X, V13.alloc (.cells #[.int .i64 xc, .int .i64 xi, .slice r3a xp.length r3c] 24) = X := ⟨_, rfl⟩
      rw [hV14] at hA rx ⊢
      obtain ⟨qx, hqx⟩ : ∃ X, V13.heap.size = X := ⟨_, rfl⟩
      rw [hqx] at rx ⊢
      replace hV14 := hid hV14
      replace hqx := hid hqx
      replace hO1 := hid (hO1.out.below hA)
      replace hO9 := hid (hO9.out.below hA)
      replace hO2 := hid (hO2.out.below hA)
      replace hO3 := hid (hO3.out.below hA)
      replace rm := hid (held_after hA rm.out)
      replace rg := hid (held_after hA rg.out)
      replace hB := hid (bthen hB.out hA)
      clear hA
      replace rx := hid rx
      have x0 := held_cell rx.out 0 _ rfl
      have x1 := held_cell rx.out 1 _ rfl
      have x2 := held_cell rx.out 2 _ rfl
      go_wp2_with fail
      refine (num15_any 0 _ (by omega) (by omega)).mono ?_
      rintro e V ⟨rfl, rfl⟩
      go_wp2_with fail
      clear x0 x1 x2
      refine (fput_of xc xi r3a xp.length r3c xp _ (by omega) hO3.out (bytes_wf td.out) hTP.out).mono ?_
      rintro e V15 ⟨r4a, r4c, rfl, hO4, hA⟩
      replace hO1 := hid (hO1.out.below hA)
      replace hO9 := hid (hO9.out.below hA)
      replace hO2 := hid (hO2.out.below hA)
      replace hO3 := hid (hO3.out.below hA)
      replace rm := hid (held_after hA rm.out)
      replace rg := hid (held_after hA rg.out)
      replace rx := hid (held_after hA rx.out)
      replace hB := hid (bthen hB.out hA)
      clear hA
      replace hO4 := hid hO4
      have q1 : ((K : Int)).toNat = K := by omega
      have q2 : (0 : Int) ≤ (K : Int) := by omega
      have q3 : (K : Int) ≤ (len1 : Int) := by have := zl2.out; omega
      have q4 : (len1 : Int) ≤ (cap1 : Int) := by have := hs2.out.2.1; omega
      have q5 : (K : Int) ≤ (cap1 : Int) := by omega
      have q6 : (8 : Int) ≤ (K : Int) := by omega
      have t1 := hO4.out.textR 22 9 5 Try.underlying22 Try.underlying5 Try.underlying9
      have hSb := (hs2.out.below hB.out).take K (by have := zl2.out; omega)
      rw [hS5.out] at hSb
      have t2 : ∀ U, After V15 U → (convert 22 9 (.slice a1 K cap1)).run Try.prog U = .ok (.string (textOf S5)) U := fun U h => (hSb.below h).text 22 9 5 Try.underlying22 Try.underlying5 Try.underlying9
      replace hB := hid hB.out
      clear hSb
      generalize textOf S5 = TX at *
      go_upto_region 11 with (fail)
      have hBk := hB.out
      clear hB
      have hB := hBk
      apply wp_region_seg (w := V15) (S := [.q [], .q [], .q [], .q [], .q [], .q [], .q [], .q [], .q [], .q [], .q [], .q [], .q [], .q [], .q [], .q [], .q [], .q [], .q [], .q [], .q [], .q [], .q []]) (E := [.q0 _, .c0 _, .q0 _, .q0 _, .q0 _, .q0 _, .q0 _, .q0 _, .q0 _, .q0 _, .q0 _, .q0 _, .q0 _, .q0 _, .q0 _, .q0 _, .q0 _, .q0 _, .q0 _, .q0 _, .q0 _, .q0 _, .q0 _]) (by kernel_rfl) rfl (by kernel_rfl) rfl rfl
      intro th hge hne
      refine Seg.step _ rfl (Or.inl ⟨by rfl, fun U hU => vp_quiet (by (go_simp <;> exact rfl))⟩) ⟨_, by (simp only [Ent.val]; go_simp <;> exact rfl), ?_⟩
      refine Seg.step _ rfl (Or.inl ⟨by rfl, fun U hU => ?_⟩) ?_
      · go_simp
        refine vp_calls (num15_any 0 _ (by omega) (by omega))
      refine ⟨_, by (simp only [Ent.val]; go_simp <;> exact rfl), ?_⟩
      refine Seg.step _ rfl (Or.inl ⟨by rfl, fun U hU => vp_quiet (by (go_simp <;> exact rfl))⟩) ⟨_, by (simp only [Ent.val]; go_simp <;> exact rfl), ?_⟩
      refine Seg.step _ rfl (Or.inl ⟨by rfl, fun U hU => vp_quiet (by (go_simp <;> exact rfl))⟩) ⟨_, by (simp only [Ent.val]; go_simp <;> exact rfl), ?_⟩
      refine Seg.step _ rfl (Or.inl ⟨by rfl, fun U hU => vp_quiet (by (go_simp <;> exact rfl))⟩) ⟨_, by (simp only [Ent.val]; go_simp <;> exact rfl), ?_⟩
      refine Seg.step _ rfl (Or.inl ⟨by rfl, fun U hU => vp_quiet (by (go_simp <;> exact rfl))⟩) ⟨_, by (simp only [Ent.val]; go_simp <;> exact rfl), ?_⟩
      refine Seg.step _ rfl (Or.inl ⟨by rfl, fun U hU => vp_quiet (by (go_simp <;> exact rfl))⟩) ⟨_, by (simp only [Ent.val]; go_simp <;> exact rfl), ?_⟩
      refine Seg.step _ rfl (Or.inl ⟨by rfl, fun U hU => vp_quiet (by (go_simp <;> exact rfl))⟩) ⟨_, by (simp only [Ent.val]; go_simp <;> exact rfl), ?_⟩
      refine Seg.step _ rfl (Or.inl ⟨by rfl, fun U hU => vp_quiet (by (go_simp <;> exact rfl))⟩) ⟨_, by (simp only [Ent.val]; go_simp <;> exact rfl), ?_⟩
      refine Seg.step _ rfl (Or.inl ⟨by rfl, fun U hU => vp_quiet (by (go_simp <;> exact rfl))⟩) ⟨_, by (simp only [Ent.val]; go_simp <;> exact rfl), ?_⟩
      refine Seg.step _ rfl (Or.inl ⟨by rfl, fun U hU => vp_quiet (by (go_simp <;> exact rfl))⟩) ⟨_, by (simp only [Ent.val]; go_simp <;> exact rfl), ?_⟩
      refine Seg.step _ rfl (Or.inl ⟨by rfl, fun U hU => vp_quiet (by (go_simp <;> exact rfl))⟩) ⟨_, by (simp only [Ent.val]; go_simp <;> exact rfl), ?_⟩
      refine Seg.step _ rfl (Or.inl ⟨by rfl, fun U hU => vp_quiet (by (go_simp <;> exact rfl))⟩) ⟨_, by (simp only [Ent.val]; go_simp <;> exact rfl), ?_⟩
      refine Seg.step _ rfl (Or.inl ⟨by rfl, fun U hU => vp_quiet (by (go_simp <;> exact rfl))⟩) ⟨_, by (simp only [Ent.val]; go_simp <;> exact rfl), ?_⟩
      refine Seg.step _ rfl (Or.inl ⟨by rfl, fun U hU => vp_quiet (by (go_simp <;> exact rfl))⟩) ⟨_, by (simp only [Ent.val]; go_simp <;> exact rfl), ?_⟩
      refine Seg.step _ rfl (Or.inl ⟨by rfl, fun U hU => vp_quiet (by (have hx := t1 U hU.1; go_simp <;> exact rfl))⟩) ⟨_, by (simp only [Ent.val]; go_simp <;> exact rfl), ?_⟩
      refine Seg.step _ rfl (Or.inl ⟨by rfl, fun U hU => vp_quiet (by (go_simp <;> exact rfl))⟩) ⟨_, by (simp only [Ent.val]; go_simp <;> exact rfl), ?_⟩
      refine Seg.step _ rfl (Or.inl ⟨by rfl, fun U hU => vp_quiet (by (go_simp <;> exact rfl))⟩) ⟨_, by (simp only [Ent.val]; go_simp <;> exact rfl), ?_⟩
      refine Seg.step _ rfl (Or.inl ⟨by rfl, fun U hU => vp_quiet (by (go_simp <;> exact rfl))⟩) ⟨_, by (simp only [Ent.val]; go_simp <;> exact rfl), ?_⟩
      refine Seg.step _ rfl (Or.inl ⟨by rfl, fun U hU => vp_quiet (by (have hx := t2 U hU.1; go_simp <;> exact rfl))⟩) ⟨_, by (simp only [Ent.val]; go_simp <;> exact rfl), ?_⟩
      refine Seg.step _ rfl (Or.inl ⟨by rfl, fun U hU => vp_quiet (by (go_simp <;> exact rfl))⟩) ⟨_, by (simp only [Ent.val]; go_simp <;> exact rfl), ?_⟩
      refine Seg.step _ rfl (Or.inl ⟨by rfl, fun U hU => vp_quiet (by (go_simp <;> exact rfl))⟩) ⟨_, by (simp only [Ent.val]; go_simp <;> exact rfl), ?_⟩
      refine Seg.step _ rfl (Or.inl ⟨by rfl, fun U hU => vp_quiet (by (go_simp <;> exact rfl))⟩) ⟨_, by (simp only [Ent.val]; go_simp <;> exact rfl), ?_⟩
      refine Seg.stop (fun U31 hU hk => ?_)
      clear hk hge hne
      have sz31 := hU.size
      replace hB := bthen hB hU
      go_wp2_with fail
      go_ret
      exact ⟨ret_bool (by simp), hB⟩
    · subst he
      have hPT := put_takF hr.out ms
      have hq := hid hPT.1
      have hLl := hPT.2.1
      have hl16 := hPT.2.2
      have hzl := zl1.out
      have hsz : sizeS (len0_2 : Int) = ((L.length : Nat) : Int) := by unfold sizeS; rw [if_pos (by omega)]; omega
      have hLb := hid (put_bd15 hr.out hb1.out)
      have hLn : L.length ≤ 2000 := by omega
      have hne1 : (((zs.length : Int) + 8) != ((L.length : Nat) : Int)) = false := by rw [hLl]; simp
      have hsz2 := hid hsz
      clear hPT hsz hLl hzl hl16
      clear hL0
      obtain ⟨hX1, hX2⟩ := hX0.out hx
      simp only [Prod.mk.injEq] at hX1
      obtain ⟨rfl, rfl, rfl⟩ := hX1
      subst hX2
      have hxe : (xe != 0) = true := by simp [hx]
      replace hx := hid hx
      clear hX0
      go_enter Try.func5, Try.ntmps5
      go_wp2_with fail
      refine (knows15_any _).mono ?_
      rintro e V1 ⟨rfl, hA⟩
      clear hV0
      clear z0 z1 z2
      replace rm := hid (held_after hA rm.out)
      replace hB := hid (bthen hB.out hA)
      clear hA
      have z0 := held_cell rm.out 0 _ rfl
      have z1 := held_cell rm.out 1 _ rfl
      have z2 := held_cell rm.out 2 _ rfl
      go_wp2_with fail
      clear z0 z1 z2
      refine (fput_of a0_0 a0_1 a0_2 len0_2 cap0_2 zs _ hl (hs1.out.below hB.out) hw1.out hr.out).mono ?_
      rintro e V2 ⟨r1a, r1c, rfl, hO1, hA⟩
      replace rm := hid (held_after hA rm.out)
      replace hB := hid (bthen hB.out hA)
      clear hA
      replace hO1 := hid hO1
      have nE := alloc_new V2 (.cells #[] 5)
      have ownE := Own.lit .u8 5 V2 [] V2.heap.size (Nat.le_refl _) (by simp) #[] rfl
      have hAE := nE.2.1
      have slA := (hO1.out.slf).below hAE
      clear nE
      go_wp2_with (at_builtin; go_loud (refine wpList_appK rfl (.tmp 35) (.tmp 36) 22 rfl V2.heap.size 5 .u8 1 bytesOf _ [] rfl ownE r1a (L.length) r1c L rfl slA (by simp <;> omega) (by decide) hAE.size ?_))
      intro a8 c8 V8 hO8 hG8 hq8
      have hA8 := ownE.grew hG8 hAE (Nat.le_refl _) hAE.size
      have ownF : Own .u8 5 V8 V2.heap.size (.slice a8 (L.length) c8) L := by first | exact hO8 | (have := hO8; rwa [List.nil_append, show ([] : List Int).length + L.length = L.length from Nat.zero_add _] at this)
      have slB := (hs2.out.below hB.out).below hA8
      clear hO8 hq8 hG8 ownE slA hAE
      try rw [show ([] : List Int).length + L.length = L.length from Nat.zero_add _]
      have hLN := hid ownF.slf.1
      go_wp2_with (at_builtin; go_loud (refine wpList_appK rfl (.tmp 37) (.tmp 38) 22 rfl V2.heap.size 5 .u8 1 bytesOf _ L rfl ownF a1 len1 cap1 ms rfl slB (by have := hLN.out; omega) (by decide) hA8.size ?_))
      intro a9 c9 V9 hO9 hG9 hq9
      have hA := ownF.grew hG9 hA8 (Nat.le_refl _) hA8.size
      replace hO9 := hid hO9
      clear hG9 hq9 ownF slB hA8
      replace hO1 := hid (hO1.out.below hA)
      replace rm := hid (held_after hA rm.out)
      replace hB := hid (bthen hB.out hA)
      clear hA
      go_wp2_with fail
      refine (ftake_of a9 (L.length + len1) c9 (L ++ ms) _ hO9.out.slf (bytes_wf (app_bd hLb.out hb2.out)) (by omega) hq.out).mono ?_
      rintro e V10 ⟨r2a, r2c, rfl, hO2, hA⟩
      replace hO1 := hid (hO1.out.below hA)
      replace hO9 := hid (hO9.out.below hA)
      replace rm := hid (held_after hA rm.out)
      replace hB := hid (bthen hB.out hA)
      clear hA
      replace hO2 := hid hO2
      have nw := alloc_new V10 (.cells #[.int .i64 a0_0, .int .i64 a0_1, .slice r2a zs.length r2c] 24)
      have hA := nw.2.1
      have rg := nw.2.2
      clear nw
      go_upto_region 5 with (fail)
      obtain ⟨V11, hV11⟩ : ∃ X, V10.alloc (.cells #[.int .i64 a0_0, .int .i64 a0_1, .slice r2a zs.length r2c] 24) = X := ⟨_, rfl⟩
      rw [hV11] at hA rg ⊢
      obtain ⟨qg, hqg⟩ : ∃ X, V10.heap.size = X := ⟨_, rfl⟩
      rw [hqg] at rg ⊢
      replace hV11 := hid hV11
      replace hqg := hid hqg
      replace hO1 := hid (hO1.out.below hA)
      replace hO9 := hid (hO9.out.below hA)
      replace hO2 := hid (hO2.out.below hA)
      replace rm := hid (held_after hA rm.out)
      replace hB := hid (bthen hB.out hA)
      clear hA
      replace rg := hid rg
      have z0 := held_cell rm.out 0 _ rfl
      have z1 := held_cell rm.out 1 _ rfl
      have z2 := held_cell rm.out 2 _ rfl
      have y0 := held_cell rg.out 0 _ rfl
      have y1 := held_cell rg.out 1 _ rfl
      have y2 := held_cell rg.out 2 _ rfl
      go_wp2_with fail
      refine (num15_any 0 _ (by omega) (by omega)).mono ?_
      rintro e V ⟨rfl, rfl⟩
      go_wp2_with fail
      refine (num15_any 0 _ (by omega) (by omega)).mono ?_
      rintro e V ⟨rfl, rfl⟩
      go_wp2_with fail
      clear z0 z1 z2 y0 y1 y2
      refine (same15_self a0_0 a0_1 a0_2 r2a len0_2 cap0_2 zs.length r2c zs _ (hs1.out.below hB.out) hO2.out hb1.out).mono ?_
      rintro e V12 ⟨rfl, hA⟩
      replace hO1 := hid (hO1.out.below hA)
      replace hO9 := hid (hO9.out.below hA)
      replace hO2 := hid (hO2.out.below hA)
      replace rm := hid (held_after hA rm.out)
      replace rg := hid (held_after hA rg.out)
      replace hB := hid (bthen hB.out hA)
      clear hA
      have z0 := held_cell rm.out 0 _ rfl
      have z1 := held_cell rm.out 1 _ rfl
      have z2 := held_cell rm.out 2 _ rfl
      go_wp2_with fail
      refine (fsize_any (len0_2 : Int) _).mono ?_
      rintro e V ⟨rfl, rfl⟩
      rw [hsz2.out]
      go_wp2_with fail
      refine (num15_any 0 _ (by omega) (by omega)).mono ?_
      rintro e V ⟨rfl, rfl⟩
      go_wp2_with fail
      try clear z0 z1 z2
      try clear y0 y1 y2
      refine (ftake_of a1 len1 cap1 ms _ (hs2.out.below hB.out) hw2.out (by omega) hm.out).mono ?_
      rintro e V13 ⟨r3a, r3c, rfl, hO3, hA⟩
      replace hO1 := hid (hO1.out.below hA)
      replace hO9 := hid (hO9.out.below hA)
      replace hO2 := hid (hO2.out.below hA)
      replace rm := hid (held_after hA rm.out)
      replace rg := hid (held_after hA rg.out)
      replace hB := hid (bthen hB.out hA)
      clear hA
      replace hO3 := hid hO3
      have nw := alloc_new V13 (.cells #[.int .i64 0, .int .i64 0, .slice r3a 0 r3c] 24)
      have hA := nw.2.1
      have rx := nw.2.2
      clear nw
      go_upto_region 8 with (fail)
      obtain ⟨V14, hV14⟩ : ∃ X, V13.alloc (.cells #[.int .i64 0, .int .i64 0, .slice r3a 0 r3c] 24) = X := ⟨_, rfl⟩
      rw [hV14] at hA rx ⊢
      obtain ⟨qx, hqx⟩ : ∃ X, V13.heap.size = X := ⟨_, rfl⟩
      rw [hqx] at rx ⊢
      replace hV14 := hid hV14
      replace hqx := hid hqx
      replace hO1 := hid (hO1.out.below hA)
      replace hO9 := hid (hO9.out.below hA)
      replace hO2 := hid (hO2.out.below hA)
      replace hO3 := hid (hO3.out.below hA)
      replace rm := hid (held_after hA rm.out)
      replace rg := hid (held_after hA rg.out)
      replace hB := hid (bthen hB.out hA)
      clear hA
      replace rx := hid rx
      have x0 := held_cell rx.out 0 _ rfl
      have x1 := held_cell rx.out 1 _ rfl
      have x2 := held_cell rx.out 2 _ rfl
      go_wp2_with fail
      refine (num15_any xe _ (by omega) (by omega)).mono ?_
      rintro e V ⟨rfl, rfl⟩
      go_wp2_with fail
      refine (same15_self 0 0 r3a none 0 r3c 0 0 [] _ hO3.out (sl_nil _ _) (by simp)).mono ?_
      rintro e V15 ⟨rfl, hA⟩
      replace hO1 := hid (hO1.out.below hA)
      replace hO9 := hid (hO9.out.below hA)
      replace hO2 := hid (hO2.out.below hA)
      replace hO3 := hid (hO3.out.below hA)
      replace rm := hid (held_after hA rm.out)
      replace rg := hid (held_after hA rg.out)
      replace rx := hid (held_after hA rx.out)
      replace hB := hid (bthen hB.out hA)
      clear hA
      go_wp2_with fail
      go_ret
      exact ⟨rfl, hB.out⟩
  · by_cases hx : xe = 0
    · obtain rfl : L = [] := hL0.out he
      have hee : (ee == 0) = false := by simp [he]
      have hee2 : (ee != 0) = true := by simp [he]
      have hq := hm
      have hLb : Hid (∀ n ∈ ([] : List Int), 0 ≤ n ∧ n ≤ 255) := hid (by simp)
      have hLn : ([] : List Int).length ≤ 2000 := by simp
      replace he := hid he
      clear hL0
      subst hx
      obtain ⟨K, rfl, hTP, hK1, hK2, hxl⟩ := take_putF hm.out hb2.out
      obtain ⟨S5, hS5⟩ : ∃ S, ms.take K = S := ⟨_, rfl⟩
      rw [hS5] at hTP
      replace hTP := hid hTP
      replace hS5 := hid hS5
      clear hX0
      go_enter Try.func5, Try.ntmps5
      go_wp2_with fail
      refine (knows15_any _).mono ?_
      rintro e V1 ⟨rfl, hA⟩
      clear hV0
      clear z0 z1 z2
      replace rm := hid (held_after hA rm.out)
      replace hB := hid (bthen hB.out hA)
      clear hA
      have z0 := held_cell rm.out 0 _ rfl
      have z1 := held_cell rm.out 1 _ rfl
      have z2 := held_cell rm.out 2 _ rfl
      go_wp2_with fail
      clear z0 z1 z2
      refine (fput_of a0_0 a0_1 a0_2 len0_2 cap0_2 zs _ hl (hs1.out.below hB.out) hw1.out hr.out).mono ?_
      rintro e V2 ⟨r1a, r1c, rfl, hO1, hA⟩
      replace rm := hid (held_after hA rm.out)
      replace hB := hid (bthen hB.out hA)
      clear hA
      replace hO1 := hid hO1
      have nE := alloc_new V2 (.cells #[] 5)
      have ownE := Own.lit .u8 5 V2 [] V2.heap.size (Nat.le_refl _) (by simp) #[] rfl
      have hAE := nE.2.1
      have slA := (hO1.out.slf).below hAE
      clear nE
      go_wp2_with (at_builtin; go_loud (refine wpList_appK rfl (.tmp 35) (.tmp 36) 22 rfl V2.heap.size 5 .u8 1 bytesOf _ [] rfl ownE r1a (([] : List Int).length) r1c [] rfl slA (by simp <;> omega) (by decide) hAE.size ?_))
      intro a8 c8 V8 hO8 hG8 hq8
      have hA8 := ownE.grew hG8 hAE (Nat.le_refl _) hAE.size
      have ownF : Own .u8 5 V8 V2.heap.size (.slice a8 (([] : List Int).length) c8) [] := by first | exact hO8 | (have := hO8; rwa [List.nil_append, show ([] : List Int).length + ([] : List Int).length = ([] : List Int).length from Nat.zero_add _] at this)
      have slB := (hs2.out.below hB.out).below hA8
      clear hO8 hq8 hG8 ownE slA hAE
      try rw [show ([] : List Int).length + ([] : List Int).length = ([] : List Int).length from Nat.zero_add _]
      have hLN := hid ownF.slf.1
      go_wp2_with (at_builtin; go_loud (refine wpList_appK rfl (.tmp 37) (.tmp 38) 22 rfl V2.heap.size 5 .u8 1 bytesOf _ [] rfl ownF a1 len1 cap1 ms rfl slB (by have := hLN.out; omega) (by decide) hA8.size ?_))
      intro a9 c9 V9 hO9 hG9 hq9
      have hA := ownF.grew hG9 hA8 (Nat.le_refl _) hA8.size
      replace hO9 := hid hO9
      clear hG9 hq9 ownF slB hA8
      replace hO1 := hid (hO1.out.below hA)
      replace rm := hid (held_after hA rm.out)
      replace hB := hid (bthen hB.out hA)
      clear hA
      go_wp2_with fail
      refine (ftake_of a9 len1 c9 ms _ hO9.out.slf hw2.out (by omega) hm.out).mono ?_
      rintro e V10 ⟨r2a, r2c, rfl, hO2, hA⟩
      replace hO1 := hid (hO1.out.below hA)
      replace hO9 := hid (hO9.out.below hA)
      replace rm := hid (held_after hA rm.out)
      replace hB := hid (bthen hB.out hA)
      clear hA
      replace hO2 := hid hO2
      have nw := alloc_new V10 (.cells #[.int .i64 xc, .int .i64 xi, .slice r2a xp.length r2c] 24)
      have hA := nw.2.1
      have rg := nw.2.2
      clear nw
      go_upto_region 5 with (fail)
      obtain ⟨V11, hV11⟩ : ∃ X, V10.alloc (.cells #[.int .i64 xc, .int .i64 xi, .slice r2a xp.length r2c] 24) = X := ⟨_, rfl⟩
      rw [hV11] at hA rg ⊢
      obtain ⟨qg, hqg⟩ : ∃ X, V10.heap.size = X := ⟨_, rfl⟩
      rw [hqg] at rg ⊢
      replace hV11 := hid hV11
      replace hqg := hid hqg
      replace hO1 := hid (hO1.out.below hA)
      replace hO9 := hid (hO9.out.below hA)
      replace hO2 := hid (hO2.out.below hA)
      replace rm := hid (held_after hA rm.out)
      replace hB := hid (bthen hB.out hA)
      clear hA
      replace rg := hid rg
      have z0 := held_cell rm.out 0 _ rfl
      have z1 := held_cell rm.out 1 _ rfl
      have z2 := held_cell rm.out 2 _ rfl
      have y0 := held_cell rg.out 0 _ rfl
      have y1 := held_cell rg.out 1 _ rfl
      have y2 := held_cell rg.out 2 _ rfl
      go_wp2_with fail
      refine (num15_any ee _ (by omega) (by omega)).mono ?_
      rintro e V ⟨rfl, rfl⟩
      go_wp2_with fail
      refine (num15_any ee _ (by omega) (by omega)).mono ?_
      rintro e V ⟨rfl, rfl⟩
      go_wp2_with fail
      try clear z0 z1 z2
      try clear y0 y1 y2
      refine (ftake_of a1 len1 cap1 ms _ (hs2.out.below hB.out) hw2.out (by omega) hm.out).mono ?_
      rintro e V12 ⟨r3a, r3c, rfl, hO3, hA⟩
      replace hO1 := hid (hO1.out.below hA)
      replace hO9 := hid (hO9.out.below hA)
      replace hO2 := hid (hO2.out.below hA)
      replace rm := hid (held_after hA rm.out)
      replace rg := hid (held_after hA rg.out)
      replace hB := hid (bthen hB.out hA)
      clear hA
      replace hO3 := hid hO3
      have nw := alloc_new V12 (.cells #[.int .i64 xc, .int .i64 xi, .slice r3a xp.length r3c] 24)
      have hA := nw.2.1
      have rx := nw.2.2
      clear nw
      go_upto_region 8 with (fail)
      obtain ⟨V13, hV13⟩ : ∃ X, V12.alloc (.cells #[.int .i64 xc, .int .i64 xi, .slice r3a xp.length r3c] 24) = X := ⟨_, rfl⟩
      rw [hV13] at hA rx ⊢
      obtain ⟨qx, hqx⟩ : ∃ X, V12.heap.size = X := ⟨_, rfl⟩
      rw [hqx] at rx ⊢
      replace hV13 := hid hV13
      replace hqx := hid hqx
      replace hO1 := hid (hO1.out.below hA)
      replace hO9 := hid (hO9.out.below hA)
      replace hO2 := hid (hO2.out.below hA)
      replace hO3 := hid (hO3.out.below hA)
      replace rm := hid (held_after hA rm.out)
      replace rg := hid (held_after hA rg.out)
      replace hB := hid (bthen hB.out hA)
      clear hA
      replace rx := hid rx
      have x0 := held_cell rx.out 0 _ rfl
      have x1 := held_cell rx.out 1 _ rfl
      have x2 := held_cell rx.out 2 _ rfl
      go_wp2_with fail
      refine (num15_any 0 _ (by omega) (by omega)).mono ?_
      rintro e V ⟨rfl, rfl⟩
      go_wp2_with fail
      clear x0 x1 x2
      refine (fput_of xc xi r3a xp.length r3c xp _ (by omega) hO3.out (bytes_wf td.out) hTP.out).mono ?_
      rintro e V14 ⟨r4a, r4c, rfl, hO4, hA⟩
      replace hO1 := hid (hO1.out.below hA)
      replace hO9 := hid (hO9.out.below hA)
      replace hO2 := hid (hO2.out.below hA)
      replace hO3 := hid (hO3.out.below hA)
      replace rm := hid (held_after hA rm.out)
      replace rg := hid (held_after hA rg.out)
      replace rx := hid (held_after hA rx.out)
      replace hB := hid (bthen hB.out hA)
      clear hA
      replace hO4 := hid hO4
      have q1 : ((K : Int)).toNat = K := by omega
      have q2 : (0 : Int) ≤ (K : Int) := by omega
      have q3 : (K : Int) ≤ (len1 : Int) := by have := zl2.out; omega
      have q4 : (len1 : Int) ≤ (cap1 : Int) := by have := hs2.out.2.1; omega
      have q5 : (K : Int) ≤ (cap1 : Int) := by omega
      have q6 : (8 : Int) ≤ (K : Int) := by omega
      have t1 := hO4.out.textR 22 9 5 Try.underlying22 Try.underlying5 Try.underlying9
      have hSb := (hs2.out.below hB.out).take K (by have := zl2.out; omega)
      rw [hS5.out] at hSb
      have t2 : ∀ U, After V14 U → (convert 22 9 (.slice a1 K cap1)).run Try.prog U = .ok (.string (textOf S5)) U := fun U h => (hSb.below h).text 22 9 5 Try.underlying22 Try.underlying5 Try.underlying9
      replace hB := hid hB.out
      clear hSb
      generalize textOf S5 = TX at *
      go_upto_region 11 with (fail)
      have hBk := hB.out
      clear hB
      have hB := hBk
      apply wp_region_seg (w := V14) (S := [.q [], .q [], .q [], .q [], .q [], .q [], .q [], .q [], .q [], .q [], .q [], .q [], .q [], .q [], .q [], .q [], .q [], .q [], .q [], .q [], .q [], .q [], .q []]) (E := [.q0 _, .c0 _, .q0 _, .q0 _, .q0 _, .q0 _, .q0 _, .q0 _, .q0 _, .q0 _, .q0 _, .q0 _, .q0 _, .q0 _, .q0 _, .q0 _, .q0 _, .q0 _, .q0 _, .q0 _, .q0 _, .q0 _, .q0 _]) (by kernel_rfl) rfl (by kernel_rfl) rfl rfl
      intro th hge hne
      refine Seg.step _ rfl (Or.inl ⟨by rfl, fun U hU => vp_quiet (by (go_simp <;> exact rfl))⟩) ⟨_, by (simp only [Ent.val]; go_simp <;> exact rfl), ?_⟩
      refine Seg.step _ rfl (Or.inl ⟨by rfl, fun U hU => ?_⟩) ?_
      · go_simp
        refine vp_calls (num15_any 0 _ (by omega) (by omega))
      refine ⟨_, by (simp only [Ent.val]; go_simp <;> exact rfl), ?_⟩
      refine Seg.step _ rfl (Or.inl ⟨by rfl, fun U hU => vp_quiet (by (go_simp <;> exact rfl))⟩) ⟨_, by (simp only [Ent.val]; go_simp <;> exact rfl), ?_⟩
      refine Seg.step _ rfl (Or.inl ⟨by rfl, fun U hU => vp_quiet (by (go_simp <;> exact rfl))⟩) ⟨_, by (simp only [Ent.val]; go_simp <;> exact rfl), ?_⟩
      refine Seg.step _ rfl (Or.inl ⟨by rfl, fun U hU => vp_quiet (by (go_simp <;> exact rfl))⟩) ⟨_, by (simp only [Ent.val]; go_simp <;> exact rfl), ?_⟩
      refine Seg.step _ rfl (Or.inl ⟨by rfl, fun U hU => vp_quiet (by (go_simp <;> exact rfl))⟩) ⟨_, by (simp only [Ent.val]; go_simp <;> exact rfl), ?_⟩
      refine Seg.step _ rfl (Or.inl ⟨by rfl, fun U hU => vp_quiet (by (go_simp <;> exact rfl))⟩) ⟨_, by (simp only [Ent.val]; go_simp <;> exact rfl), ?_⟩
      refine Seg.step _ rfl (Or.inl ⟨by rfl, fun U hU => vp_quiet (by (go_simp <;> exact rfl))⟩) ⟨_, by (simp only [Ent.val]; go_simp <;> exact rfl), ?_⟩
      refine Seg.step _ rfl (Or.inl ⟨by rfl, fun U hU => vp_quiet (by (go_simp <;> exact rfl))⟩) ⟨_, by (simp only [Ent.val]; go_simp <;> exact rfl), ?_⟩
      refine Seg.step _ rfl (Or.inl ⟨by rfl, fun U hU => vp_quiet (by (go_simp <;> exact rfl))⟩) ⟨_, by (simp only [Ent.val]; go_simp <;> exact rfl), ?_⟩
      refine Seg.step _ rfl (Or.inl ⟨by rfl, fun U hU => vp_quiet (by (go_simp <;> exact rfl))⟩) ⟨_, by (simp only [Ent.val]; go_simp <;> exact rfl), ?_⟩
      refine Seg.step _ rfl (Or.inl ⟨by rfl, fun U hU => vp_quiet (by (go_simp <;> exact rfl))⟩) ⟨_, by (simp only [Ent.val]; go_simp <;> exact rfl), ?_⟩
      refine Seg.step _ rfl (Or.inl ⟨by rfl, fun U hU => vp_quiet (by (go_simp <;> exact rfl))⟩) ⟨_, by (simp only [Ent.val]; go_simp <;> exact rfl), ?_⟩
      refine Seg.step _ rfl (Or.inl ⟨by rfl, fun U hU => vp_quiet (by (go_simp <;> exact rfl))⟩) ⟨_, by (simp only [Ent.val]; go_simp <;> exact rfl), ?_⟩
      refine Seg.step _ rfl (Or.inl ⟨by rfl, fun U hU => vp_quiet (by (go_simp <;> exact rfl))⟩) ⟨_, by (simp only [Ent.val]; go_simp <;> exact rfl), ?_⟩
      refine Seg.step _ rfl (Or.inl ⟨by rfl, fun U hU => vp_quiet (by (have hx := t1 U hU.1; go_simp <;> exact rfl))⟩) ⟨_, by (simp only [Ent.val]; go_simp <;> exact rfl), ?_⟩
      refine Seg.step _ rfl (Or.inl ⟨by rfl, fun U hU => vp_quiet (by (go_simp <;> exact rfl))⟩) ⟨_, by (simp only [Ent.val]; go_simp <;> exact rfl), ?_⟩
      refine Seg.step _ rfl (Or.inl ⟨by rfl, fun U hU => vp_quiet (by (go_simp <;> exact rfl))⟩) ⟨_, by (simp only [Ent.val]; go_simp <;> exact rfl), ?_⟩
      refine Seg.step _ rfl (Or.inl ⟨by rfl, fun U hU => vp_quiet (by (go_simp <;> exact rfl))⟩) ⟨_, by (simp only [Ent.val]; go_simp <;> exact rfl), ?_⟩
      refine Seg.step _ rfl (Or.inl ⟨by rfl, fun U hU => vp_quiet (by (have hx := t2 U hU.1; go_simp <;> exact rfl))⟩) ⟨_, by (simp only [Ent.val]; go_simp <;> exact rfl), ?_⟩
      refine Seg.step _ rfl (Or.inl ⟨by rfl, fun U hU => vp_quiet (by (go_simp <;> exact rfl))⟩) ⟨_, by (simp only [Ent.val]; go_simp <;> exact rfl), ?_⟩
      refine Seg.step _ rfl (Or.inl ⟨by rfl, fun U hU => vp_quiet (by (go_simp <;> exact rfl))⟩) ⟨_, by (simp only [Ent.val]; go_simp <;> exact rfl), ?_⟩
      refine Seg.step _ rfl (Or.inl ⟨by rfl, fun U hU => vp_quiet (by (go_simp <;> exact rfl))⟩) ⟨_, by (simp only [Ent.val]; go_simp <;> exact rfl), ?_⟩
      refine Seg.stop (fun U31 hU hk => ?_)
      clear hk hge hne
      have sz31 := hU.size
      replace hB := bthen hB hU
      go_wp2_with fail
      go_ret
      exact ⟨ret_bool (by simp), hB⟩
    · obtain rfl : L = [] := hL0.out he
      have hee : (ee == 0) = false := by simp [he]
      have hee2 : (ee != 0) = true := by simp [he]
      have hq := hm
      have hLb : Hid (∀ n ∈ ([] : List Int), 0 ≤ n ∧ n ≤ 255) := hid (by simp)
      have hLn : ([] : List Int).length ≤ 2000 := by simp
      replace he := hid he
      clear hL0
      obtain ⟨hX1, hX2⟩ := hX0.out hx
      simp only [Prod.mk.injEq] at hX1
      obtain ⟨rfl, rfl, rfl⟩ := hX1
      subst hX2
      have hxe : (xe != 0) = true := by simp [hx]
      replace hx := hid hx
      clear hX0
      go_enter Try.func5, Try.ntmps5
      go_wp2_with fail
      refine (knows15_any _).mono ?_
      rintro e V1 ⟨rfl, hA⟩
      clear hV0
      clear z0 z1 z2
      replace rm := hid (held_after hA rm.out)
      replace hB := hid (bthen hB.out hA)
      clear hA
      have z0 := held_cell rm.out 0 _ rfl
      have z1 := held_cell rm.out 1 _ rfl
      have z2 := held_cell rm.out 2 _ rfl
      go_wp2_with fail
      clear z0 z1 z2
      refine (fput_of a0_0 a0_1 a0_2 len0_2 cap0_2 zs _ hl (hs1.out.below hB.out) hw1.out hr.out).mono ?_
      rintro e V2 ⟨r1a, r1c, rfl, hO1, hA⟩
      replace rm := hid (held_after hA rm.out)
      replace hB := hid (bthen hB.out hA)
      clear hA
      replace hO1 := hid hO1
      have nE := alloc_new V2 (.cells #[] 5)
      have ownE := Own.lit .u8 5 V2 [] V2.heap.size (Nat.le_refl _) (by simp) #[] rfl
      have hAE := nE.2.1
      have slA := (hO1.out.slf).below hAE
      clear nE
      go_wp2_with (at_builtin; go_loud (refine wpList_appK rfl (.tmp 35) (.tmp 36) 22 rfl V2.heap.size 5 .u8 1 bytesOf _ [] rfl ownE r1a (([] : List Int).length) r1c [] rfl slA (by simp <;> omega) (by decide) hAE.size ?_))
      intro a8 c8 V8 hO8 hG8 hq8
      have hA8 := ownE.grew hG8 hAE (Nat.le_refl _) hAE.size
      have ownF : Own .u8 5 V8 V2.heap.size (.slice a8 (([] : List Int).length) c8) [] := by first | exact hO8 | (have := hO8; rwa [List.nil_append, show ([] : List Int).length + ([] : List Int).length = ([] : List Int).length from Nat.zero_add _] at this)
      have slB := (hs2.out.below hB.out).below hA8
      clear hO8 hq8 hG8 ownE slA hAE
      try rw [show ([] : List Int).length + ([] : List Int).length = ([] : List Int).length from Nat.zero_add _]
      have hLN := hid ownF.slf.1
      go_wp2_with (at_builtin; go_loud (refine wpList_appK rfl (.tmp 37) (.tmp 38) 22 rfl V2.heap.size 5 .u8 1 bytesOf _ [] rfl ownF a1 len1 cap1 ms rfl slB (by have := hLN.out; omega) (by decide) hA8.size ?_))
      intro a9 c9 V9 hO9 hG9 hq9
      have hA := ownF.grew hG9 hA8 (Nat.le_refl _) hA8.size
      replace hO9 := hid hO9
      clear hG9 hq9 ownF slB hA8
      replace hO1 := hid (hO1.out.below hA)
      replace rm := hid (held_after hA rm.out)
      replace hB := hid (bthen hB.out hA)
      clear hA
      go_wp2_with fail
      refine (ftake_of a9 len1 c9 ms _ hO9.out.slf hw2.out (by omega) hm.out).mono ?_
      rintro e V10 ⟨r2a, r2c, rfl, hO2, hA⟩
      replace hO1 := hid (hO1.out.below hA)
      replace hO9 := hid (hO9.out.below hA)
      replace rm := hid (held_after hA rm.out)
      replace hB := hid (bthen hB.out hA)
      clear hA
      replace hO2 := hid hO2
      have nw := alloc_new V10 (.cells #[.int .i64 0, .int .i64 0, .slice r2a 0 r2c] 24)
      have hA := nw.2.1
      have rg := nw.2.2
      clear nw
      go_upto_region 5 with (fail)
      obtain ⟨V11, hV11⟩ : ∃ X, V10.alloc (.cells #[.int .i64 0, .int .i64 0, .slice r2a 0 r2c] 24) = X := ⟨_, rfl⟩
      rw [hV11] at hA rg ⊢
      obtain ⟨qg, hqg⟩ : ∃ X, V10.heap.size = X := ⟨_, rfl⟩
      rw [hqg] at rg ⊢
      replace hV11 := hid hV11
      replace hqg := hid hqg
      replace hO1 := hid (hO1.out.below hA)
      replace hO9 := hid (hO9.out.below hA)
      replace hO2 := hid (hO2.out.below hA)
      replace rm := hid (held_after hA rm.out)
      replace hB := hid (bthen hB.out hA)
      clear hA
      replace rg := hid rg
      have z0 := held_cell rm.out 0 _ rfl
      have z1 := held_cell rm.out 1 _ rfl
      have z2 := held_cell rm.out 2 _ rfl
      have y0 := held_cell rg.out 0 _ rfl
      have y1 := held_cell rg.out 1 _ rfl
      have y2 := held_cell rg.out 2 _ rfl
      go_wp2_with fail
      refine (num15_any ee _ (by omega) (by omega)).mono ?_
      rintro e V ⟨rfl, rfl⟩
      go_wp2_with fail
      refine (num15_any ee _ (by omega) (by omega)).mono ?_
      rintro e V ⟨rfl, rfl⟩
      go_wp2_with fail
      try clear z0 z1 z2
      try clear y0 y1 y2
      refine (ftake_of a1 len1 cap1 ms _ (hs2.out.below hB.out) hw2.out (by omega) hm.out).mono ?_
      rintro e V12 ⟨r3a, r3c, rfl, hO3, hA⟩
      replace hO1 := hid (hO1.out.below hA)
      replace hO9 := hid (hO9.out.below hA)
      replace hO2 := hid (hO2.out.below hA)
      replace rm := hid (held_after hA rm.out)
      replace rg := hid (held_after hA rg.out)
      replace hB := hid (bthen hB.out hA)
      clear hA
      replace hO3 := hid hO3
      have nw := alloc_new V12 (.cells #[.int .i64 0, .int .i64 0, .slice r3a 0 r3c] 24)
      have hA := nw.2.1
      have rx := nw.2.2
      clear nw
      go_upto_region 8 with (fail)
      obtain ⟨V13, hV13⟩ : ∃ X, V12.alloc (.cells #[.int .i64 0, .int .i64 0, .slice r3a 0 r3c] 24) = X := ⟨_, rfl⟩
      rw [hV13] at hA rx ⊢
      obtain ⟨qx, hqx⟩ : ∃ X, V12.heap.size = X := ⟨_, rfl⟩
      rw [hqx] at rx ⊢
      replace hV13 := hid hV13
      replace hqx := hid hqx
      replace hO1 := hid (hO1.out.below hA)
      replace hO9 := hid (hO9.out.below hA)
      replace hO2 := hid (hO2.out.below hA)
      replace hO3 := hid (hO3.out.below hA)
      replace rm := hid (held_after hA rm.out)
      replace rg := hid (held_after hA rg.out)
      replace hB := hid (bthen hB.out hA)
      clear hA
      replace rx := hid rx
      have x0 := held_cell rx.out 0 _ rfl
      have x1 := held_cell rx.out 1 _ rfl
      have x2 := held_cell rx.out 2 _ rfl
      go_wp2_with fail
      refine (num15_any xe _ (by omega) (by omega)).mono ?_
      rintro e V ⟨rfl, rfl⟩
      go_wp2_with fail
      refine (same15_self 0 0 r3a none 0 r3c 0 0 [] _ hO3.out (sl_nil _ _) (by simp)).mono ?_
      rintro e V14 ⟨rfl, hA⟩
      replace hO1 := hid (hO1.out.below hA)
      replace hO9 := hid (hO9.out.below hA)
      replace hO2 := hid (hO2.out.below hA)
      replace hO3 := hid (hO3.out.below hA)
      replace rm := hid (held_after hA rm.out)
      replace rg := hid (held_after hA rg.out)
      replace rx := hid (held_after hA rx.out)
      replace hB := hid (bthen hB.out hA)
      clear hA
      go_wp2_with fail
      go_ret
      exact ⟨rfl, hB.out⟩

end Go.Proofs.Ytjmmboijpkfllaa
