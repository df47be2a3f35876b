/- The laws of layer 35: BlockBack. -/
import Derived.Test.YtmfhniekcbadlaaLaw35
import Derived.Deep.DeepCutAuto
namespace Go.Proofs.Ytmfhniekcbadlaa
open Go.ChangeShapes Go.WideShapes Go.ChangeAt Go.RowKit
set_option linter.unusedVariables false
set_option linter.unusedSimpArgs false

set_option maxRecDepth 100000 in
set_option maxHeartbeats 8000000 in
theorem law_BlockBack (a0_0 : Int) (a0_1 : Option Addr) (len0_1 cap0_1 : Nat) (x0_1 : List (List Value)) (a1 : Option Addr) (len1 cap1 : Nat) (z1 : List Int) (W : World) (w0_0 : (Lit.int .u32 a0_0).wf = true) (w0_1 : Els W 14 a0_1 len0_1 cap0_1 x0_1) (t0_1 : ∀ x ∈ x0_1, (∃ (c0 : Bool) (c1 : Int) (c2 : Int) (c3 : Int) (c4 : Int) (c5 : Int) (c6 : Int) (c7 : Int) (c8 : Int) (c9 : Int) (c10 : Int) (c11 : Int) (c12 : Int) (c13 : Int), x = [.bool c0, .int .u32 c1, .int .i32 c2, .int .i32 c3, .int .i32 c4, .int .i32 c5, .int .i32 c6, .int .i32 c7, .int .i32 c8, .int .i32 c9, .int .i32 c10, .int .i32 c11, .int .i32 c12, .int .i32 c13] ∧ ((Lit.int .u32 c1).wf = true) ∧ ((Lit.int .i32 c2).wf = true) ∧ ((Lit.int .i32 c3).wf = true) ∧ ((Lit.int .i32 c4).wf = true) ∧ ((Lit.int .i32 c5).wf = true) ∧ ((Lit.int .i32 c6).wf = true) ∧ ((Lit.int .i32 c7).wf = true) ∧ ((Lit.int .i32 c8).wf = true) ∧ ((Lit.int .i32 c9).wf = true) ∧ ((Lit.int .i32 c10).wf = true) ∧ ((Lit.int .i32 c11).wf = true) ∧ ((Lit.int .i32 c12).wf = true) ∧ ((Lit.int .i32 c13).wf = true))) (w1 : IsRow .u8 W a1 len1 cap1 z1) :
    Calls Try.prog 5 #[.agg #[.int .u32 a0_0, .slice a0_1 len0_1 cap0_1], .slice a1 len1 cap1] W fun e w' => e = .returned (.bool true) ∧ Below W.heap.size W w' := by
  have hno := hid (u32_bd35 w0_0)
  obtain ⟨l, rfl, hwf⟩ := els_ents t0_1
  obtain rfl : l.length = len0_1 := by have := w0_1.1; simpa [entsV] using this
  replace hwf := hid hwf
  clear w0_0 t0_1
  have nw := alloc_new W (.cells #[.int .u32 a0_0, .slice a0_1 l.length cap0_1] 25)
  have hB := hid nw.2.1
  have rm := hid nw.2.2
  have hE := hid (w0_1.below nw.2.1)
  clear nw w0_1
  obtain ⟨V0, hV0⟩ : ∃ X, W.alloc (.cells #[.int .u32 a0_0, .slice a0_1 l.length cap0_1] 25) = X := ⟨_, rfl⟩
  rw [hV0] at hB rm hE
  obtain ⟨hs1, hw1⟩ := w1.sl
  generalize z1.take len1 = bs at hs1 hw1
  clear w1
  have hb2 := hid (bytes_bd hw1)
  replace hs1 := hid hs1
  replace hw1 := hid hw1
  by_cases cb : (100 : Int) < l.length
  case pos =>
    have z0 := held_cell rm.out 0 _ rfl
    have z1 := held_cell rm.out 1 _ rfl
    go_enter Try.func5, Try.ntmps5
    go_wp2_with fail
    refine (knows35_any _).mono ?_
    rintro e V ⟨rfl, hst⟩
    replace hst := hid (bthen hB.out hst)
    go_wp2_with fail
    go_ret
    exact ⟨rfl, hst.out⟩
  by_cases cc : (300 : Int) < len1
  case pos =>
    have z0 := held_cell rm.out 0 _ rfl
    have z1 := held_cell rm.out 1 _ rfl
    go_enter Try.func5, Try.ntmps5
    go_wp2_with fail
    refine (knows35_any _).mono ?_
    rintro e V ⟨rfl, hst⟩
    replace hst := hid (bthen hB.out hst)
    go_wp2_with fail
    go_ret
    exact ⟨rfl, hst.out⟩
  have h100 : l.length ≤ 100 := by omega
  have pe := putB_e a0_0 l
  have hLl := putB_len (no := a0_0) (l := l)
  have hLw := hid (bytes_wf (putB_wf (no := a0_0) hwf.out))
  have hPT := hid (fun h : (putB a0_0 l).2 = 0 => takB_put hno.out (show l.length ≤ 255 by omega) hwf.out h)
  have hP0 := hid (fun h : (putB a0_0 l).2 ≠ 0 => putB_no h)
  obtain ⟨⟨L, ee⟩, hr⟩ : ∃ r, putB a0_0 l = r := ⟨_, rfl⟩
  rw [hr] at pe hLl hLw hPT hP0
  dsimp only at pe hLl hLw hPT hP0
  replace hr := hid hr
  have te := takB_e bs
  have hTB := hid (fun h : (takB bs).2.2 ≠ 0 => takB_bad (zs := bs) h)
  have hTP := hid (fun (no : Int) (l : List En) (h : takB bs = (no, l, 0)) => takB_back hw1.out h)
  obtain ⟨⟨ly, M, ge⟩, hq⟩ : ∃ r, takB bs = r := ⟨_, rfl⟩
  rw [hq] at te hTB
  dsimp only at te hTB
  replace hTP := hid (fun h : ge = 0 => hTP.out _ _ (h ▸ hq))
  replace hq := hid hq
  have z0 := held_cell rm.out 0 _ rfl
  have z1 := held_cell rm.out 1 _ rfl
  go_enter Try.func5, Try.ntmps5
  go_wp2_with fail
  clear hV0
  refine (knows35_any _).mono ?_
  rintro e V1 ⟨rfl, hA⟩
  replace hE := hid (hE.out.below hA)
  replace rm := hid (held_after hA rm.out)
  replace hB := hid (bthen hB.out hA)
  clear hA
  clear z0 z1
  have z0 := held_cell rm.out 0 _ rfl
  have z1 := held_cell rm.out 1 _ rfl
  go_wp2_with fail
  clear z0 z1
  refine (bput_any a0_0 a0_1 l.length cap0_1 l _ hno.out rfl hE.out (by omega) hwf.out).mono ?_
  rintro e V2 ⟨r1a, r1c, rfl, hO1, hA⟩
  replace hE := hid (hE.out.below hA)
  replace rm := hid (held_after hA rm.out)
  replace hB := hid (bthen hB.out hA)
  clear hA
  rw [hr.out] at hO1 ⊢
  dsimp only at hO1 ⊢
  replace hO1 := hid hO1
  go_wp2_with fail
  refine (num35_any ee _ (by omega) (by omega)).mono ?_
  rintro e V ⟨rfl, rfl⟩
  by_cases hee : ee = 0
  · subst hee
    have hPT1 := (hPT.out rfl).2
    have hLn := (hPT.out rfl).1
    replace hPT1 := hid hPT1
    replace hLn := hid hLn
    clear hPT hP0
    go_wp2_with fail
    refine (btake_any r1a L.length r1c L _ hO1.out.slf hLw.out (by omega)).mono ?_
    rintro e V3 ⟨r7a, r7c, rfl, hE7, hA⟩
    replace hE := hid (hE.out.below hA)
    replace hO1 := hid (hO1.out.below hA)
    replace rm := hid (held_after hA rm.out)
    replace hB := hid (bthen hB.out hA)
    clear hA
    rw [hPT1.out] at hE7 ⊢
    dsimp only at hE7 ⊢
    replace hE7 := hid hE7
    have nw := alloc_new V3 (.cells #[.int .u32 a0_0, .slice r7a l.length r7c] 25)
    have hA := nw.2.1
    have rk7 := nw.2.2
    clear nw
    go_upto_region 6 with (fail)
    obtain ⟨V4, hV4⟩ : ∃ X, V3.alloc (.cells #[.int .u32 a0_0, .slice r7a l.length r7c] 25) = X := ⟨_, rfl⟩
    rw [hV4] at hA rk7 ⊢
    obtain ⟨qk7, hqk7⟩ : ∃ X, V3.heap.size = X := ⟨_, rfl⟩
    rw [hqk7] at rk7 ⊢
    replace hV4 := hid hV4
    replace hqk7 := hid hqk7
    replace hE := hid (hE.out.below hA)
    replace hO1 := hid (hO1.out.below hA)
    replace hE7 := hid (hE7.out.below hA)
    replace rm := hid (held_after hA rm.out)
    replace hB := hid (bthen hB.out hA)
    clear hA
    replace rk7 := hid rk7
    have z0 := held_cell rk7.out 0 _ rfl
    have z1 := held_cell rk7.out 1 _ rfl
    have y0 := held_cell rm.out 0 _ rfl
    have y1 := held_cell rm.out 1 _ rfl
    go_wp2_with fail
    clear z0 z1 y0 y1
    refine (sameB_any a0_0 r7a a0_1 r7c cap0_1 l.length l _ rfl hE7.out hE.out (by omega) hwf.out).mono ?_
    rintro e V5 ⟨rfl, hA⟩
    replace hE := hid (hE.out.below hA)
    replace hO1 := hid (hO1.out.below hA)
    replace hE7 := hid (hE7.out.below hA)
    replace rm := hid (held_after hA rm.out)
    replace rk7 := hid (held_after hA rk7.out)
    replace hB := hid (bthen hB.out hA)
    clear hA
    have hl256 : ((L.length : Int) != 256) = false := by rw [hLn.out]; rfl
    go_wp2_with fail
    refine (num35_any 0 _ (by omega) (by omega)).mono ?_
    rintro e V ⟨rfl, rfl⟩
    go_wp2_with fail
    refine (btake_any a1 len1 cap1 bs _ (hs1.out.below hB.out) hw1.out (by omega)).mono ?_
    rintro e V6 ⟨r9a, r9c, rfl, hE9, hA⟩
    replace hE := hid (hE.out.below hA)
    replace hO1 := hid (hO1.out.below hA)
    replace hE7 := hid (hE7.out.below hA)
    replace rm := hid (held_after hA rm.out)
    replace rk7 := hid (held_after hA rk7.out)
    replace hB := hid (bthen hB.out hA)
    clear hA
    rw [hq.out] at hE9 ⊢
    dsimp only at hE9 ⊢
    replace hE9 := hid hE9
    have nw := alloc_new V6 (.cells #[.int .u32 ly, .slice r9a M.length r9c] 25)
    have hA := nw.2.1
    have rk9 := nw.2.2
    clear nw
    go_upto_region 9 with (fail)
    obtain ⟨V7, hV7⟩ : ∃ X, V6.alloc (.cells #[.int .u32 ly, .slice r9a M.length r9c] 25) = X := ⟨_, rfl⟩
    rw [hV7] at hA rk9 ⊢
    obtain ⟨qk9, hqk9⟩ : ∃ X, V6.heap.size = X := ⟨_, rfl⟩
    rw [hqk9] at rk9 ⊢
    replace hV7 := hid hV7
    replace hqk9 := hid hqk9
    replace hE := hid (hE.out.below hA)
    replace hO1 := hid (hO1.out.below hA)
    replace hE7 := hid (hE7.out.below hA)
    replace hE9 := hid (hE9.out.below hA)
    replace rm := hid (held_after hA rm.out)
    replace rk7 := hid (held_after hA rk7.out)
    replace hB := hid (bthen hB.out hA)
    clear hA
    replace rk9 := hid rk9
    go_wp2_with fail
    refine (num35_any ge _ (by omega) (by omega)).mono ?_
    rintro e V ⟨rfl, rfl⟩
    by_cases hge : ge = 0
    case neg =>
      have hn := hTB.out hge
      rw [Prod.mk.injEq, Prod.mk.injEq] at hn
      obtain ⟨rfl, rfl, -⟩ := hn
      have hne : (ge != 0) = true := by simp [hge]
      replace hge := hid hge
      simp only [List.length_nil] at hE9 rk9
      have z0 := held_cell rk9.out 0 _ rfl
      have z1 := held_cell rk9.out 1 _ rfl
      go_wp2_with fail
      clear z0 z1
      refine (sameB_any 0 r9a none r9c 0 0 [] _ rfl hE9.out (Els.nil _ _) (by simp) (fun x hx => by cases hx)).mono ?_
      rintro e V8 ⟨rfl, hA⟩
      replace hE := hid (hE.out.below hA)
      replace hO1 := hid (hO1.out.below hA)
      replace hE7 := hid (hE7.out.below hA)
      replace hE9 := hid (hE9.out.below hA)
      replace rm := hid (held_after hA rm.out)
      replace rk7 := hid (held_after hA rk7.out)
      replace rk9 := hid (held_after hA rk9.out)
      replace hB := hid (bthen hB.out hA)
      clear hA
      go_wp2_with fail
      refine (num35_any 0 _ (by omega) (by omega)).mono ?_
      rintro e V ⟨rfl, rfl⟩
      go_wp2_with fail
      go_ret
      exact ⟨ret_bool (by simp), hB.out⟩
    obtain ⟨hA1, hA2, hA3, hA4⟩ := hTP.out hge
    subst hge
    replace hA3 := hid hA3
    clear hTP hTB
    replace hA1 := hid hA1
    replace hA4 := hid hA4
    have z0 := held_cell rk9.out 0 _ rfl
    have z1 := held_cell rk9.out 1 _ rfl
    go_wp2_with fail
    clear z0 z1
    refine (bput_any ly r9a M.length r9c M _ hA4.out rfl hE9.out hA2 hA3.out).mono ?_
    rintro e V8 ⟨r5a, r5c, rfl, hO5, hA⟩
    replace hE := hid (hE.out.below hA)
    replace hO1 := hid (hO1.out.below hA)
    replace hE7 := hid (hE7.out.below hA)
    replace hE9 := hid (hE9.out.below hA)
    replace rm := hid (held_after hA rm.out)
    replace rk7 := hid (held_after hA rk7.out)
    replace rk9 := hid (held_after hA rk9.out)
    replace hB := hid (bthen hB.out hA)
    clear hA
    rw [hA1.out] at hO5 ⊢
    dsimp only at hO5 ⊢
    replace hO5 := hid hO5
    go_wp2_with fail
    have c1 := txt35 hO5.out.slf
    have c2 := txt35 (hs1.out.below hB.out)
    try dsimp only at c1
    generalize textOf bs = TX at *
    refine (num35_any 0 _ (by omega) (by omega)).mono ?_
    rintro e V ⟨rfl, rfl⟩
    go_wp2_with fail
    go_ret
    exact ⟨rfl, hB.out⟩
  · have hne : (ee == 0) = false := by simp [hee]
    obtain rfl : L = [] := hP0.out hee
    clear hPT hP0
    replace hee := hid hee
    go_wp2_with fail
    refine (btake_any a1 len1 cap1 bs _ (hs1.out.below hB.out) hw1.out (by omega)).mono ?_
    rintro e V3 ⟨r9a, r9c, rfl, hE9, hA⟩
    replace hE := hid (hE.out.below hA)
    replace hO1 := hid (hO1.out.below hA)
    replace rm := hid (held_after hA rm.out)
    replace hB := hid (bthen hB.out hA)
    clear hA
    rw [hq.out] at hE9 ⊢
    dsimp only at hE9 ⊢
    replace hE9 := hid hE9
    have nw := alloc_new V3 (.cells #[.int .u32 ly, .slice r9a M.length r9c] 25)
    have hA := nw.2.1
    have rk9 := nw.2.2
    clear nw
    go_upto_region 9 with (fail)
    obtain ⟨V4, hV4⟩ : ∃ X, V3.alloc (.cells #[.int .u32 ly, .slice r9a M.length r9c] 25) = X := ⟨_, rfl⟩
    rw [hV4] at hA rk9 ⊢
    obtain ⟨qk9, hqk9⟩ : ∃ X, V3.heap.size = X := ⟨_, rfl⟩
    rw [hqk9] at rk9 ⊢
    replace hV4 := hid hV4
    replace hqk9 := hid hqk9
    replace hE := hid (hE.out.below hA)
    replace hO1 := hid (hO1.out.below hA)
    replace hE9 := hid (hE9.out.below hA)
    replace rm := hid (held_after hA rm.out)
    replace hB := hid (bthen hB.out hA)
    clear hA
    replace rk9 := hid rk9
    go_wp2_with fail
    refine (num35_any ge _ (by omega) (by omega)).mono ?_
    rintro e V ⟨rfl, rfl⟩
    by_cases hge : ge = 0
    case neg =>
      have hn := hTB.out hge
      rw [Prod.mk.injEq, Prod.mk.injEq] at hn
      obtain ⟨rfl, rfl, -⟩ := hn
      have hne : (ge != 0) = true := by simp [hge]
      replace hge := hid hge
      simp only [List.length_nil] at hE9 rk9
      have z0 := held_cell rk9.out 0 _ rfl
      have z1 := held_cell rk9.out 1 _ rfl
      go_wp2_with fail
      clear z0 z1
      refine (sameB_any 0 r9a none r9c 0 0 [] _ rfl hE9.out (Els.nil _ _) (by simp) (fun x hx => by cases hx)).mono ?_
      rintro e V5 ⟨rfl, hA⟩
      replace hE := hid (hE.out.below hA)
      replace hO1 := hid (hO1.out.below hA)
      replace hE9 := hid (hE9.out.below hA)
      replace rm := hid (held_after hA rm.out)
      replace rk9 := hid (held_after hA rk9.out)
      replace hB := hid (bthen hB.out hA)
      clear hA
      go_wp2_with fail
      refine (num35_any ee _ (by omega) (by omega)).mono ?_
      rintro e V ⟨rfl, rfl⟩
      go_wp2_with fail
      go_ret
      exact ⟨ret_bool (by simp), hB.out⟩
    obtain ⟨hA1, hA2, hA3, hA4⟩ := hTP.out hge
    subst hge
    replace hA3 := hid hA3
    clear hTP hTB
    replace hA1 := hid hA1
    replace hA4 := hid hA4
    have z0 := held_cell rk9.out 0 _ rfl
    have z1 := held_cell rk9.out 1 _ rfl
    go_wp2_with fail
    clear z0 z1
    refine (bput_any ly r9a M.length r9c M _ hA4.out rfl hE9.out hA2 hA3.out).mono ?_
    rintro e V5 ⟨r5a, r5c, rfl, hO5, hA⟩
    replace hE := hid (hE.out.below hA)
    replace hO1 := hid (hO1.out.below hA)
    replace hE9 := hid (hE9.out.below hA)
    replace rm := hid (held_after hA rm.out)
    replace rk9 := hid (held_after hA rk9.out)
    replace hB := hid (bthen hB.out hA)
    clear hA
    rw [hA1.out] at hO5 ⊢
    dsimp only at hO5 ⊢
    replace hO5 := hid hO5
    go_wp2_with fail
    have c1 := txt35 hO5.out.slf
    have c2 := txt35 (hs1.out.below hB.out)
    try dsimp only at c1
    generalize textOf bs = TX at *
    refine (num35_any 0 _ (by omega) (by omega)).mono ?_
    rintro e V ⟨rfl, rfl⟩
    go_wp2_with fail
    go_ret
    exact ⟨rfl, hB.out⟩

end Go.Proofs.Ytmfhniekcbadlaa
