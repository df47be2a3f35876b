/- The laws of layer 18. -/
import Derived.Test.YtalmkeehocakeaaLaw18
import Derived.Deep.DeepCutAuto
namespace Go.Proofs.Ytalmkeehocakeaa
open Go.ChangeShapes Go.WideShapes Go.ChangeAt Go.RowKit
set_option linter.unusedVariables false
set_option linter.unusedSimpArgs false

set_option maxRecDepth 100000 in
set_option maxHeartbeats 8000000 in
theorem law_DopBack (a0_0 a0_1 a0_2 a0_3 a0_4 a0_5 a0_6 a0_7 : Int) (a1 : Option Addr) (len1 cap1 : Nat) (z1 : List Int)  (W : World) (w0_0 : (Lit.int .i64 a0_0).wf = true) (w0_1 : (Lit.int .i64 a0_1).wf = true) (w0_2 : (Lit.int .i64 a0_2).wf = true) (w0_3 : (Lit.int .i64 a0_3).wf = true) (w0_4 : (Lit.int .i64 a0_4).wf = true) (w0_5 : (Lit.int .i64 a0_5).wf = true) (w0_6 : (Lit.int .i64 a0_6).wf = true) (w0_7 : (Lit.int .i64 a0_7).wf = true) (w1 : IsRow .u8 W a1 len1 cap1 z1)  :
    Calls Try.prog 4 #[.agg #[.int .i64 a0_0, .int .i64 a0_1, .int .i64 a0_2, .int .i64 a0_3, .int .i64 a0_4, .int .i64 a0_5, .int .i64 a0_6, .int .i64 a0_7], .slice a1 len1 cap1] W fun e w' => e = .returned (.bool true) ∧ Below W.heap.size W w' := by
  have hb : ∀ x ∈ [a0_0, a0_1, a0_2, a0_3, a0_4, a0_5, a0_6, a0_7], -9223372036854775808 ≤ x ∧ x ≤ 9223372036854775807 := by
    intro x hx
    simp at hx
    rcases hx with rfl | rfl | rfl | rfl | rfl | rfl | rfl | rfl
    · exact bounds_i64 w0_0
    · exact bounds_i64 w0_1
    · exact bounds_i64 w0_2
    · exact bounds_i64 w0_3
    · exact bounds_i64 w0_4
    · exact bounds_i64 w0_5
    · exact bounds_i64 w0_6
    · exact bounds_i64 w0_7
  have hb1q := (bounds_i64 w0_1).1
  have hb2q := (bounds_i64 w0_2).1
  have hb3q := (bounds_i64 w0_3).1
  have hb4q := (bounds_i64 w0_4).1
  have hb5q := (bounds_i64 w0_5).1
  have hb6q := (bounds_i64 w0_6).1
  have hb7q := (bounds_i64 w0_7).1
  clear w0_0 w0_1 w0_2 w0_3 w0_4 w0_5 w0_6 w0_7
  obtain ⟨hs1, hw1⟩ := w1.sl
  generalize z1.take len1 = bs at hs1 hw1
  clear w1
  have hb2 := hid (bytes_bd hw1)
  replace hs1 := hid hs1
  replace hw1 := hid hw1
  by_cases cb : (100 : Int) < len1
  case pos =>
    clear hb hb1q hb2q hb3q hb4q hb5q hb6q hb7q
    go_enter Try.func4, Try.ntmps4
    go_wp2_with fail
    refine (knows18_any _).mono ?_
    rintro e V ⟨rfl, hst⟩
    replace hst := hid hst
    go_wp2_with fail
    go_ret
    exact ⟨rfl, bthen (alloc_new _ _).2.1 hst.out⟩
  obtain ⟨⟨L, ee⟩, hr⟩ : ∃ r, putL DL [a0_0, a0_1, a0_2, a0_3, a0_4, a0_5, a0_6, a0_7] = r := ⟨_, rfl⟩
  obtain ⟨⟨P, ge⟩, hq⟩ : ∃ r, takL DL bs = r := ⟨_, rfl⟩
  have pe := putF_e (fN DL) (fS DL) (fL DL) (fH DL) DL.length [a0_0, a0_1, a0_2, a0_3, a0_4, a0_5, a0_6, a0_7]
  have te := takF_e (fN DL) (fS DL) (fL DL) (fH DL) DL.length bs
  change 0 ≤ (putL DL [a0_0, a0_1, a0_2, a0_3, a0_4, a0_5, a0_6, a0_7]).2 ∧ (putL DL [a0_0, a0_1, a0_2, a0_3, a0_4, a0_5, a0_6, a0_7]).2 ≤ 9 at pe
  change 0 ≤ (takL DL bs).2 ∧ (takL DL bs).2 ≤ 9 at te
  rw [hr] at pe
  rw [hq] at te
  dsimp only at pe te
  obtain ⟨m0, hm0⟩ : ∃ m, P.getD 0 0 = m := ⟨_, rfl⟩
  replace hm0 := hid hm0
  obtain ⟨m1, hm1⟩ : ∃ m, P.getD 1 0 = m := ⟨_, rfl⟩
  replace hm1 := hid hm1
  obtain ⟨m2, hm2⟩ : ∃ m, P.getD 2 0 = m := ⟨_, rfl⟩
  replace hm2 := hid hm2
  obtain ⟨m3, hm3⟩ : ∃ m, P.getD 3 0 = m := ⟨_, rfl⟩
  replace hm3 := hid hm3
  obtain ⟨m4, hm4⟩ : ∃ m, P.getD 4 0 = m := ⟨_, rfl⟩
  replace hm4 := hid hm4
  obtain ⟨m5, hm5⟩ : ∃ m, P.getD 5 0 = m := ⟨_, rfl⟩
  replace hm5 := hid hm5
  obtain ⟨m6, hm6⟩ : ∃ m, P.getD 6 0 = m := ⟨_, rfl⟩
  replace hm6 := hid hm6
  obtain ⟨m7, hm7⟩ : ∃ m, P.getD 7 0 = m := ⟨_, rfl⟩
  replace hm7 := hid hm7
  clear hb1q hb2q hb3q hb4q hb5q hb6q hb7q
  have hLb := put_len hr (by decide)
  have hLl := hLb.1
  have hLw := hid (fun x hx => byte_wf (hLb.2 x hx).1 (hLb.2 x hx).2)
  have hL0 := hid (fun h => sput_bad hr h)
  have hP0 := hid (fun h => stak_bad hq h)
  have hPb := hid (tak_bd hq)
  have hP8 := hid (fun h : ge = 0 => (tak_spec (h ▸ hq)).2.2.2)
  clear hLb
  replace hr := hid hr
  replace hq := hid hq
  replace hb := hid hb
  have nw := alloc_new W (.cells #[.int .i64 a0_0, .int .i64 a0_1, .int .i64 a0_2, .int .i64 a0_3, .int .i64 a0_4, .int .i64 a0_5, .int .i64 a0_6, .int .i64 a0_7] 23)
  have hB := hid nw.2.1
  have rm := hid nw.2.2
  clear nw
  go_enter Try.func4, Try.ntmps4
  go_upto_region 1 with (fail)
  obtain ⟨V0, hV0⟩ : ∃ X, W.alloc (.cells #[.int .i64 a0_0, .int .i64 a0_1, .int .i64 a0_2, .int .i64 a0_3, .int .i64 a0_4, .int .i64 a0_5, .int .i64 a0_6, .int .i64 a0_7] 23) = X := ⟨_, rfl⟩
  rw [hV0] at hB rm ⊢
  clear hV0
  go_wp2_with fail
  refine (knows18_any _).mono ?_
  rintro e V1 ⟨rfl, hA⟩
  replace rm := hid (held_after hA rm.out)
  replace hB := hid (bthen hB.out hA)
  clear hA
  have z0 := held_cell rm.out 0 _ rfl
  have z1 := held_cell rm.out 1 _ rfl
  have z2 := held_cell rm.out 2 _ rfl
  have z3 := held_cell rm.out 3 _ rfl
  have z4 := held_cell rm.out 4 _ rfl
  have z5 := held_cell rm.out 5 _ rfl
  have z6 := held_cell rm.out 6 _ rfl
  have z7 := held_cell rm.out 7 _ rfl
  go_wp2_with fail
  clear z0 z1 z2 z3 z4 z5 z6 z7
  refine (putD_any a0_0 a0_1 a0_2 a0_3 a0_4 a0_5 a0_6 a0_7 hb.out _).mono ?_
  rintro e V2 ⟨r1a, r1c, rfl, hO1, hA⟩
  replace rm := hid (held_after hA rm.out)
  replace hB := hid (bthen hB.out hA)
  clear hA
  rw [hr.out] at hO1 ⊢
  replace hO1 := hid hO1
  go_wp2_with fail
  refine (num18_any ee _ (by omega) (by omega)).mono ?_
  rintro e V ⟨rfl, rfl⟩
  by_cases hee : ee = 0
  · subst hee
    have hPT := put_take hr.out
    have hPT1 := hid hPT.1
    have hW8 : widthS (fN DL) (fS DL) (fL DL) (fH DL) DL.length = 18 := by decide +kernel
    have hl18 : (L.length : Int) = 18 := by rw [← hPT.2]; exact hW8
    clear hW8 hPT hL0
    go_wp2_with fail
    refine (takeD_any r1a L.length r1c L _ hO1.out.slf hLw.out (by omega)).mono ?_
    rintro e V3 ⟨rfl, hA⟩
    replace hO1 := hid (hO1.out.below hA)
    replace rm := hid (held_after hA rm.out)
    replace hB := hid (bthen hB.out hA)
    clear hA
    have e9 : takL DL L = ([a0_0, a0_1, a0_2, a0_3, a0_4, a0_5, a0_6, a0_7], 0) := hPT1.out
    rw [e9]
    clear e9
    unfold dopV
    dsimp only
    simp only [List.getD_cons_zero, List.getD_cons_succ]
    have nw := alloc_new V3 (.cells #[.int .i64 a0_0, .int .i64 a0_1, .int .i64 a0_2, .int .i64 a0_3, .int .i64 a0_4, .int .i64 a0_5, .int .i64 a0_6, .int .i64 a0_7] 23)
    have hA := nw.2.1
    have rk7 := nw.2.2
    clear nw
    go_upto_region 6 with (fail)
    obtain ⟨V4, hV4⟩ : ∃ X, V3.alloc (.cells #[.int .i64 a0_0, .int .i64 a0_1, .int .i64 a0_2, .int .i64 a0_3, .int .i64 a0_4, .int .i64 a0_5, .int .i64 a0_6, .int .i64 a0_7] 23) = X := ⟨_, rfl⟩
    rw [hV4] at hA rk7 ⊢
    obtain ⟨qk7, hqk7⟩ : ∃ X, V3.heap.size = X := ⟨_, rfl⟩
    rw [hqk7] at rk7 ⊢
    replace hV4 := hid hV4
    replace hqk7 := hid hqk7
    replace hO1 := hid (hO1.out.below hA)
    replace rm := hid (held_after hA rm.out)
    replace hB := hid (bthen hB.out hA)
    clear hA
    replace rk7 := hid rk7
    go_wp2_with fail
    refine (num18_any 0 _ (by omega) (by omega)).mono ?_
    rintro e V ⟨rfl, rfl⟩
    have z0 := held_cell rk7.out 0 _ rfl
    have z1 := held_cell rk7.out 1 _ rfl
    have z2 := held_cell rk7.out 2 _ rfl
    have z3 := held_cell rk7.out 3 _ rfl
    have z4 := held_cell rk7.out 4 _ rfl
    have z5 := held_cell rk7.out 5 _ rfl
    have z6 := held_cell rk7.out 6 _ rfl
    have z7 := held_cell rk7.out 7 _ rfl
    have y0 := held_cell rm.out 0 _ rfl
    have y1 := held_cell rm.out 1 _ rfl
    have y2 := held_cell rm.out 2 _ rfl
    have y3 := held_cell rm.out 3 _ rfl
    have y4 := held_cell rm.out 4 _ rfl
    have y5 := held_cell rm.out 5 _ rfl
    have y6 := held_cell rm.out 6 _ rfl
    have y7 := held_cell rm.out 7 _ rfl
    go_wp2_with fail
    clear z0 z1 z2 z3 z4 z5 z6 z7 y0 y1 y2 y3 y4 y5 y6 y7
    refine (takeD_any a1 len1 cap1 bs _ (hs1.out.below hB.out) hw1.out (by omega)).mono ?_
    rintro e V5 ⟨rfl, hA⟩
    replace hO1 := hid (hO1.out.below hA)
    replace rm := hid (held_after hA rm.out)
    replace rk7 := hid (held_after hA rk7.out)
    replace hB := hid (bthen hB.out hA)
    clear hA
    rw [hq.out]
    unfold dopV
    dsimp only
    rw [hm0.out, hm1.out, hm2.out, hm3.out, hm4.out, hm5.out, hm6.out, hm7.out]
    have nw := alloc_new V5 (.cells #[.int .i64 m0, .int .i64 m1, .int .i64 m2, .int .i64 m3, .int .i64 m4, .int .i64 m5, .int .i64 m6, .int .i64 m7] 23)
    have hA := nw.2.1
    have rk9 := nw.2.2
    clear nw
    go_upto_region 9 with (fail)
    obtain ⟨V6, hV6⟩ : ∃ X, V5.alloc (.cells #[.int .i64 m0, .int .i64 m1, .int .i64 m2, .int .i64 m3, .int .i64 m4, .int .i64 m5, .int .i64 m6, .int .i64 m7] 23) = X := ⟨_, rfl⟩
    rw [hV6] at hA rk9 ⊢
    obtain ⟨qk9, hqk9⟩ : ∃ X, V5.heap.size = X := ⟨_, rfl⟩
    rw [hqk9] at rk9 ⊢
    replace hV6 := hid hV6
    replace hqk9 := hid hqk9
    replace hO1 := hid (hO1.out.below hA)
    replace rm := hid (held_after hA rm.out)
    replace rk7 := hid (held_after hA rk7.out)
    replace hB := hid (bthen hB.out hA)
    clear hA
    replace rk9 := hid rk9
    go_wp2_with fail
    refine (num18_any ge _ (by omega) (by omega)).mono ?_
    rintro e V ⟨rfl, rfl⟩
    by_cases hge : ge = 0
    case neg =>
      obtain rfl : P = [] := hP0.out hge
      obtain rfl : (0 : Int) = m0 := hm0.out
      obtain rfl : (0 : Int) = m1 := hm1.out
      obtain rfl : (0 : Int) = m2 := hm2.out
      obtain rfl : (0 : Int) = m3 := hm3.out
      obtain rfl : (0 : Int) = m4 := hm4.out
      obtain rfl : (0 : Int) = m5 := hm5.out
      obtain rfl : (0 : Int) = m6 := hm6.out
      obtain rfl : (0 : Int) = m7 := hm7.out
      have hne : (ge != 0) = true := by simp [hge]
      replace hge := hid hge
      have z0 := held_cell rk9.out 0 _ rfl
      have z1 := held_cell rk9.out 1 _ rfl
      have z2 := held_cell rk9.out 2 _ rfl
      have z3 := held_cell rk9.out 3 _ rfl
      have z4 := held_cell rk9.out 4 _ rfl
      have z5 := held_cell rk9.out 5 _ rfl
      have z6 := held_cell rk9.out 6 _ rfl
      have z7 := held_cell rk9.out 7 _ rfl
      go_wp2_with fail
      refine (num18_any 0 _ (by omega) (by omega)).mono ?_
      rintro e V ⟨rfl, rfl⟩
      go_wp2_with fail
      go_ret
      exact ⟨rfl, hB.out⟩
    subst hge
    have hPl : P.length = 8 := by rw [hP8.out rfl]; simp [DL, DLk]
    obtain ⟨x0, x1, x2, x3, x4, x5, x6, x7, rfl⟩ := list8 hPl
    obtain rfl : x0 = m0 := hm0.out
    obtain rfl : x1 = m1 := hm1.out
    obtain rfl : x2 = m2 := hm2.out
    obtain rfl : x3 = m3 := hm3.out
    obtain rfl : x4 = m4 := hm4.out
    obtain rfl : x5 = m5 := hm5.out
    obtain rfl : x6 = m6 := hm6.out
    obtain rfl : x7 = m7 := hm7.out
    have hTP := hid (take_put hq.out hb2.out).1
    clear hP0 hP8 hPl hm0 hm1 hm2 hm3 hm4 hm5 hm6 hm7
    have z0 := held_cell rk9.out 0 _ rfl
    have z1 := held_cell rk9.out 1 _ rfl
    have z2 := held_cell rk9.out 2 _ rfl
    have z3 := held_cell rk9.out 3 _ rfl
    have z4 := held_cell rk9.out 4 _ rfl
    have z5 := held_cell rk9.out 5 _ rfl
    have z6 := held_cell rk9.out 6 _ rfl
    have z7 := held_cell rk9.out 7 _ rfl
    go_wp2_with fail
    clear z0 z1 z2 z3 z4 z5 z6 z7
    refine (putD_any x0 x1 x2 x3 x4 x5 x6 x7 hPb.out _).mono ?_
    rintro e V7 ⟨r5a, r5c, rfl, hO5, hA⟩
    replace hO1 := hid (hO1.out.below hA)
    replace rm := hid (held_after hA rm.out)
    replace rk7 := hid (held_after hA rk7.out)
    replace rk9 := hid (held_after hA rk9.out)
    replace hB := hid (bthen hB.out hA)
    clear hA
    have e9 : putL DL [x0, x1, x2, x3, x4, x5, x6, x7] = (bs, 0) := hTP.out
    rw [e9] at hO5 ⊢
    clear e9
    replace hO5 := hid hO5
    go_wp2_with fail
    have c1 := txt18 hO5.out.slf
    have c2 := txt18 (hs1.out.below hB.out)
    try dsimp only at c1
    generalize textOf bs = TX at *
    refine (num18_any 0 _ (by omega) (by omega)).mono ?_
    rintro e V ⟨rfl, rfl⟩
    go_wp2_with fail
    go_ret
    exact ⟨rfl, hB.out⟩
  · have hne : (ee == 0) = false := by simp [hee]
    obtain rfl : L = [] := hL0.out hee
    replace hee := hid hee
    go_wp2_with fail
    refine (takeD_any a1 len1 cap1 bs _ (hs1.out.below hB.out) hw1.out (by omega)).mono ?_
    rintro e V3 ⟨rfl, hA⟩
    replace hO1 := hid (hO1.out.below hA)
    replace rm := hid (held_after hA rm.out)
    replace hB := hid (bthen hB.out hA)
    clear hA
    rw [hq.out]
    unfold dopV
    dsimp only
    rw [hm0.out, hm1.out, hm2.out, hm3.out, hm4.out, hm5.out, hm6.out, hm7.out]
    have nw := alloc_new V3 (.cells #[.int .i64 m0, .int .i64 m1, .int .i64 m2, .int .i64 m3, .int .i64 m4, .int .i64 m5, .int .i64 m6, .int .i64 m7] 23)
    have hA := nw.2.1
    have rk9 := nw.2.2
    clear nw
    go_upto_region 9 with (fail)
    obtain ⟨V4, hV4⟩ : ∃ X, V3.alloc (.cells #[.int .i64 m0, .int .i64 m1, .int .i64 m2, .int .i64 m3, .int .i64 m4, .int .i64 m5, .int .i64 m6, .int .i64 m7] 23) = X := ⟨_, rfl⟩
    rw [hV4] at hA rk9 ⊢
    obtain ⟨qk9, hqk9⟩ : ∃ X, V3.heap.size = X := ⟨_, rfl⟩
    rw [hqk9] at rk9 ⊢
    replace hV4 := hid hV4
    replace hqk9 := hid hqk9
    replace hO1 := hid (hO1.out.below hA)
    replace rm := hid (held_after hA rm.out)
    replace hB := hid (bthen hB.out hA)
    clear hA
    replace rk9 := hid rk9
    go_wp2_with fail
    refine (num18_any ge _ (by omega) (by omega)).mono ?_
    rintro e V ⟨rfl, rfl⟩
    by_cases hge : ge = 0
    case neg =>
      obtain rfl : P = [] := hP0.out hge
      obtain rfl : (0 : Int) = m0 := hm0.out
      obtain rfl : (0 : Int) = m1 := hm1.out
      obtain rfl : (0 : Int) = m2 := hm2.out
      obtain rfl : (0 : Int) = m3 := hm3.out
      obtain rfl : (0 : Int) = m4 := hm4.out
      obtain rfl : (0 : Int) = m5 := hm5.out
      obtain rfl : (0 : Int) = m6 := hm6.out
      obtain rfl : (0 : Int) = m7 := hm7.out
      have hne : (ge != 0) = true := by simp [hge]
      replace hge := hid hge
      have z0 := held_cell rk9.out 0 _ rfl
      have z1 := held_cell rk9.out 1 _ rfl
      have z2 := held_cell rk9.out 2 _ rfl
      have z3 := held_cell rk9.out 3 _ rfl
      have z4 := held_cell rk9.out 4 _ rfl
      have z5 := held_cell rk9.out 5 _ rfl
      have z6 := held_cell rk9.out 6 _ rfl
      have z7 := held_cell rk9.out 7 _ rfl
      go_wp2_with fail
      refine (num18_any ee _ (by omega) (by omega)).mono ?_
      rintro e V ⟨rfl, rfl⟩
      go_wp2_with fail
      go_ret
      exact ⟨rfl, hB.out⟩
    subst hge
    have hPl : P.length = 8 := by rw [hP8.out rfl]; simp [DL, DLk]
    obtain ⟨x0, x1, x2, x3, x4, x5, x6, x7, rfl⟩ := list8 hPl
    obtain rfl : x0 = m0 := hm0.out
    obtain rfl : x1 = m1 := hm1.out
    obtain rfl : x2 = m2 := hm2.out
    obtain rfl : x3 = m3 := hm3.out
    obtain rfl : x4 = m4 := hm4.out
    obtain rfl : x5 = m5 := hm5.out
    obtain rfl : x6 = m6 := hm6.out
    obtain rfl : x7 = m7 := hm7.out
    have hTP := hid (take_put hq.out hb2.out).1
    clear hP0 hP8 hPl hm0 hm1 hm2 hm3 hm4 hm5 hm6 hm7
    have z0 := held_cell rk9.out 0 _ rfl
    have z1 := held_cell rk9.out 1 _ rfl
    have z2 := held_cell rk9.out 2 _ rfl
    have z3 := held_cell rk9.out 3 _ rfl
    have z4 := held_cell rk9.out 4 _ rfl
    have z5 := held_cell rk9.out 5 _ rfl
    have z6 := held_cell rk9.out 6 _ rfl
    have z7 := held_cell rk9.out 7 _ rfl
    go_wp2_with fail
    clear z0 z1 z2 z3 z4 z5 z6 z7
    refine (putD_any x0 x1 x2 x3 x4 x5 x6 x7 hPb.out _).mono ?_
    rintro e V5 ⟨r5a, r5c, rfl, hO5, hA⟩
    replace hO1 := hid (hO1.out.below hA)
    replace rm := hid (held_after hA rm.out)
    replace rk9 := hid (held_after hA rk9.out)
    replace hB := hid (bthen hB.out hA)
    clear hA
    have e9 : putL DL [x0, x1, x2, x3, x4, x5, x6, x7] = (bs, 0) := hTP.out
    rw [e9] at hO5 ⊢
    clear e9
    replace hO5 := hid hO5
    go_wp2_with fail
    have c1 := txt18 hO5.out.slf
    have c2 := txt18 (hs1.out.below hB.out)
    try dsimp only at c1
    generalize textOf bs = TX at *
    refine (num18_any 0 _ (by omega) (by omega)).mono ?_
    rintro e V ⟨rfl, rfl⟩
    go_wp2_with fail
    go_ret
    exact ⟨rfl, hB.out⟩

end Go.Proofs.Ytalmkeehocakeaa
