/- A law of layer 19: AckTells. -/
import Derived.Test.YthcaljelmchkcaaAck2
import Derived.Test.YthcaljelmchkcaaLaw19
import Derived.Deep.DeepCutAuto
namespace Go.Proofs.Ythcaljelmchkcaa
open Go.ChangeShapes Go.WideShapes Go.ChangeAt Go.RowKit
set_option linter.unusedVariables false
set_option linter.unusedSimpArgs false

theorem txt19 {w : World} {a : Option Addr} {len cap : Nat} {zs : List Int} (h : Sl .u8 w a len cap zs) : (convert 24 9 (.slice a len cap)).run Try.prog w = .ok (.string (textOf zs)) w :=
  h.text 24 9 5 Try.underlying24 Try.underlying5 Try.underlying9
theorem num19_any (n : Int) (w : World) (h1 : -9223372036854775808 ≤ n) (h2 : n ≤ 9223372036854775807) :
    Calls Try.prog 12 #[.int .i64 n] w fun e w' => e = .returned (.int .i64 n) ∧ w' = w := by
  go_enter Try.func12, Try.ntmps12
  go_wp2_with fail
  go_ret
  exact ⟨rfl, rfl⟩
set_option maxRecDepth 100000 in
set_option maxHeartbeats 8000000 in
theorem law_AckTells (a0_0 : Bool) (a0_1 a0_2 : Int) (a1 : Option Addr) (len1 cap1 : Nat) (z1 : List Int) (W : World) (w0_1 : (Lit.int .i64 a0_1).wf = true) (w0_2 : (Lit.int .i64 a0_2).wf = true) (w1 : IsRow .u8 W a1 len1 cap1 z1) :
    Calls Try.prog 3 #[.agg #[.bool a0_0, .int .i64 a0_1, .int .i64 a0_2], .slice a1 len1 cap1] W fun e w' => e = .returned (.bool true) ∧ Below W.heap.size W w' := by
  have hb : ∀ x ∈ [a0_1, a0_2], -9223372036854775808 ≤ x ∧ x ≤ 9223372036854775807 := by
    intro x hx
    simp at hx
    rcases hx with rfl | rfl
    · exact bounds_i64 w0_1
    · exact bounds_i64 w0_2
  clear w0_1 w0_2
  obtain ⟨hs1, hw1⟩ := w1.sl
  generalize z1.take len1 = bs at hs1 hw1
  clear w1
  replace hs1 := hid hs1
  replace hw1 := hid hw1
  by_cases cb : (50 : Int) < len1
  case pos =>
    clear hb
    go_enter Try.func3, Try.ntmps3
    go_wp2_with fail
    refine (knows19_any _).mono ?_
    rintro e V ⟨rfl, hst⟩
    replace hst := hid hst
    go_wp2_with fail
    go_ret
    exact ⟨rfl, bthen (alloc_new _ _).2.1 hst.out⟩
  obtain ⟨⟨L, ee⟩, hr⟩ : ∃ r, putL AL [a0_1, a0_2] = r := ⟨_, rfl⟩
  obtain ⟨⟨P, ge⟩, hq⟩ : ∃ r, takL AL bs = r := ⟨_, rfl⟩
  have pe := putF_e (fN AL) (fS AL) (fL AL) (fH AL) AL.length [a0_1, a0_2]
  have te := takF_e (fN AL) (fS AL) (fL AL) (fH AL) AL.length bs
  change 0 ≤ (putL AL [a0_1, a0_2]).2 ∧ (putL AL [a0_1, a0_2]).2 ≤ 9 at pe
  change 0 ≤ (takL AL bs).2 ∧ (takL AL bs).2 ≤ 9 at te
  rw [hr] at pe
  rw [hq] at te
  dsimp only at pe te
  have hLb := put_len hr (by decide)
  have hLl := hLb.1
  have hLw := hid (fun x hx => byte_wf (hLb.2 x hx).1 (hLb.2 x hx).2)
  have hPT := hid (fun h : ee = 0 => (put_take (h ▸ hr)).1)
  clear hLb
  replace hr := hid hr
  replace hq := hid hq
  replace hb := hid hb
  obtain ⟨m0, hm0⟩ : ∃ m, (!P.isEmpty && a0_0) = m := ⟨_, rfl⟩
  obtain ⟨m1, hm1⟩ : ∃ m, P.getD 0 0 = m := ⟨_, rfl⟩
  obtain ⟨m2, hm2⟩ : ∃ m, P.getD 1 0 = m := ⟨_, rfl⟩
  replace hm0 := hid hm0
  replace hm1 := hid hm1
  replace hm2 := hid hm2
  have nw := alloc_new W (.cells #[.bool a0_0, .int .i64 a0_1, .int .i64 a0_2] 23)
  have hB := hid nw.2.1
  have rm := hid nw.2.2
  clear nw
  go_enter Try.func3, Try.ntmps3
  go_upto_region 1 with (fail)
  obtain ⟨V0, hV0⟩ : ∃ X, W.alloc (.cells #[.bool a0_0, .int .i64 a0_1, .int .i64 a0_2] 23) = X := ⟨_, rfl⟩
  rw [hV0] at hB rm ⊢
  clear hV0
  go_wp2_with fail
  refine (knows19_any _).mono ?_
  rintro e V1 ⟨rfl, hA⟩
  replace rm := hid (held_after hA rm.out)
  replace hB := hid (bthen hB.out hA)
  clear hA
  have z0 := held_cell rm.out 0 _ rfl
  have z1 := held_cell rm.out 1 _ rfl
  have z2 := held_cell rm.out 2 _ rfl
  go_wp2_with fail
  clear z0 z1 z2
  refine (putA_any a0_0 a0_1 a0_2 hb.out _).mono ?_
  rintro e V2 ⟨r1a, r1c, rfl, hO1, hA⟩
  replace rm := hid (held_after hA rm.out)
  replace hB := hid (bthen hB.out hA)
  clear hA
  rw [hr.out] at hO1 ⊢
  replace hO1 := hid hO1
  have z0 := held_cell rm.out 0 _ rfl
  have z1 := held_cell rm.out 1 _ rfl
  have z2 := held_cell rm.out 2 _ rfl
  go_wp2_with fail
  clear z0 z1 z2
  refine (rputA_any a0_0 a0_1 a0_2 hb.out _).mono ?_
  rintro e V3 ⟨r2a, r2c, rfl, hO2, hA⟩
  replace hO1 := hid (hO1.out.below hA)
  replace rm := hid (held_after hA rm.out)
  replace hB := hid (bthen hB.out hA)
  clear hA
  rw [hr.out] at hO2 ⊢
  replace hO2 := hid hO2
  have z0 := held_cell rm.out 0 _ rfl
  have z1 := held_cell rm.out 1 _ rfl
  have z2 := held_cell rm.out 2 _ rfl
  go_wp2_with fail
  clear z0 z1 z2
  refine (takeA_any a1 len1 cap1 a0_0 bs _ (hs1.out.below hB.out) hw1.out (by omega)).mono ?_
  rintro e V4 ⟨rfl, hA⟩
  replace hO1 := hid (hO1.out.below hA)
  replace hO2 := hid (hO2.out.below hA)
  replace rm := hid (held_after hA rm.out)
  replace hB := hid (bthen hB.out hA)
  clear hA
  rw [hq.out]
  unfold ackV
  dsimp only
  rw [hm0.out, hm1.out, hm2.out]
  have nw := alloc_new V4 (.cells #[.bool m0, .int .i64 m1, .int .i64 m2] 23)
  have hA := nw.2.1
  have rk3 := nw.2.2
  clear nw
  go_upto_region 6 with (fail)
  obtain ⟨V5, hV5⟩ : ∃ X, V4.alloc (.cells #[.bool m0, .int .i64 m1, .int .i64 m2] 23) = X := ⟨_, rfl⟩
  rw [hV5] at hA rk3 ⊢
  obtain ⟨qk3, hqk3⟩ : ∃ X, V4.heap.size = X := ⟨_, rfl⟩
  rw [hqk3] at rk3 ⊢
  replace hV5 := hid hV5
  replace hqk3 := hid hqk3
  replace hO1 := hid (hO1.out.below hA)
  replace hO2 := hid (hO2.out.below hA)
  replace rm := hid (held_after hA rm.out)
  replace hB := hid (bthen hB.out hA)
  clear hA
  replace rk3 := hid rk3
  have z0 := held_cell rm.out 0 _ rfl
  have z1 := held_cell rm.out 1 _ rfl
  have z2 := held_cell rm.out 2 _ rfl
  go_wp2_with fail
  clear z0 z1 z2
  refine (rtakeA_any a1 len1 cap1 a0_0 bs _ (hs1.out.below hB.out) hw1.out (by omega)).mono ?_
  rintro e V6 ⟨rfl, hA⟩
  replace hO1 := hid (hO1.out.below hA)
  replace hO2 := hid (hO2.out.below hA)
  replace rm := hid (held_after hA rm.out)
  replace rk3 := hid (held_after hA rk3.out)
  replace hB := hid (bthen hB.out hA)
  clear hA
  rw [hq.out]
  unfold ackV
  dsimp only
  rw [hm0.out, hm1.out, hm2.out]
  have nw := alloc_new V6 (.cells #[.bool m0, .int .i64 m1, .int .i64 m2] 23)
  have hA := nw.2.1
  have rk4 := nw.2.2
  clear nw
  go_upto_region 7 with (fail)
  obtain ⟨V7, hV7⟩ : ∃ X, V6.alloc (.cells #[.bool m0, .int .i64 m1, .int .i64 m2] 23) = X := ⟨_, rfl⟩
  rw [hV7] at hA rk4 ⊢
  obtain ⟨qk4, hqk4⟩ : ∃ X, V6.heap.size = X := ⟨_, rfl⟩
  rw [hqk4] at rk4 ⊢
  replace hV7 := hid hV7
  replace hqk4 := hid hqk4
  replace hO1 := hid (hO1.out.below hA)
  replace hO2 := hid (hO2.out.below hA)
  replace rm := hid (held_after hA rm.out)
  replace rk3 := hid (held_after hA rk3.out)
  replace hB := hid (bthen hB.out hA)
  clear hA
  replace rk4 := hid rk4
  go_wp2_with fail
  refine (num19_any ee _ (by omega) (by omega)).mono ?_
  rintro e V ⟨rfl, rfl⟩
  by_cases hee : ee = 0
  · have e9 := hid (hPT.out hee)
    have ze : (ee == 0) = true := by simp [hee]
    replace hee := hid hee
    have y0 := held_cell rm.out 0 _ rfl
    go_wp2_with fail
    clear y0
    refine (takeA_any r1a L.length r1c a0_0 L _ hO1.out.slf hLw.out (by omega)).mono ?_
    rintro e V8 ⟨rfl, hA⟩
    replace hO1 := hid (hO1.out.below hA)
    replace hO2 := hid (hO2.out.below hA)
    replace rm := hid (held_after hA rm.out)
    replace rk3 := hid (held_after hA rk3.out)
    replace rk4 := hid (held_after hA rk4.out)
    replace hB := hid (bthen hB.out hA)
    clear hA
    have e8 : takL AL L = ([a0_1, a0_2], 0) := e9.out
    rw [e8]
    clear e8
    unfold ackV
    dsimp only
    simp only [List.isEmpty_cons, Bool.not_false, Bool.true_and, List.getD_cons_zero, List.getD_cons_succ]
    have nw := alloc_new V8 (.cells #[.bool a0_0, .int .i64 a0_1, .int .i64 a0_2] 23)
    have hA := nw.2.1
    have rk7 := nw.2.2
    clear nw
    go_upto_region 9 with (fail)
    obtain ⟨V9, hV9⟩ : ∃ X, V8.alloc (.cells #[.bool a0_0, .int .i64 a0_1, .int .i64 a0_2] 23) = X := ⟨_, rfl⟩
    rw [hV9] at hA rk7 ⊢
    obtain ⟨qk7, hqk7⟩ : ∃ X, V8.heap.size = X := ⟨_, rfl⟩
    rw [hqk7] at rk7 ⊢
    replace hV9 := hid hV9
    replace hqk7 := hid hqk7
    replace hO1 := hid (hO1.out.below hA)
    replace hO2 := hid (hO2.out.below hA)
    replace rm := hid (held_after hA rm.out)
    replace rk3 := hid (held_after hA rk3.out)
    replace rk4 := hid (held_after hA rk4.out)
    replace hB := hid (bthen hB.out hA)
    clear hA
    replace rk7 := hid rk7
    have z0 := held_cell rk7.out 0 _ rfl
    have z1 := held_cell rk7.out 1 _ rfl
    have z2 := held_cell rk7.out 2 _ rfl
    have y0 := held_cell rm.out 0 _ rfl
    have y1 := held_cell rm.out 1 _ rfl
    have y2 := held_cell rm.out 2 _ rfl
    go_wp2_with fail
    refine (num19_any 0 _ (by omega) (by omega)).mono ?_
    rintro e V ⟨rfl, rfl⟩
    clear z0 y0 z1 y1 z2 y2
    have c1 := txt19 hO1.out.slf
    have c2 := txt19 hO2.out.slf
    try dsimp only at c1 c2
    generalize textOf L = TX at *
    have z0 := held_cell rk3.out 0 _ rfl
    have z1 := held_cell rk3.out 1 _ rfl
    have z2 := held_cell rk3.out 2 _ rfl
    have y0 := held_cell rk4.out 0 _ rfl
    have y1 := held_cell rk4.out 1 _ rfl
    have y2 := held_cell rk4.out 2 _ rfl
    go_wp2_with fail
    refine (num19_any ee _ (by omega) (by omega)).mono ?_
    rintro e V ⟨rfl, rfl⟩
    go_wp2_with fail
    refine (num19_any ee _ (by omega) (by omega)).mono ?_
    rintro e V ⟨rfl, rfl⟩
    go_wp2_with fail
    refine (num19_any ge _ (by omega) (by omega)).mono ?_
    rintro e V ⟨rfl, rfl⟩
    go_wp2_with fail
    refine (num19_any ge _ (by omega) (by omega)).mono ?_
    rintro e V ⟨rfl, rfl⟩
    go_wp2_with fail
    go_ret
    exact ⟨ret_bool (by simp), hB.out⟩
  · have ze : (ee == 0) = false := by simp [hee]
    replace hee := hid hee
    have c1 := txt19 hO1.out.slf
    have c2 := txt19 hO2.out.slf
    try dsimp only at c1 c2
    generalize textOf L = TX at *
    have z0 := held_cell rk3.out 0 _ rfl
    have z1 := held_cell rk3.out 1 _ rfl
    have z2 := held_cell rk3.out 2 _ rfl
    have y0 := held_cell rk4.out 0 _ rfl
    have y1 := held_cell rk4.out 1 _ rfl
    have y2 := held_cell rk4.out 2 _ rfl
    go_wp2_with fail
    refine (num19_any ee _ (by omega) (by omega)).mono ?_
    rintro e V ⟨rfl, rfl⟩
    go_wp2_with fail
    refine (num19_any ee _ (by omega) (by omega)).mono ?_
    rintro e V ⟨rfl, rfl⟩
    go_wp2_with fail
    refine (num19_any ge _ (by omega) (by omega)).mono ?_
    rintro e V ⟨rfl, rfl⟩
    go_wp2_with fail
    refine (num19_any ge _ (by omega) (by omega)).mono ?_
    rintro e V ⟨rfl, rfl⟩
    go_wp2_with fail
    go_ret
    exact ⟨ret_bool (by simp), hB.out⟩

end Go.Proofs.Ythcaljelmchkcaa
