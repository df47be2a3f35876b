/- The laws of layer 34: RecTakes. -/
import Derived.Test.YtnoifpdjfpbmjaaLaw34
import Derived.Test.YtnoifpdjfpbmjaaRecM
import Derived.Laws.StructEq
import Derived.Deep.DeepCutAuto
namespace Go.Proofs.Ytnoifpdjfpbmjaa
open Go.ChangeShapes Go.WideShapes Go.ChangeAt Go.RowKit
set_option linter.unusedVariables false
set_option linter.unusedSimpArgs false

set_option maxRecDepth 100000 in
set_option maxHeartbeats 8000000 in
theorem law_RecTakes (a0_0 : Int) (a0_1 : Int) (a0_2 : Int) (a0_3 : Int) (a0_4 : Int) (a0_5 : Int) (a0_6 : Int) (a0_7 : Int) (a0_8 : Int) (a0_9 : Int) (a0_10 : Int) (a0_11 : Int) (a0_12 : Int) (a1 : Option Addr) (len1 cap1 : Nat) (z1 : List Int) (W : World) (w0_0 : (Lit.int .u32 a0_0).wf = true) (w0_1 : (Lit.int .i32 a0_1).wf = true) (w0_2 : (Lit.int .i32 a0_2).wf = true) (w0_3 : (Lit.int .i32 a0_3).wf = true) (w0_4 : (Lit.int .i32 a0_4).wf = true) (w0_5 : (Lit.int .i32 a0_5).wf = true) (w0_6 : (Lit.int .i32 a0_6).wf = true) (w0_7 : (Lit.int .i32 a0_7).wf = true) (w0_8 : (Lit.int .i32 a0_8).wf = true) (w0_9 : (Lit.int .i32 a0_9).wf = true) (w0_10 : (Lit.int .i32 a0_10).wf = true) (w0_11 : (Lit.int .i32 a0_11).wf = true) (w0_12 : (Lit.int .i32 a0_12).wf = true) (w1 : IsRow .u8 W a1 len1 cap1 z1) :
    Calls Try.prog 4 #[.agg #[.int .u32 a0_0, .int .i32 a0_1, .int .i32 a0_2, .int .i32 a0_3, .int .i32 a0_4, .int .i32 a0_5, .int .i32 a0_6, .int .i32 a0_7, .int .i32 a0_8, .int .i32 a0_9, .int .i32 a0_10, .int .i32 a0_11, .int .i32 a0_12], .slice a1 len1 cap1] W fun e w' => e = .returned (.bool true) ∧ Below W.heap.size W w' := by
  have t0 := u32_bd w0_0
  have v0 := hid (show ∀ x ∈ [a0_1, a0_2, a0_3, a0_4, a0_5, a0_6, a0_7, a0_8, a0_9, a0_10, a0_11, a0_12], -2147483648 ≤ x ∧ x ≤ 2147483647 from by intro x hx; simp only [List.mem_cons, List.not_mem_nil, or_false] at hx; rcases hx with rfl | rfl | rfl | rfl | rfl | rfl | rfl | rfl | rfl | rfl | rfl | rfl <;> first | exact i32_bd w0_1 | exact i32_bd w0_2 | exact i32_bd w0_3 | exact i32_bd w0_4 | exact i32_bd w0_5 | exact i32_bd w0_6 | exact i32_bd w0_7 | exact i32_bd w0_8 | exact i32_bd w0_9 | exact i32_bd w0_10 | exact i32_bd w0_11 | exact i32_bd w0_12)
  clear w0_0 w0_1 w0_2 w0_3 w0_4 w0_5 w0_6 w0_7 w0_8 w0_9 w0_10 w0_11 w0_12
  obtain ⟨hs1, hw1⟩ := w1.sl
  generalize z1.take len1 = bs at hs1 hw1
  clear w1
  have hb2 := hid (bytes_bd hw1)
  have hbl := hid hs1.1
  replace hs1 := hid hs1
  replace hw1 := hid hw1
  have nw := alloc_new W (.cells #[.int .u32 a0_0, .int .i32 a0_1, .int .i32 a0_2, .int .i32 a0_3, .int .i32 a0_4, .int .i32 a0_5, .int .i32 a0_6, .int .i32 a0_7, .int .i32 a0_8, .int .i32 a0_9, .int .i32 a0_10, .int .i32 a0_11, .int .i32 a0_12] 25)
  have hB := hid nw.2.1
  have rm := hid nw.2.2
  clear nw
  obtain ⟨V0, hV0⟩ : ∃ X, W.alloc (.cells #[.int .u32 a0_0, .int .i32 a0_1, .int .i32 a0_2, .int .i32 a0_3, .int .i32 a0_4, .int .i32 a0_5, .int .i32 a0_6, .int .i32 a0_7, .int .i32 a0_8, .int .i32 a0_9, .int .i32 a0_10, .int .i32 a0_11, .int .i32 a0_12] 25) = X := ⟨_, rfl⟩
  rw [hV0] at hB rm
  by_cases cb : (500 : Int) < len1
  case pos =>
    go_enter Try.func4, Try.ntmps4
    go_wp2_with fail
    refine (knows34_any _).mono ?_
    rintro e V ⟨rfl, hst⟩
    replace hst := hid (bthen hB.out hst)
    go_wp2_with fail
    go_ret
    exact ⟨rfl, hst.out⟩
  have hxl := takK_len bs
  have hxe := takK_e bs
  have hyl := takD_len a0_0 (a := [a0_1, a0_2, a0_3, a0_4, a0_5, a0_6, a0_7, a0_8, a0_9, a0_10, a0_11, a0_12]) rfl bs
  have hye := takD_e a0_0 [a0_1, a0_2, a0_3, a0_4, a0_5, a0_6, a0_7, a0_8, a0_9, a0_10, a0_11, a0_12] hw1.out
  have kK := fun U h => takeKey_any a1 len1 cap1 bs U h hw1.out (by omega)
  have kR := fun U h => rtakeKey_any a1 len1 cap1 bs U h hw1.out (by omega)
  have kD := fun U h => takeDelta_any a0_0 a0_1 a0_2 a0_3 a0_4 a0_5 a0_6 a0_7 a0_8 a0_9 a0_10 a0_11 a0_12 a1 len1 cap1 bs U h hw1.out (by omega) t0 v0.out
  have kS := fun U h => rtakeDelta_any a0_0 a0_1 a0_2 a0_3 a0_4 a0_5 a0_6 a0_7 a0_8 a0_9 a0_10 a0_11 a0_12 a1 len1 cap1 bs U h hw1.out (by omega) t0 v0.out
  obtain ⟨⟨⟨Tx, lx⟩, nx, ex⟩, qx⟩ : ∃ r, takK bs = r := ⟨_, rfl⟩
  rw [qx] at hxl hxe kK kR
  dsimp only at hxl hxe kK kR
  obtain ⟨x0, x1, x2, x3, x4, x5, x6, x7, x8, x9, x10, x11, rfl⟩ := list12 hxl
  rw [show recA Tx [x0, x1, x2, x3, x4, x5, x6, x7, x8, x9, x10, x11] = .agg #[.int .u32 Tx, .int .i32 x0, .int .i32 x1, .int .i32 x2, .int .i32 x3, .int .i32 x4, .int .i32 x5, .int .i32 x6, .int .i32 x7, .int .i32 x8, .int .i32 x9, .int .i32 x10, .int .i32 x11] from rfl] at kK kR
  clear hxl
  replace kK := hid kK
  replace kR := hid kR
  replace qx := hid qx
  obtain ⟨⟨⟨Ty, ly⟩, ny, ey⟩, qy⟩ : ∃ r, takD a0_0 [a0_1, a0_2, a0_3, a0_4, a0_5, a0_6, a0_7, a0_8, a0_9, a0_10, a0_11, a0_12] bs = r := ⟨_, rfl⟩
  rw [qy] at hyl hye kD kS
  dsimp only at hyl hye kD kS
  obtain ⟨y0, y1, y2, y3, y4, y5, y6, y7, y8, y9, y10, y11, rfl⟩ := list12 hyl
  rw [show recA Ty [y0, y1, y2, y3, y4, y5, y6, y7, y8, y9, y10, y11] = .agg #[.int .u32 Ty, .int .i32 y0, .int .i32 y1, .int .i32 y2, .int .i32 y3, .int .i32 y4, .int .i32 y5, .int .i32 y6, .int .i32 y7, .int .i32 y8, .int .i32 y9, .int .i32 y10, .int .i32 y11] from rfl] at kD kS
  clear hyl
  replace kD := hid kD
  replace kS := hid kS
  replace qy := hid qy
  have hbb := hid (fun (U : World) (h : Below W.heap.size W U) => hs1.out.below h)
  go_enter Try.func4, Try.ntmps4
  go_wp2_with fail
  clear hV0
  refine (knows34_any _).mono ?_
  rintro e V1 ⟨rfl, hA⟩
  replace rm := hid (held_after hA rm.out)
  replace hB := hid (bthen hB.out hA)
  clear hA
  go_wp2_with fail
  refine (kK.out _ (hbb.out _ hB.out)).mono ?_
  rintro e V2 ⟨rfl, hA⟩
  replace rm := hid (held_after hA rm.out)
  replace hB := hid (bthen hB.out hA)
  clear hA
  have nw := alloc_new V2 (.cells #[.int .u32 Tx, .int .i32 x0, .int .i32 x1, .int .i32 x2, .int .i32 x3, .int .i32 x4, .int .i32 x5, .int .i32 x6, .int .i32 x7, .int .i32 x8, .int .i32 x9, .int .i32 x10, .int .i32 x11] 25)
  have hA := nw.2.1
  have rk1 := nw.2.2
  clear nw
  go_upto_region 4 with (fail)
  obtain ⟨V3, hV3⟩ : ∃ X, V2.alloc (.cells #[.int .u32 Tx, .int .i32 x0, .int .i32 x1, .int .i32 x2, .int .i32 x3, .int .i32 x4, .int .i32 x5, .int .i32 x6, .int .i32 x7, .int .i32 x8, .int .i32 x9, .int .i32 x10, .int .i32 x11] 25) = X := ⟨_, rfl⟩
  rw [hV3] at hA rk1 ⊢
  obtain ⟨qk1, hqk1⟩ : ∃ X, V2.heap.size = X := ⟨_, rfl⟩
  rw [hqk1] at rk1 ⊢
  replace hV3 := hid hV3
  replace hqk1 := hid hqk1
  replace rm := hid (held_after hA rm.out)
  replace hB := hid (bthen hB.out hA)
  clear hA
  replace rk1 := hid rk1
  go_wp2_with fail
  refine (kR.out _ (hbb.out _ hB.out)).mono ?_
  rintro e V4 ⟨rfl, hA⟩
  replace rm := hid (held_after hA rm.out)
  replace rk1 := hid (held_after hA rk1.out)
  replace hB := hid (bthen hB.out hA)
  clear hA
  have nw := alloc_new V4 (.cells #[.int .u32 Tx, .int .i32 x0, .int .i32 x1, .int .i32 x2, .int .i32 x3, .int .i32 x4, .int .i32 x5, .int .i32 x6, .int .i32 x7, .int .i32 x8, .int .i32 x9, .int .i32 x10, .int .i32 x11] 25)
  have hA := nw.2.1
  have rk2 := nw.2.2
  clear nw
  go_upto_region 5 with (fail)
  obtain ⟨V5, hV5⟩ : ∃ X, V4.alloc (.cells #[.int .u32 Tx, .int .i32 x0, .int .i32 x1, .int .i32 x2, .int .i32 x3, .int .i32 x4, .int .i32 x5, .int .i32 x6, .int .i32 x7, .int .i32 x8, .int .i32 x9, .int .i32 x10, .int .i32 x11] 25) = X := ⟨_, rfl⟩
  rw [hV5] at hA rk2 ⊢
  obtain ⟨qk2, hqk2⟩ : ∃ X, V4.heap.size = X := ⟨_, rfl⟩
  rw [hqk2] at rk2 ⊢
  replace hV5 := hid hV5
  replace hqk2 := hid hqk2
  replace rm := hid (held_after hA rm.out)
  replace rk1 := hid (held_after hA rk1.out)
  replace hB := hid (bthen hB.out hA)
  clear hA
  replace rk2 := hid rk2
  have b0 := held_cell rm.out 0 _ rfl
  have b1 := held_cell rm.out 1 _ rfl
  have b2 := held_cell rm.out 2 _ rfl
  have b3 := held_cell rm.out 3 _ rfl
  have b4 := held_cell rm.out 4 _ rfl
  have b5 := held_cell rm.out 5 _ rfl
  have b6 := held_cell rm.out 6 _ rfl
  have b7 := held_cell rm.out 7 _ rfl
  have b8 := held_cell rm.out 8 _ rfl
  have b9 := held_cell rm.out 9 _ rfl
  have b10 := held_cell rm.out 10 _ rfl
  have b11 := held_cell rm.out 11 _ rfl
  have b12 := held_cell rm.out 12 _ rfl
  go_wp2_with fail
  refine (kD.out _ (hbb.out _ hB.out)).mono ?_
  rintro e V6 ⟨rfl, hA⟩
  replace rm := hid (held_after hA rm.out)
  replace rk1 := hid (held_after hA rk1.out)
  replace rk2 := hid (held_after hA rk2.out)
  replace hB := hid (bthen hB.out hA)
  clear hA
  clear b0 b1 b2 b3 b4 b5 b6 b7 b8 b9 b10 b11 b12
  have nw := alloc_new V6 (.cells #[.int .u32 Ty, .int .i32 y0, .int .i32 y1, .int .i32 y2, .int .i32 y3, .int .i32 y4, .int .i32 y5, .int .i32 y6, .int .i32 y7, .int .i32 y8, .int .i32 y9, .int .i32 y10, .int .i32 y11] 25)
  have hA := nw.2.1
  have rk3 := nw.2.2
  clear nw
  go_upto_region 6 with (fail)
  obtain ⟨V7, hV7⟩ : ∃ X, V6.alloc (.cells #[.int .u32 Ty, .int .i32 y0, .int .i32 y1, .int .i32 y2, .int .i32 y3, .int .i32 y4, .int .i32 y5, .int .i32 y6, .int .i32 y7, .int .i32 y8, .int .i32 y9, .int .i32 y10, .int .i32 y11] 25) = X := ⟨_, rfl⟩
  rw [hV7] at hA rk3 ⊢
  obtain ⟨qk3, hqk3⟩ : ∃ X, V6.heap.size = X := ⟨_, rfl⟩
  rw [hqk3] at rk3 ⊢
  replace hV7 := hid hV7
  replace hqk3 := hid hqk3
  replace rm := hid (held_after hA rm.out)
  replace rk1 := hid (held_after hA rk1.out)
  replace rk2 := hid (held_after hA rk2.out)
  replace hB := hid (bthen hB.out hA)
  clear hA
  replace rk3 := hid rk3
  have b0 := held_cell rm.out 0 _ rfl
  have b1 := held_cell rm.out 1 _ rfl
  have b2 := held_cell rm.out 2 _ rfl
  have b3 := held_cell rm.out 3 _ rfl
  have b4 := held_cell rm.out 4 _ rfl
  have b5 := held_cell rm.out 5 _ rfl
  have b6 := held_cell rm.out 6 _ rfl
  have b7 := held_cell rm.out 7 _ rfl
  have b8 := held_cell rm.out 8 _ rfl
  have b9 := held_cell rm.out 9 _ rfl
  have b10 := held_cell rm.out 10 _ rfl
  have b11 := held_cell rm.out 11 _ rfl
  have b12 := held_cell rm.out 12 _ rfl
  go_wp2_with fail
  refine (kS.out _ (hbb.out _ hB.out)).mono ?_
  rintro e V8 ⟨rfl, hA⟩
  replace rm := hid (held_after hA rm.out)
  replace rk1 := hid (held_after hA rk1.out)
  replace rk2 := hid (held_after hA rk2.out)
  replace rk3 := hid (held_after hA rk3.out)
  replace hB := hid (bthen hB.out hA)
  clear hA
  clear b0 b1 b2 b3 b4 b5 b6 b7 b8 b9 b10 b11 b12
  have nw := alloc_new V8 (.cells #[.int .u32 Ty, .int .i32 y0, .int .i32 y1, .int .i32 y2, .int .i32 y3, .int .i32 y4, .int .i32 y5, .int .i32 y6, .int .i32 y7, .int .i32 y8, .int .i32 y9, .int .i32 y10, .int .i32 y11] 25)
  have hA := nw.2.1
  have rk4 := nw.2.2
  clear nw
  go_upto_region 7 with (fail)
  obtain ⟨V9, hV9⟩ : ∃ X, V8.alloc (.cells #[.int .u32 Ty, .int .i32 y0, .int .i32 y1, .int .i32 y2, .int .i32 y3, .int .i32 y4, .int .i32 y5, .int .i32 y6, .int .i32 y7, .int .i32 y8, .int .i32 y9, .int .i32 y10, .int .i32 y11] 25) = X := ⟨_, rfl⟩
  rw [hV9] at hA rk4 ⊢
  obtain ⟨qk4, hqk4⟩ : ∃ X, V8.heap.size = X := ⟨_, rfl⟩
  rw [hqk4] at rk4 ⊢
  replace hV9 := hid hV9
  replace hqk4 := hid hqk4
  replace rm := hid (held_after hA rm.out)
  replace rk1 := hid (held_after hA rk1.out)
  replace rk2 := hid (held_after hA rk2.out)
  replace rk3 := hid (held_after hA rk3.out)
  replace hB := hid (bthen hB.out hA)
  clear hA
  replace rk4 := hid rk4
  have c0 := held_cell rk1.out 0 _ rfl
  have c1 := held_cell rk1.out 1 _ rfl
  have c2 := held_cell rk1.out 2 _ rfl
  have c3 := held_cell rk1.out 3 _ rfl
  have c4 := held_cell rk1.out 4 _ rfl
  have c5 := held_cell rk1.out 5 _ rfl
  have c6 := held_cell rk1.out 6 _ rfl
  have c7 := held_cell rk1.out 7 _ rfl
  have c8 := held_cell rk1.out 8 _ rfl
  have c9 := held_cell rk1.out 9 _ rfl
  have c10 := held_cell rk1.out 10 _ rfl
  have c11 := held_cell rk1.out 11 _ rfl
  have c12 := held_cell rk1.out 12 _ rfl
  have d0 := held_cell rk2.out 0 _ rfl
  have d1 := held_cell rk2.out 1 _ rfl
  have d2 := held_cell rk2.out 2 _ rfl
  have d3 := held_cell rk2.out 3 _ rfl
  have d4 := held_cell rk2.out 4 _ rfl
  have d5 := held_cell rk2.out 5 _ rfl
  have d6 := held_cell rk2.out 6 _ rfl
  have d7 := held_cell rk2.out 7 _ rfl
  have d8 := held_cell rk2.out 8 _ rfl
  have d9 := held_cell rk2.out 9 _ rfl
  have d10 := held_cell rk2.out 10 _ rfl
  have d11 := held_cell rk2.out 11 _ rfl
  have d12 := held_cell rk2.out 12 _ rfl
  have f0 := held_cell rk3.out 0 _ rfl
  have f1 := held_cell rk3.out 1 _ rfl
  have f2 := held_cell rk3.out 2 _ rfl
  have f3 := held_cell rk3.out 3 _ rfl
  have f4 := held_cell rk3.out 4 _ rfl
  have f5 := held_cell rk3.out 5 _ rfl
  have f6 := held_cell rk3.out 6 _ rfl
  have f7 := held_cell rk3.out 7 _ rfl
  have f8 := held_cell rk3.out 8 _ rfl
  have f9 := held_cell rk3.out 9 _ rfl
  have f10 := held_cell rk3.out 10 _ rfl
  have f11 := held_cell rk3.out 11 _ rfl
  have f12 := held_cell rk3.out 12 _ rfl
  have g0 := held_cell rk4.out 0 _ rfl
  have g1 := held_cell rk4.out 1 _ rfl
  have g2 := held_cell rk4.out 2 _ rfl
  have g3 := held_cell rk4.out 3 _ rfl
  have g4 := held_cell rk4.out 4 _ rfl
  have g5 := held_cell rk4.out 5 _ rfl
  have g6 := held_cell rk4.out 6 _ rfl
  have g7 := held_cell rk4.out 7 _ rfl
  have g8 := held_cell rk4.out 8 _ rfl
  have g9 := held_cell rk4.out 9 _ rfl
  have g10 := held_cell rk4.out 10 _ rfl
  have g11 := held_cell rk4.out 11 _ rfl
  have g12 := held_cell rk4.out 12 _ rfl
  have eqx := fun W => eq12s x0 x1 x2 x3 x4 x5 x6 x7 x8 x9 x10 x11 W
  have eqy := fun W => eq12s y0 y1 y2 y3 y4 y5 y6 y7 y8 y9 y10 y11 W
  go_wp2_with fail
  refine (num34_any ex _ (by omega) (by omega)).mono ?_
  rintro e V ⟨rfl, rfl⟩
  go_wp2_with fail
  refine (num34_any ex _ (by omega) (by omega)).mono ?_
  rintro e V ⟨rfl, rfl⟩
  go_wp2_with fail
  refine (num34_any ey _ (by omega) (by omega)).mono ?_
  rintro e V ⟨rfl, rfl⟩
  go_wp2_with fail
  refine (num34_any ey _ (by omega) (by omega)).mono ?_
  rintro e V ⟨rfl, rfl⟩
  go_wp2_with fail
  go_ret
  exact ⟨ret_bool (by simp), hB.out⟩

end Go.Proofs.Ytnoifpdjfpbmjaa
