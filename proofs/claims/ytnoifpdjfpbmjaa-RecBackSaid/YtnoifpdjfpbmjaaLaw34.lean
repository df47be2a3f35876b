/- The laws of layer 34: knows, RecPuts. -/
import Derived.Test.YtnoifpdjfpbmjaaRec8
import Derived.Laws.StructEq
import Derived.Deep.DeepCutAuto
namespace Go.Proofs.Ytnoifpdjfpbmjaa
open Go.ChangeShapes Go.WideShapes Go.ChangeAt Go.RowKit
set_option linter.unusedVariables false
set_option linter.unusedSimpArgs false

theorem txt34 {w : World} {a : Option Addr} {len cap : Nat} {zs : List Int} (h : Sl .u8 w a len cap zs) : (convert 26 9 (.slice a len cap)).run Try.prog w = .ok (.string (textOf zs)) w :=
  h.text 26 9 5 Try.underlying26 Try.underlying5 Try.underlying9
theorem num34_any (n : Int) (w : World) (h1 : -9223372036854775808 ≤ n) (h2 : n ≤ 9223372036854775807) :
    Calls Try.prog 16 #[.int .i64 n] w fun e w' => e = .returned (.int .i64 n) ∧ w' = w := by
  go_enter Try.func16, Try.ntmps16
  go_wp2_with fail
  go_ret
  exact ⟨rfl, rfl⟩
theorem u32_bd {x : Int} (h : (Lit.int .u32 x).wf = true) : 0 ≤ x ∧ x ≤ 4294967295 := by
  have h3 : IntKind.u32.min = 0 := rfl
  have h4 : IntKind.u32.max = 4294967295 := rfl
  simp [Lit.wf, h3, h4] at h; exact h
theorem i32_bd {x : Int} (h : (Lit.int .i32 x).wf = true) : -2147483648 ≤ x ∧ x ≤ 2147483647 := by
  have h3 : IntKind.i32.min = -2147483648 := rfl
  have h4 : IntKind.i32.max = 2147483647 := rfl
  simp [Lit.wf, h3, h4] at h; exact h
set_option maxRecDepth 100000 in
set_option maxHeartbeats 2000000 in
theorem eq12s (v0 v1 v2 v3 v4 v5 v6 v7 v8 v9 v10 v11 : Int) (w : World) : (Op.equalIn 9999 23 (.agg #[.int .i32 v0, .int .i32 v1, .int .i32 v2, .int .i32 v3, .int .i32 v4, .int .i32 v5, .int .i32 v6, .int .i32 v7, .int .i32 v8, .int .i32 v9, .int .i32 v10, .int .i32 v11]) (.agg #[.int .i32 v0, .int .i32 v1, .int .i32 v2, .int .i32 v3, .int .i32 v4, .int .i32 v5, .int .i32 v6, .int .i32 v7, .int .i32 v8, .int .i32 v9, .int .i32 v10, .int .i32 v11])).run Try.prog w = .ok true w := by
  have hi : ∃ i, Try.prog.info? 21 = some i := ⟨_, rfl⟩
  obtain ⟨i, hi⟩ := hi
  have hc : Try.prog.cellsOf 21 = 1 := by kernel_rfl
  rw [show (9999 : Nat) = 9998 + 1 from rfl, run_equalIn_array (i := i) w 9998 _ _ Try.underlying23 hi, hc, show List.range 12 = [0, 1, 2, 3, 4, 5, 6, 7, 8, 9, 10, 11] from rfl]
  have e : ∀ (x y : Int) (W : World), (Op.equalIn 9998 21 (.int .i32 x) (.int .i32 y)).run Try.prog W = .ok (x == y) W := fun x y W => run_equalIn_int W 9997 21 .i32 .i32 x y Try.underlying21
  simp [Op.eqItems, go_sem, e]
set_option maxRecDepth 100000 in
set_option maxHeartbeats 4000000 in
theorem knows34_any (w : World) : Calls Try.prog 11 #[] w fun e w' => e = .returned (.bool true) ∧ Below w.heap.size w w' := by
  have e1 : deltaV 5 5 [0, 0, 0, 0, 0, 0, 0, 0, 0, 0, 0, 0] [0, 0, 0, 0, 0, 0, 0, 0, 0, 0, 0, 0] = [0, 0] := by decide +kernel
  have e2 : (keyV 5 [0, 0, 0, 0, 0, 0, 0, 0, 0, 0, 0, 0]).length = 52 := by decide +kernel
  replace e1 := hid e1
  replace e2 := hid e2
  have hz := hid (show ∀ x ∈ [0, 0, 0, 0, 0, 0, 0, 0, 0, 0, 0, 0], (-2147483648 : Int) ≤ x ∧ x ≤ 2147483647 from by intro x hx; simp at hx; subst hx; decide)
  have nA := alloc_new w (.cells #[.int .u32 5, .int .i32 0, .int .i32 0, .int .i32 0, .int .i32 0, .int .i32 0, .int .i32 0, .int .i32 0, .int .i32 0, .int .i32 0, .int .i32 0, .int .i32 0, .int .i32 0] 25)
  have hB := hid nA.2.1
  have r1 := nA.2.2
  obtain ⟨p, hp⟩ : ∃ q, w.heap.size = q := ⟨_, rfl⟩
  rw [hp] at r1
  go_enter Try.func11, Try.ntmps11
  go_upto_region 2 with (fail)
  try rw [hp]
  obtain ⟨U, hU⟩ : ∃ X, w.alloc (.cells #[.int .u32 5, .int .i32 0, .int .i32 0, .int .i32 0, .int .i32 0, .int .i32 0, .int .i32 0, .int .i32 0, .int .i32 0, .int .i32 0, .int .i32 0, .int .i32 0, .int .i32 0] 25) = X := ⟨_, rfl⟩
  rw [hU] at hB r1 ⊢
  clear hU hp nA
  have rD := hid (show U.drew.heap[p]? = _ from r1)
  have hT := hid (show After U U.drew from (Below.refl _ U).drew)
  clear r1
  refine wp_region_R (by kernel_rfl) ?_
  refine wpAnyR_take 0 rfl (by kernel_rfl) (by kernel_rfl) (by kernel_rfl) (fun _ _ _ _ h => h) ⟨_, Or.inl ⟨by rfl, fun w2 hb2 => by (have hr := held_after hb2 rD.out; have g0 := held_cell hr 0 _ rfl; have g1 := held_cell hr 1 _ rfl; have g2 := held_cell hr 2 _ rfl; have g3 := held_cell hr 3 _ rfl; have g4 := held_cell hr 4 _ rfl; have g5 := held_cell hr 5 _ rfl; have g6 := held_cell hr 6 _ rfl; have g7 := held_cell hr 7 _ rfl; have g8 := held_cell hr 8 _ rfl; have g9 := held_cell hr 9 _ rfl; have g10 := held_cell hr 10 _ rfl; have g11 := held_cell hr 11 _ rfl; have g12 := held_cell hr 12 _ rfl; go_simp; try with_reducible rfl)⟩, _, by (go_simp; try rfl), ?_⟩
  refine wpAnyR_take 1 rfl (by kernel_rfl) (by kernel_rfl) (by kernel_rfl) (fun _ _ _ _ h => h) ⟨_, Or.inl ⟨by rfl, fun w2 hb2 => by (have hr := held_after hb2 rD.out; have g0 := held_cell hr 0 _ rfl; have g1 := held_cell hr 1 _ rfl; have g2 := held_cell hr 2 _ rfl; have g3 := held_cell hr 3 _ rfl; have g4 := held_cell hr 4 _ rfl; have g5 := held_cell hr 5 _ rfl; have g6 := held_cell hr 6 _ rfl; have g7 := held_cell hr 7 _ rfl; have g8 := held_cell hr 8 _ rfl; have g9 := held_cell hr 9 _ rfl; have g10 := held_cell hr 10 _ rfl; have g11 := held_cell hr 11 _ rfl; have g12 := held_cell hr 12 _ rfl; go_simp; try with_reducible rfl)⟩, _, by (go_simp; try rfl), ?_⟩
  refine wpAnyR_pair 2 4 rfl rfl (by kernel_rfl) (by rfl) (by rfl) (fun K hK => ?_) (fun K hK => ?_)
  · go_simp
    refine (delta_any 5 5 0 0 0 0 0 0 0 0 0 0 0 0 0 0 0 0 0 0 0 0 0 0 0 0 _ (by omega) (by omega) hz.out hz.out).mono ?_
    rintro e V1 ⟨da, dc, rfl, hD, hA⟩
    rw [e1.out] at hD ⊢
    replace hT := hid (bthen hT.out hA)
    replace rD := hid (held_after hA rD.out)
    have hD : Hid (Sl .u8 V1 da 2 dc [0, 0]) := hid hD.slf
    go_simp
    refine hK _ _ ⟨hA, ?_⟩
    clear hK
    clear hA
    refine wpAnyR_take 3 rfl (by kernel_rfl) (by kernel_rfl) (by kernel_rfl) (fun _ _ _ _ h => h) ⟨_, Or.inl ⟨by rfl, fun w2 hb2 => by (have hx := txt34 (hD.out.below hb2); go_simp; try with_reducible rfl)⟩, _, by (go_simp; try rfl), ?_⟩
    refine wpAnyR_only 4 rfl (by kernel_rfl) (by rfl) (fun K hK => ?_)
    go_simp
    have hA := (alloc_new V1 (.cells #[.int .u8 0, .int .u8 0] 5)).2.1
    have hL := hid (row_lit .u8 5 V1 [0, 0] #[.int .u8 0, .int .u8 0] 2 V1.heap.size rfl rfl (by unfold maxLen; omega) rfl)
    replace hT := hid (bthen hT.out hA)
    replace rD := hid (held_after hA rD.out)
    replace hD := hid (hD.out.below hA)
    refine hK _ _ ⟨hA, ?_⟩
    clear hK
    clear hA
    refine wpAnyR_take 5 rfl (by kernel_rfl) (by kernel_rfl) (by kernel_rfl) (fun _ _ _ _ h => h) ⟨_, Or.inl ⟨by rfl, fun w2 hb2 => by (have hx := txt34 (hL.out.below hb2); go_simp; try with_reducible rfl)⟩, _, by (go_simp; try rfl), ?_⟩
    refine wpAnyR_take 6 rfl (by kernel_rfl) (by kernel_rfl) (by kernel_rfl) (fun _ _ _ _ h => h) ⟨_, Or.inl ⟨by rfl, fun w2 hb2 => by (go_simp; try with_reducible rfl)⟩, _, by (go_simp; try rfl), ?_⟩
    refine wpAnyR_take 7 rfl (by kernel_rfl) (by kernel_rfl) (by kernel_rfl) (fun _ _ _ _ h => h) ⟨_, Or.inl ⟨by rfl, fun w2 hb2 => by (go_simp; try with_reducible rfl)⟩, _, by (go_simp; try rfl), ?_⟩
    refine wpAnyR_take 8 rfl (by kernel_rfl) (by kernel_rfl) (by kernel_rfl) (fun _ _ _ _ h => h) ⟨_, Or.inl ⟨by rfl, fun w2 hb2 => by (have hr := held_after hb2 rD.out; have g0 := held_cell hr 0 _ rfl; have g1 := held_cell hr 1 _ rfl; have g2 := held_cell hr 2 _ rfl; have g3 := held_cell hr 3 _ rfl; have g4 := held_cell hr 4 _ rfl; have g5 := held_cell hr 5 _ rfl; have g6 := held_cell hr 6 _ rfl; have g7 := held_cell hr 7 _ rfl; have g8 := held_cell hr 8 _ rfl; have g9 := held_cell hr 9 _ rfl; have g10 := held_cell hr 10 _ rfl; have g11 := held_cell hr 11 _ rfl; have g12 := held_cell hr 12 _ rfl; go_simp; try with_reducible rfl)⟩, _, by (go_simp; try rfl), ?_⟩
    refine wpAnyR_only 9 rfl (by kernel_rfl) (by rfl) (fun K hK => ?_)
    go_simp
    refine (key_any 5 0 0 0 0 0 0 0 0 0 0 0 0 _ (by omega) hz.out).mono ?_
    rintro e V3 ⟨ka, kc, rfl, hO, hA⟩
    rw [e2.out]
    replace hT := hid (bthen hT.out hA)
    go_simp
    refine hK _ _ ⟨hA, ?_⟩
    clear hK
    clear hA
    refine wpAnyR_take 10 rfl (by kernel_rfl) (by kernel_rfl) (by kernel_rfl) (fun _ _ _ _ h => h) ⟨_, Or.inl ⟨by rfl, fun w2 hb2 => by (go_simp; try with_reducible rfl)⟩, _, by (go_simp; try rfl), ?_⟩
    refine wpAnyR_take 11 rfl (by kernel_rfl) (by kernel_rfl) (by kernel_rfl) (fun _ _ _ _ h => h) ⟨_, Or.inl ⟨by rfl, fun w2 hb2 => by (go_simp; try with_reducible rfl)⟩, _, by (go_simp; try rfl), ?_⟩
    refine wpAnyR_take 12 rfl (by kernel_rfl) (by kernel_rfl) (by kernel_rfl) (fun _ _ _ _ h => h) ⟨_, Or.inl ⟨by rfl, fun w2 hb2 => by (go_simp; try with_reducible rfl)⟩, _, by (go_simp; try rfl), ?_⟩
    refine wpAnyR_take 13 rfl (by kernel_rfl) (by kernel_rfl) (by kernel_rfl) (fun _ _ _ _ h => h) ⟨_, Or.inl ⟨by rfl, fun w2 hb2 => by (go_simp; try with_reducible rfl)⟩, _, by (go_simp; try rfl), ?_⟩
    refine wpAnyR_done (by kernel_rfl) ?_ _
    go_wp2_with fail
    go_ret
    exact ⟨rfl, bthen hB.out hT.out⟩
  · go_simp
    have hA := (alloc_new U.drew (.cells #[.int .u8 0, .int .u8 0] 5)).2.1
    have hL := hid (row_lit .u8 5 U.drew [0, 0] #[.int .u8 0, .int .u8 0] 2 U.heap.size rfl rfl (by unfold maxLen; omega) rfl)
    replace hT := hid (bthen hT.out hA)
    replace rD := hid (held_after hA rD.out)
    refine hK _ _ ⟨hA, ?_⟩
    clear hK
    clear hA
    refine wpAnyR_take 5 rfl (by kernel_rfl) (by kernel_rfl) (by kernel_rfl) (fun _ _ _ _ h => h) ⟨_, Or.inl ⟨by rfl, fun w2 hb2 => by (have hx := txt34 (hL.out.below hb2); go_simp; try with_reducible rfl)⟩, _, by (go_simp; try rfl), ?_⟩
    refine wpAnyR_only 2 rfl (by kernel_rfl) (by rfl) (fun K hK => ?_)
    go_simp
    refine (delta_any 5 5 0 0 0 0 0 0 0 0 0 0 0 0 0 0 0 0 0 0 0 0 0 0 0 0 _ (by omega) (by omega) hz.out hz.out).mono ?_
    rintro e V1 ⟨da, dc, rfl, hD, hA⟩
    rw [e1.out] at hD ⊢
    replace hT := hid (bthen hT.out hA)
    replace rD := hid (held_after hA rD.out)
    have hD : Hid (Sl .u8 V1 da 2 dc [0, 0]) := hid hD.slf
    replace hL := hid (hL.out.below hA)
    go_simp
    refine hK _ _ ⟨hA, ?_⟩
    clear hK
    clear hA
    refine wpAnyR_take 3 rfl (by kernel_rfl) (by kernel_rfl) (by kernel_rfl) (fun _ _ _ _ h => h) ⟨_, Or.inl ⟨by rfl, fun w2 hb2 => by (have hx := txt34 (hD.out.below hb2); go_simp; try with_reducible rfl)⟩, _, by (go_simp; try rfl), ?_⟩
    refine wpAnyR_take 6 rfl (by kernel_rfl) (by kernel_rfl) (by kernel_rfl) (fun _ _ _ _ h => h) ⟨_, Or.inl ⟨by rfl, fun w2 hb2 => by (go_simp; try with_reducible rfl)⟩, _, by (go_simp; try rfl), ?_⟩
    refine wpAnyR_take 7 rfl (by kernel_rfl) (by kernel_rfl) (by kernel_rfl) (fun _ _ _ _ h => h) ⟨_, Or.inl ⟨by rfl, fun w2 hb2 => by (go_simp; try with_reducible rfl)⟩, _, by (go_simp; try rfl), ?_⟩
    refine wpAnyR_take 8 rfl (by kernel_rfl) (by kernel_rfl) (by kernel_rfl) (fun _ _ _ _ h => h) ⟨_, Or.inl ⟨by rfl, fun w2 hb2 => by (have hr := held_after hb2 rD.out; have g0 := held_cell hr 0 _ rfl; have g1 := held_cell hr 1 _ rfl; have g2 := held_cell hr 2 _ rfl; have g3 := held_cell hr 3 _ rfl; have g4 := held_cell hr 4 _ rfl; have g5 := held_cell hr 5 _ rfl; have g6 := held_cell hr 6 _ rfl; have g7 := held_cell hr 7 _ rfl; have g8 := held_cell hr 8 _ rfl; have g9 := held_cell hr 9 _ rfl; have g10 := held_cell hr 10 _ rfl; have g11 := held_cell hr 11 _ rfl; have g12 := held_cell hr 12 _ rfl; go_simp; try with_reducible rfl)⟩, _, by (go_simp; try rfl), ?_⟩
    refine wpAnyR_only 9 rfl (by kernel_rfl) (by rfl) (fun K hK => ?_)
    go_simp
    refine (key_any 5 0 0 0 0 0 0 0 0 0 0 0 0 _ (by omega) hz.out).mono ?_
    rintro e V3 ⟨ka, kc, rfl, hO, hA⟩
    rw [e2.out]
    replace hT := hid (bthen hT.out hA)
    go_simp
    refine hK _ _ ⟨hA, ?_⟩
    clear hK
    clear hA
    refine wpAnyR_take 10 rfl (by kernel_rfl) (by kernel_rfl) (by kernel_rfl) (fun _ _ _ _ h => h) ⟨_, Or.inl ⟨by rfl, fun w2 hb2 => by (go_simp; try with_reducible rfl)⟩, _, by (go_simp; try rfl), ?_⟩
    refine wpAnyR_take 11 rfl (by kernel_rfl) (by kernel_rfl) (by kernel_rfl) (fun _ _ _ _ h => h) ⟨_, Or.inl ⟨by rfl, fun w2 hb2 => by (go_simp; try with_reducible rfl)⟩, _, by (go_simp; try rfl), ?_⟩
    refine wpAnyR_take 12 rfl (by kernel_rfl) (by kernel_rfl) (by kernel_rfl) (fun _ _ _ _ h => h) ⟨_, Or.inl ⟨by rfl, fun w2 hb2 => by (go_simp; try with_reducible rfl)⟩, _, by (go_simp; try rfl), ?_⟩
    refine wpAnyR_take 13 rfl (by kernel_rfl) (by kernel_rfl) (by kernel_rfl) (fun _ _ _ _ h => h) ⟨_, Or.inl ⟨by rfl, fun w2 hb2 => by (go_simp; try with_reducible rfl)⟩, _, by (go_simp; try rfl), ?_⟩
    refine wpAnyR_done (by kernel_rfl) ?_ _
    go_wp2_with fail
    go_ret
    exact ⟨rfl, bthen hB.out hT.out⟩
set_option maxRecDepth 100000 in
set_option maxHeartbeats 8000000 in
theorem law_RecPuts (a0_0 : Int) (a0_1 : Int) (a0_2 : Int) (a0_3 : Int) (a0_4 : Int) (a0_5 : Int) (a0_6 : Int) (a0_7 : Int) (a0_8 : Int) (a0_9 : Int) (a0_10 : Int) (a0_11 : Int) (a0_12 : Int) (a1_0 : Int) (a1_1 : Int) (a1_2 : Int) (a1_3 : Int) (a1_4 : Int) (a1_5 : Int) (a1_6 : Int) (a1_7 : Int) (a1_8 : Int) (a1_9 : Int) (a1_10 : Int) (a1_11 : Int) (a1_12 : Int) (W : World) (w0_0 : (Lit.int .u32 a0_0).wf = true) (w0_1 : (Lit.int .i32 a0_1).wf = true) (w0_2 : (Lit.int .i32 a0_2).wf = true) (w0_3 : (Lit.int .i32 a0_3).wf = true) (w0_4 : (Lit.int .i32 a0_4).wf = true) (w0_5 : (Lit.int .i32 a0_5).wf = true) (w0_6 : (Lit.int .i32 a0_6).wf = true) (w0_7 : (Lit.int .i32 a0_7).wf = true) (w0_8 : (Lit.int .i32 a0_8).wf = true) (w0_9 : (Lit.int .i32 a0_9).wf = true) (w0_10 : (Lit.int .i32 a0_10).wf = true) (w0_11 : (Lit.int .i32 a0_11).wf = true) (w0_12 : (Lit.int .i32 a0_12).wf = true) (w1_0 : (Lit.int .u32 a1_0).wf = true) (w1_1 : (Lit.int .i32 a1_1).wf = true) (w1_2 : (Lit.int .i32 a1_2).wf = true) (w1_3 : (Lit.int .i32 a1_3).wf = true) (w1_4 : (Lit.int .i32 a1_4).wf = true) (w1_5 : (Lit.int .i32 a1_5).wf = true) (w1_6 : (Lit.int .i32 a1_6).wf = true) (w1_7 : (Lit.int .i32 a1_7).wf = true) (w1_8 : (Lit.int .i32 a1_8).wf = true) (w1_9 : (Lit.int .i32 a1_9).wf = true) (w1_10 : (Lit.int .i32 a1_10).wf = true) (w1_11 : (Lit.int .i32 a1_11).wf = true) (w1_12 : (Lit.int .i32 a1_12).wf = true) :
    Calls Try.prog 3 #[.agg #[.int .u32 a0_0, .int .i32 a0_1, .int .i32 a0_2, .int .i32 a0_3, .int .i32 a0_4, .int .i32 a0_5, .int .i32 a0_6, .int .i32 a0_7, .int .i32 a0_8, .int .i32 a0_9, .int .i32 a0_10, .int .i32 a0_11, .int .i32 a0_12], .agg #[.int .u32 a1_0, .int .i32 a1_1, .int .i32 a1_2, .int .i32 a1_3, .int .i32 a1_4, .int .i32 a1_5, .int .i32 a1_6, .int .i32 a1_7, .int .i32 a1_8, .int .i32 a1_9, .int .i32 a1_10, .int .i32 a1_11, .int .i32 a1_12]] W fun e w' => e = .returned (.bool true) ∧ Below W.heap.size W w' := by
  have t0 := u32_bd w0_0
  have v0 := hid (show ∀ x ∈ [a0_1, a0_2, a0_3, a0_4, a0_5, a0_6, a0_7, a0_8, a0_9, a0_10, a0_11, a0_12], -2147483648 ≤ x ∧ x ≤ 2147483647 from by intro x hx; simp only [List.mem_cons, List.not_mem_nil, or_false] at hx; rcases hx with rfl | rfl | rfl | rfl | rfl | rfl | rfl | rfl | rfl | rfl | rfl | rfl <;> first | exact i32_bd w0_1 | exact i32_bd w0_2 | exact i32_bd w0_3 | exact i32_bd w0_4 | exact i32_bd w0_5 | exact i32_bd w0_6 | exact i32_bd w0_7 | exact i32_bd w0_8 | exact i32_bd w0_9 | exact i32_bd w0_10 | exact i32_bd w0_11 | exact i32_bd w0_12)
  clear w0_0 w0_1 w0_2 w0_3 w0_4 w0_5 w0_6 w0_7 w0_8 w0_9 w0_10 w0_11 w0_12
  have t1 := u32_bd w1_0
  have v1 := hid (show ∀ x ∈ [a1_1, a1_2, a1_3, a1_4, a1_5, a1_6, a1_7, a1_8, a1_9, a1_10, a1_11, a1_12], -2147483648 ≤ x ∧ x ≤ 2147483647 from by intro x hx; simp only [List.mem_cons, List.not_mem_nil, or_false] at hx; rcases hx with rfl | rfl | rfl | rfl | rfl | rfl | rfl | rfl | rfl | rfl | rfl | rfl <;> first | exact i32_bd w1_1 | exact i32_bd w1_2 | exact i32_bd w1_3 | exact i32_bd w1_4 | exact i32_bd w1_5 | exact i32_bd w1_6 | exact i32_bd w1_7 | exact i32_bd w1_8 | exact i32_bd w1_9 | exact i32_bd w1_10 | exact i32_bd w1_11 | exact i32_bd w1_12)
  clear w1_0 w1_1 w1_2 w1_3 w1_4 w1_5 w1_6 w1_7 w1_8 w1_9 w1_10 w1_11 w1_12
  go_enter Try.func3, Try.ntmps3
  go_upto_region 0 with (fail)
  apply wp_region_seg0 (w := W) (S := [.al 1000, .al 1000, .q []]) (E := [.al ((fun p => .pointer (some ⟨p, 0, none⟩)), _) 1000, .al ((fun p => .pointer (some ⟨p, 0, none⟩)), _) 1000, .q0 _]) rfl (by kernel_rfl) rfl rfl
  intro th hge hne
  refine Seg.step _ rfl ⟨by rfl, fun U hU => ?_⟩ ?_
  · go_simp; exact vp_alloc rfl rfl rfl
  refine ⟨_, by (simp only [Ent.val]; go_simp <;> exact rfl), ?_⟩
  refine Seg.step _ rfl ⟨by rfl, fun U hU => ?_⟩ ?_
  · go_simp; exact vp_alloc rfl rfl rfl
  refine ⟨_, by (simp only [Ent.val]; go_simp <;> exact rfl), ?_⟩
  refine Seg.step _ rfl (Or.inl ⟨by rfl, fun U hU => vp_quiet (by (go_simp <;> exact rfl))⟩) ⟨_, by (simp only [Ent.val]; go_simp <;> exact rfl), ?_⟩
  refine Seg.stop (fun U1 hU hk => ?_)
  have nb0 := hge 0 _ _ rfl
  have rb0 := (hk 0 _ _ rfl trivial).1.2 (by simp)
  have nb1 := hge 1 _ _ rfl
  have rb1 := (hk 1 _ _ rfl trivial).1.2 (by simp)
  have ne0_1 := hne 0 1 _ _ _ _ rfl rfl (by omega)
  clear hk hge hne
  generalize th (0 + 0) = p0_0 at *
  dsimp only at rb0
  generalize th (0 + 1) = p0_1 at *
  dsimp only at rb1
  have r_p0_0 := rb0
  clear rb0
  have n_p0_0 := nb0
  clear nb0
  have d_p0_0_p0_1 := ne0_1
  clear ne0_1
  have r_p0_1 := rb1
  clear rb1
  have n_p0_1 := nb1
  clear nb1
  have sz1 := hU.size
  have hB : Below W.heap.size W U1 := hU
  clear hU
  replace hB := hid hB
  go_upto_region 1 with (fail)
  have ra := hid (show U1.drew.heap[p0_0]? = _ from r_p0_0)
  have rb := hid (show U1.drew.heap[p0_1]? = _ from r_p0_1)
  have hT := hid (show After U1 U1.drew from (Below.refl _ U1).drew)
  clear r_p0_0 r_p0_1
  refine wp_region_R (by kernel_rfl) ?_
  refine wpAnyR_take 0 rfl (by kernel_rfl) (by kernel_rfl) (by kernel_rfl) (fun _ _ _ _ h => h) ⟨_, Or.inl ⟨by rfl, fun w2 hb2 => by (have hr := held_after hb2 rb.out; have g0 := held_cell hr 0 _ rfl; have g1 := held_cell hr 1 _ rfl; have g2 := held_cell hr 2 _ rfl; have g3 := held_cell hr 3 _ rfl; have g4 := held_cell hr 4 _ rfl; have g5 := held_cell hr 5 _ rfl; have g6 := held_cell hr 6 _ rfl; have g7 := held_cell hr 7 _ rfl; have g8 := held_cell hr 8 _ rfl; have g9 := held_cell hr 9 _ rfl; have g10 := held_cell hr 10 _ rfl; have g11 := held_cell hr 11 _ rfl; have g12 := held_cell hr 12 _ rfl; go_simp; try with_reducible rfl)⟩, _, by (go_simp; try rfl), ?_⟩
  refine wpAnyR_take 3 rfl (by kernel_rfl) (by kernel_rfl) (by kernel_rfl) (fun _ _ _ _ h => h) ⟨_, Or.inl ⟨by rfl, fun w2 hb2 => by (have hr := held_after hb2 rb.out; have g0 := held_cell hr 0 _ rfl; have g1 := held_cell hr 1 _ rfl; have g2 := held_cell hr 2 _ rfl; have g3 := held_cell hr 3 _ rfl; have g4 := held_cell hr 4 _ rfl; have g5 := held_cell hr 5 _ rfl; have g6 := held_cell hr 6 _ rfl; have g7 := held_cell hr 7 _ rfl; have g8 := held_cell hr 8 _ rfl; have g9 := held_cell hr 9 _ rfl; have g10 := held_cell hr 10 _ rfl; have g11 := held_cell hr 11 _ rfl; have g12 := held_cell hr 12 _ rfl; go_simp; try with_reducible rfl)⟩, _, by (go_simp; try rfl), ?_⟩
  refine wpAnyR_only 1 rfl (by kernel_rfl) (by rfl) (fun K hK => ?_)
  go_simp
  refine (key_any a1_0 a1_1 a1_2 a1_3 a1_4 a1_5 a1_6 a1_7 a1_8 a1_9 a1_10 a1_11 a1_12 _ t1 v1.out).mono ?_
  rintro e V1 ⟨s1a, s1c, rfl, hO, hA⟩
  replace hT := hid (bthen hT.out hA)
  replace ra := hid (held_after hA ra.out)
  replace rb := hid (held_after hA rb.out)
  have hO1 := hid hO.slf
  clear hO
  go_simp
  refine hK _ _ ⟨hA, ?_⟩
  clear hK
  clear hA
  refine wpAnyR_take 2 rfl (by kernel_rfl) (by kernel_rfl) (by kernel_rfl) (fun _ _ _ _ h => h) ⟨_, Or.inl ⟨by rfl, fun w2 hb2 => by (have hx := txt34 (hO1.out.below hb2); go_simp; try with_reducible rfl)⟩, _, by (go_simp; try rfl), ?_⟩
  refine wpAnyR_only 4 rfl (by kernel_rfl) (by rfl) (fun K hK => ?_)
  go_simp
  refine (rkey_any a1_0 a1_1 a1_2 a1_3 a1_4 a1_5 a1_6 a1_7 a1_8 a1_9 a1_10 a1_11 a1_12 _ t1 v1.out).mono ?_
  rintro e V4 ⟨s4a, s4c, rfl, hO, hA⟩
  replace hT := hid (bthen hT.out hA)
  replace ra := hid (held_after hA ra.out)
  replace rb := hid (held_after hA rb.out)
  have hO4 := hid hO.slf
  clear hO
  clear hO1
  go_simp
  refine hK _ _ ⟨hA, ?_⟩
  clear hK
  clear hA
  refine wpAnyR_take 5 rfl (by kernel_rfl) (by kernel_rfl) (by kernel_rfl) (fun _ _ _ _ h => h) ⟨_, Or.inl ⟨by rfl, fun w2 hb2 => by (have hx := txt34 (hO4.out.below hb2); go_simp; try with_reducible rfl)⟩, _, by (go_simp; try rfl), ?_⟩
  refine wpAnyR_take 6 rfl (by kernel_rfl) (by kernel_rfl) (by kernel_rfl) (fun _ _ _ _ h => h) ⟨_, Or.inl ⟨by rfl, fun w2 hb2 => by (go_simp; try with_reducible rfl)⟩, _, by (go_simp; try rfl), ?_⟩
  refine wpAnyR_take 7 rfl (by kernel_rfl) (by kernel_rfl) (by kernel_rfl) (fun _ _ _ _ h => h) ⟨_, Or.inl ⟨by rfl, fun w2 hb2 => by (go_simp; try with_reducible rfl)⟩, _, by (go_simp; try rfl), ?_⟩
  refine wpAnyR_take 8 rfl (by kernel_rfl) (by kernel_rfl) (by kernel_rfl) (fun _ _ _ _ h => h) ⟨_, Or.inl ⟨by rfl, fun w2 hb2 => by (have hr := held_after hb2 ra.out; have g0 := held_cell hr 0 _ rfl; have g1 := held_cell hr 1 _ rfl; have g2 := held_cell hr 2 _ rfl; have g3 := held_cell hr 3 _ rfl; have g4 := held_cell hr 4 _ rfl; have g5 := held_cell hr 5 _ rfl; have g6 := held_cell hr 6 _ rfl; have g7 := held_cell hr 7 _ rfl; have g8 := held_cell hr 8 _ rfl; have g9 := held_cell hr 9 _ rfl; have g10 := held_cell hr 10 _ rfl; have g11 := held_cell hr 11 _ rfl; have g12 := held_cell hr 12 _ rfl; go_simp; try with_reducible rfl)⟩, _, by (go_simp; try rfl), ?_⟩
  refine wpAnyR_take 9 rfl (by kernel_rfl) (by kernel_rfl) (by kernel_rfl) (fun _ _ _ _ h => h) ⟨_, Or.inl ⟨by rfl, fun w2 hb2 => by (have hr := held_after hb2 rb.out; have g0 := held_cell hr 0 _ rfl; have g1 := held_cell hr 1 _ rfl; have g2 := held_cell hr 2 _ rfl; have g3 := held_cell hr 3 _ rfl; have g4 := held_cell hr 4 _ rfl; have g5 := held_cell hr 5 _ rfl; have g6 := held_cell hr 6 _ rfl; have g7 := held_cell hr 7 _ rfl; have g8 := held_cell hr 8 _ rfl; have g9 := held_cell hr 9 _ rfl; have g10 := held_cell hr 10 _ rfl; have g11 := held_cell hr 11 _ rfl; have g12 := held_cell hr 12 _ rfl; go_simp; try with_reducible rfl)⟩, _, by (go_simp; try rfl), ?_⟩
  refine wpAnyR_take 12 rfl (by kernel_rfl) (by kernel_rfl) (by kernel_rfl) (fun _ _ _ _ h => h) ⟨_, Or.inl ⟨by rfl, fun w2 hb2 => by (have hr := held_after hb2 ra.out; have g0 := held_cell hr 0 _ rfl; have g1 := held_cell hr 1 _ rfl; have g2 := held_cell hr 2 _ rfl; have g3 := held_cell hr 3 _ rfl; have g4 := held_cell hr 4 _ rfl; have g5 := held_cell hr 5 _ rfl; have g6 := held_cell hr 6 _ rfl; have g7 := held_cell hr 7 _ rfl; have g8 := held_cell hr 8 _ rfl; have g9 := held_cell hr 9 _ rfl; have g10 := held_cell hr 10 _ rfl; have g11 := held_cell hr 11 _ rfl; have g12 := held_cell hr 12 _ rfl; go_simp; try with_reducible rfl)⟩, _, by (go_simp; try rfl), ?_⟩
  refine wpAnyR_take 13 rfl (by kernel_rfl) (by kernel_rfl) (by kernel_rfl) (fun _ _ _ _ h => h) ⟨_, Or.inl ⟨by rfl, fun w2 hb2 => by (have hr := held_after hb2 rb.out; have g0 := held_cell hr 0 _ rfl; have g1 := held_cell hr 1 _ rfl; have g2 := held_cell hr 2 _ rfl; have g3 := held_cell hr 3 _ rfl; have g4 := held_cell hr 4 _ rfl; have g5 := held_cell hr 5 _ rfl; have g6 := held_cell hr 6 _ rfl; have g7 := held_cell hr 7 _ rfl; have g8 := held_cell hr 8 _ rfl; have g9 := held_cell hr 9 _ rfl; have g10 := held_cell hr 10 _ rfl; have g11 := held_cell hr 11 _ rfl; have g12 := held_cell hr 12 _ rfl; go_simp; try with_reducible rfl)⟩, _, by (go_simp; try rfl), ?_⟩
  refine wpAnyR_only 10 rfl (by kernel_rfl) (by rfl) (fun K hK => ?_)
  go_simp
  refine (delta_any a0_0 a1_0 a0_1 a0_2 a0_3 a0_4 a0_5 a0_6 a0_7 a0_8 a0_9 a0_10 a0_11 a0_12 a1_1 a1_2 a1_3 a1_4 a1_5 a1_6 a1_7 a1_8 a1_9 a1_10 a1_11 a1_12 _ t0 t1 v0.out v1.out).mono ?_
  rintro e V10 ⟨s10a, s10c, rfl, hO, hA⟩
  replace hT := hid (bthen hT.out hA)
  replace ra := hid (held_after hA ra.out)
  replace rb := hid (held_after hA rb.out)
  have hO10 := hid hO.slf
  clear hO
  go_simp
  refine hK _ _ ⟨hA, ?_⟩
  clear hK
  clear hA
  refine wpAnyR_take 11 rfl (by kernel_rfl) (by kernel_rfl) (by kernel_rfl) (fun _ _ _ _ h => h) ⟨_, Or.inl ⟨by rfl, fun w2 hb2 => by (have hx := txt34 (hO10.out.below hb2); go_simp; try with_reducible rfl)⟩, _, by (go_simp; try rfl), ?_⟩
  refine wpAnyR_only 14 rfl (by kernel_rfl) (by rfl) (fun K hK => ?_)
  go_simp
  refine (rdelta_any a0_0 a1_0 a0_1 a0_2 a0_3 a0_4 a0_5 a0_6 a0_7 a0_8 a0_9 a0_10 a0_11 a0_12 a1_1 a1_2 a1_3 a1_4 a1_5 a1_6 a1_7 a1_8 a1_9 a1_10 a1_11 a1_12 _ t0 t1 v0.out v1.out).mono ?_
  rintro e V14 ⟨s14a, s14c, rfl, hO, hA⟩
  replace hT := hid (bthen hT.out hA)
  replace ra := hid (held_after hA ra.out)
  replace rb := hid (held_after hA rb.out)
  have hO14 := hid hO.slf
  clear hO
  clear hO10
  go_simp
  refine hK _ _ ⟨hA, ?_⟩
  clear hK
  clear hA
  refine wpAnyR_take 15 rfl (by kernel_rfl) (by kernel_rfl) (by kernel_rfl) (fun _ _ _ _ h => h) ⟨_, Or.inl ⟨by rfl, fun w2 hb2 => by (have hx := txt34 (hO14.out.below hb2); go_simp; try with_reducible rfl)⟩, _, by (go_simp; try rfl), ?_⟩
  refine wpAnyR_take 16 rfl (by kernel_rfl) (by kernel_rfl) (by kernel_rfl) (fun _ _ _ _ h => h) ⟨_, Or.inl ⟨by rfl, fun w2 hb2 => by (go_simp; try with_reducible rfl)⟩, _, by (go_simp; try rfl), ?_⟩
  refine wpAnyR_take 17 rfl (by kernel_rfl) (by kernel_rfl) (by kernel_rfl) (fun _ _ _ _ h => h) ⟨_, Or.inl ⟨by rfl, fun w2 hb2 => by (go_simp; try with_reducible rfl)⟩, _, by (go_simp; try rfl), ?_⟩
  refine wpAnyR_take 18 rfl (by kernel_rfl) (by kernel_rfl) (by kernel_rfl) (fun _ _ _ _ h => h) ⟨_, Or.inl ⟨by rfl, fun w2 hb2 => by (go_simp; try with_reducible rfl)⟩, _, by (go_simp; try rfl), ?_⟩
  refine wpAnyR_only 19 rfl (by kernel_rfl) (by rfl) (fun K hK => ?_)
  go_simp
  refine (knows34_any _).mono ?_
  rintro e V19 ⟨rfl, hA⟩
  replace hT := hid (bthen hT.out hA)
  replace ra := hid (held_after hA ra.out)
  replace rb := hid (held_after hA rb.out)
  go_simp
  refine hK _ _ ⟨hA, ?_⟩
  clear hK
  clear hA
  refine wpAnyR_take 20 rfl (by kernel_rfl) (by kernel_rfl) (by kernel_rfl) (fun _ _ _ _ h => h) ⟨_, Or.inl ⟨by rfl, fun w2 hb2 => by (go_simp; try with_reducible rfl)⟩, _, by (go_simp; try rfl), ?_⟩
  refine wpAnyR_take 21 rfl (by kernel_rfl) (by kernel_rfl) (by kernel_rfl) (fun _ _ _ _ h => h) ⟨_, Or.inl ⟨by rfl, fun w2 hb2 => by (go_simp; try with_reducible rfl)⟩, _, by (go_simp; try rfl), ?_⟩
  refine wpAnyR_done (by kernel_rfl) ?_ _
  go_wp2_with fail
  go_ret
  exact ⟨ret_bool (by simp), bthen hB.out hT.out⟩
end Go.Proofs.Ytnoifpdjfpbmjaa
