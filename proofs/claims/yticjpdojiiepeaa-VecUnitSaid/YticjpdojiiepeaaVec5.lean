/- Package vec and its reference: products, lengths. -/
import Derived.Test.YticjpdojiiepeaaVec4
namespace Go.Proofs.Yticjpdojiiepeaa
open Go.ChangeShapes Go.WideShapes Go.ChangeAt Go.RowKit
set_option linter.unusedVariables false

theorem sl_lit3 (k : IntKind) (E : TypeId) (w : World) (x y z : Int) : Sl k (w.alloc (.cells #[.int k x, .int k y, .int k z] E)) (some ⟨w.heap.size, 0, none⟩) 3 3 [x, y, z] := by
  obtain ⟨a, cap, hv, hs⟩ := (Own.lit k E w [x, y, z] w.heap.size (Nat.le_refl _) (by unfold maxLen; simp) #[.int k x, .int k y, .int k z] rfl).sl
  cases hv
  exact hs
theorem i32_wf {n : Int} (h : B32 n) : (Lit.int .i32 n).wf = true := by
  have h3 : IntKind.i32.min = -2147483648 := rfl
  have h4 : IntKind.i32.max = 2147483647 := rfl
  simp [Lit.wf, h3, h4]; exact h
theorem wf3 {x y z : Int} (p0 : B32 x) (p1 : B32 y) (p2 : B32 z) : ∀ n ∈ [x, y, z], (Lit.int .i32 n).wf = true := by
  intro n hn
  simp at hn
  rcases hn with rfl | rfl | rfl
  · exact i32_wf p0
  · exact i32_wf p1
  · exact i32_wf p2

set_option maxRecDepth 100000 in
set_option maxHeartbeats 4000000 in
theorem rcross_any (x y z a b c : Int) (w : World) (p0 : B32 x) (p1 : B32 y) (p2 : B32 z) (q0 : B32 a) (q1 : B32 b) (q2 : B32 c) :
    Calls Try.prog 17 #[.agg #[.int .i32 x, .int .i32 y, .int .i32 z], .agg #[.int .i32 a, .int .i32 b, .int .i32 c], .int .i64 16] w fun e w' => e = .returned (cut3 (crossN x y z a b c)) ∧ Below w.heap.size w w' := by
  obtain ⟨W, hW, hB, hN, c0, c1, c2, d0, d1, d2, x0, x1, x2, -, hf⟩ := boxes w 23 23 23 (.int .i32 x) (.int .i32 y) (.int .i32 z) (.int .i32 a) (.int .i32 b) (.int .i32 c) (.int .i32 0) (.int .i32 0) (.int .i32 0)
  have y0 := hf 0
  have y1 := hf 1
  have y2 := hf 2
  clear hf
  have h1 := hid (fun (v : World) => times_any y c 16 v p1 q2)
  have h2 := hid (fun (v : World) => times_any z b 16 v p2 q1)
  have h3 := hid (fun (v : World) => times_any z a 16 v p2 q0)
  have h4 := hid (fun (v : World) => times_any x c 16 v p0 q2)
  have h5 := hid (fun (v : World) => times_any x b 16 v p0 q1)
  have h6 := hid (fun (v : World) => times_any y a 16 v p1 q0)
  have b1 := round16_bd y c p1 q2
  have b2 := round16_bd z b p2 q1
  have b3 := round16_bd z a p2 q0
  have b4 := round16_bd x c p0 q2
  have b5 := round16_bd x b p0 q1
  have b6 := round16_bd y a p1 q0
  have hV : cut3 (crossN x y z a b c) = cut3 (fun i => sel i (roundS (y * c) 16 - roundS (z * b) 16) (roundS (z * a) 16 - roundS (x * c) 16) (roundS (x * b) 16 - roundS (y * a) 16)) := rfl
  rw [hV]
  clear hV
  generalize roundS (y * c) 16 = r1 at *
  generalize roundS (z * b) 16 = r2 at *
  generalize roundS (z * a) 16 = r3 at *
  generalize roundS (x * c) 16 = r4 at *
  generalize roundS (x * b) 16 = r5 at *
  generalize roundS (y * a) 16 = r6 at *
  have f1 : IntKind.i64.wrap (r1 - r2) = r1 - r2 := by rw [IntKind.wrap_i64]; omega
  have f2 : IntKind.i64.wrap (r3 - r4) = r3 - r4 := by rw [IntKind.wrap_i64]; omega
  have f3 : IntKind.i64.wrap (r5 - r6) = r5 - r6 := by rw [IntKind.wrap_i64]; omega
  have hC := hid (fun (v : World) => cut_any (r1 - r2) (r3 - r4) (r5 - r6) v (by omega) (by omega) (by omega))
  have hV2 : cut3 (fun i => sel i (r1 - r2) (r3 - r4) (r5 - r6)) = .tuple #[.agg #[.int .i32 (clampS (r1 - r2)), .int .i32 (clampS (r3 - r4)), .int .i32 (clampS (r5 - r6))], .int .i64 (cuts (fun i => sel i (r1 - r2) (r3 - r4) (r5 - r6)) 3)] := rfl
  generalize clampS (r1 - r2) = s0 at *
  generalize clampS (r3 - r4) = s1 at *
  generalize clampS (r5 - r6) = s2 at *
  generalize cuts (fun i => sel i (r1 - r2) (r3 - r4) (r5 - r6)) 3 = cn at *
  replace hV2 := hid hV2
  clear p0 p1 p2 q0 q1 q2 b1 b2 b3 b4 b5 b6
  go_enter Try.func17, Try.ntmps17
  go_wp2_with fail
  have hst : After W W.drew := (Below.refl _ _).drew
  replace y0 := After.frozenB hst x0 y0
  replace y1 := After.frozenB hst x1 y1
  replace y2 := After.frozenB hst x2 y2
  replace c0 := After.cellB hst c0
  replace c1 := After.cellB hst c1
  replace c2 := After.cellB hst c2
  replace d0 := After.cellB hst d0
  replace d1 := After.cellB hst d1
  replace d2 := After.cellB hst d2
  replace x0 := After.cellB hst x0
  replace x1 := After.cellB hst x1
  replace x2 := After.cellB hst x2
  replace hB := bthen hB hst
  replace hN := Nat.le_trans hN (Below.size hst)
  clear hst
  refine wp_region_K (N := w.heap.size + 3) (X := [w.heap.size + 1 + 1]) (by kernel_rfl) ?_
  generalize W.drew = U at *
  refine wpAnyK_take 0 rfl (by kernel_rfl) (by kernel_rfl) (by kernel_rfl) (fun _ _ _ _ h => h) ⟨_, Or.inl ⟨by rfl, fun w' hb => by (go_simp; try with_reducible rfl)⟩, _, by (go_simp; try rfl), ?_⟩
  refine wpAnyK_take 1 rfl (by kernel_rfl) (by kernel_rfl) (by kernel_rfl) (fun _ _ _ _ h => h) ⟨_, Or.inl ⟨by rfl, fun w' hb => by (have h0 := hb.cellB (by simp) (by simp <;> omega) c1; go_simp; try with_reducible rfl)⟩, _, by (go_simp; try rfl), ?_⟩
  refine wpAnyK_take 2 rfl (by kernel_rfl) (by kernel_rfl) (by kernel_rfl) (fun _ _ _ _ h => h) ⟨_, Or.inl ⟨by rfl, fun w' hb => by (go_simp; try with_reducible rfl)⟩, _, by (go_simp; try rfl), ?_⟩
  refine wpAnyK_take 3 rfl (by kernel_rfl) (by kernel_rfl) (by kernel_rfl) (fun _ _ _ _ h => h) ⟨_, Or.inl ⟨by rfl, fun w' hb => by (have h0 := hb.cellB (by simp) (by simp <;> omega) d2; go_simp; try with_reducible rfl)⟩, _, by (go_simp; try rfl), ?_⟩
  refine wpAnyK_take 4 rfl (by kernel_rfl) (by kernel_rfl) (by kernel_rfl) (fun _ _ _ _ h => h) ⟨_, Or.inl ⟨by rfl, fun w' hb => by (go_simp; try with_reducible rfl)⟩, _, by (go_simp; try rfl), ?_⟩
  refine wpAnyK_take 6 rfl (by kernel_rfl) (by kernel_rfl) (by kernel_rfl) (fun _ _ _ _ h => h) ⟨_, Or.inl ⟨by rfl, fun w' hb => by (go_simp; try with_reducible rfl)⟩, _, by (go_simp; try rfl), ?_⟩
  refine wpAnyK_take 7 rfl (by kernel_rfl) (by kernel_rfl) (by kernel_rfl) (fun _ _ _ _ h => h) ⟨_, Or.inl ⟨by rfl, fun w' hb => by (have h0 := hb.cellB (by simp) (by simp <;> omega) c2; go_simp; try with_reducible rfl)⟩, _, by (go_simp; try rfl), ?_⟩
  refine wpAnyK_take 8 rfl (by kernel_rfl) (by kernel_rfl) (by kernel_rfl) (fun _ _ _ _ h => h) ⟨_, Or.inl ⟨by rfl, fun w' hb => by (go_simp; try with_reducible rfl)⟩, _, by (go_simp; try rfl), ?_⟩
  refine wpAnyK_take 9 rfl (by kernel_rfl) (by kernel_rfl) (by kernel_rfl) (fun _ _ _ _ h => h) ⟨_, Or.inl ⟨by rfl, fun w' hb => by (have h0 := hb.cellB (by simp) (by simp <;> omega) d1; go_simp; try with_reducible rfl)⟩, _, by (go_simp; try rfl), ?_⟩
  refine wpAnyK_take 10 rfl (by kernel_rfl) (by kernel_rfl) (by kernel_rfl) (fun _ _ _ _ h => h) ⟨_, Or.inl ⟨by rfl, fun w' hb => by (go_simp; try with_reducible rfl)⟩, _, by (go_simp; try rfl), ?_⟩
  refine wpAnyK_only 5 rfl (by kernel_rfl) (by rfl) (fun K hK => ?_)
  go_simp
  refine (h1.out _).mono ?_
  rintro e U ⟨rfl, rfl⟩
  go_wp2_with fail
  refine ⟨Kp.refl _ _ _, ?_⟩
  refine wpAnyK_only 11 rfl (by kernel_rfl) (by rfl) (fun K hK => ?_)
  go_simp
  refine (h2.out _).mono ?_
  rintro e U ⟨rfl, rfl⟩
  go_wp2_with fail
  refine ⟨Kp.refl _ _ _, ?_⟩
  refine wpAnyK_take 12 rfl (by kernel_rfl) (by kernel_rfl) (by kernel_rfl) (fun _ _ _ _ h => h) ⟨_, Or.inl ⟨by rfl, fun w' hb => by (go_simp; try with_reducible rfl)⟩, _, by (go_simp; try rfl), ?_⟩
  refine wpAnyK_take 13 rfl (by kernel_rfl) (by kernel_rfl) (by kernel_rfl) (fun _ _ _ _ h => h) ⟨_, Or.inl ⟨by rfl, fun w' hb => by (go_simp; try with_reducible rfl)⟩, _, by (go_simp; try rfl), ?_⟩
  refine wpAnyK_done (by kernel_rfl) ?_ _
  go_wp2_with fail
  have hst : After U U.drew := (Below.refl _ _).drew
  replace y0 := After.frozenB hst x0 y0
  replace y1 := After.frozenB hst x1 y1
  replace y2 := After.frozenB hst x2 y2
  replace c0 := After.cellB hst c0
  replace c1 := After.cellB hst c1
  replace c2 := After.cellB hst c2
  replace d0 := After.cellB hst d0
  replace d1 := After.cellB hst d1
  replace d2 := After.cellB hst d2
  replace x0 := After.cellB hst x0
  replace x1 := After.cellB hst x1
  replace x2 := After.cellB hst x2
  replace hB := bthen hB hst
  replace hN := Nat.le_trans hN (Below.size hst)
  clear hst
  refine wp_region_K (N := w.heap.size + 3) (X := [w.heap.size + 1 + 1]) (by kernel_rfl) ?_
  generalize U.drew = U at *
  refine wpAnyK_take 0 rfl (by kernel_rfl) (by kernel_rfl) (by kernel_rfl) (fun _ _ _ _ h => h) ⟨_, Or.inl ⟨by rfl, fun w' hb => by (go_simp; try with_reducible rfl)⟩, _, by (go_simp; try rfl), ?_⟩
  refine wpAnyK_take 1 rfl (by kernel_rfl) (by kernel_rfl) (by kernel_rfl) (fun _ _ _ _ h => h) ⟨_, Or.inl ⟨by rfl, fun w' hb => by (have h0 := hb.cellB (by simp) (by simp <;> omega) c2; go_simp; try with_reducible rfl)⟩, _, by (go_simp; try rfl), ?_⟩
  refine wpAnyK_take 2 rfl (by kernel_rfl) (by kernel_rfl) (by kernel_rfl) (fun _ _ _ _ h => h) ⟨_, Or.inl ⟨by rfl, fun w' hb => by (go_simp; try with_reducible rfl)⟩, _, by (go_simp; try rfl), ?_⟩
  refine wpAnyK_take 3 rfl (by kernel_rfl) (by kernel_rfl) (by kernel_rfl) (fun _ _ _ _ h => h) ⟨_, Or.inl ⟨by rfl, fun w' hb => by (have h0 := hb.cellB (by simp) (by simp <;> omega) d0; go_simp; try with_reducible rfl)⟩, _, by (go_simp; try rfl), ?_⟩
  refine wpAnyK_take 4 rfl (by kernel_rfl) (by kernel_rfl) (by kernel_rfl) (fun _ _ _ _ h => h) ⟨_, Or.inl ⟨by rfl, fun w' hb => by (go_simp; try with_reducible rfl)⟩, _, by (go_simp; try rfl), ?_⟩
  refine wpAnyK_take 6 rfl (by kernel_rfl) (by kernel_rfl) (by kernel_rfl) (fun _ _ _ _ h => h) ⟨_, Or.inl ⟨by rfl, fun w' hb => by (go_simp; try with_reducible rfl)⟩, _, by (go_simp; try rfl), ?_⟩
  refine wpAnyK_take 7 rfl (by kernel_rfl) (by kernel_rfl) (by kernel_rfl) (fun _ _ _ _ h => h) ⟨_, Or.inl ⟨by rfl, fun w' hb => by (have h0 := hb.cellB (by simp) (by simp <;> omega) c0; go_simp; try with_reducible rfl)⟩, _, by (go_simp; try rfl), ?_⟩
  refine wpAnyK_take 8 rfl (by kernel_rfl) (by kernel_rfl) (by kernel_rfl) (fun _ _ _ _ h => h) ⟨_, Or.inl ⟨by rfl, fun w' hb => by (go_simp; try with_reducible rfl)⟩, _, by (go_simp; try rfl), ?_⟩
  refine wpAnyK_take 9 rfl (by kernel_rfl) (by kernel_rfl) (by kernel_rfl) (fun _ _ _ _ h => h) ⟨_, Or.inl ⟨by rfl, fun w' hb => by (have h0 := hb.cellB (by simp) (by simp <;> omega) d2; go_simp; try with_reducible rfl)⟩, _, by (go_simp; try rfl), ?_⟩
  refine wpAnyK_take 10 rfl (by kernel_rfl) (by kernel_rfl) (by kernel_rfl) (fun _ _ _ _ h => h) ⟨_, Or.inl ⟨by rfl, fun w' hb => by (go_simp; try with_reducible rfl)⟩, _, by (go_simp; try rfl), ?_⟩
  refine wpAnyK_only 5 rfl (by kernel_rfl) (by rfl) (fun K hK => ?_)
  go_simp
  refine (h3.out _).mono ?_
  rintro e U ⟨rfl, rfl⟩
  go_wp2_with fail
  refine ⟨Kp.refl _ _ _, ?_⟩
  refine wpAnyK_only 11 rfl (by kernel_rfl) (by rfl) (fun K hK => ?_)
  go_simp
  refine (h4.out _).mono ?_
  rintro e U ⟨rfl, rfl⟩
  go_wp2_with fail
  refine ⟨Kp.refl _ _ _, ?_⟩
  refine wpAnyK_take 12 rfl (by kernel_rfl) (by kernel_rfl) (by kernel_rfl) (fun _ _ _ _ h => h) ⟨_, Or.inl ⟨by rfl, fun w' hb => by (go_simp; try with_reducible rfl)⟩, _, by (go_simp; try rfl), ?_⟩
  refine wpAnyK_take 13 rfl (by kernel_rfl) (by kernel_rfl) (by kernel_rfl) (fun _ _ _ _ h => h) ⟨_, Or.inl ⟨by rfl, fun w' hb => by (go_simp; try with_reducible rfl)⟩, _, by (go_simp; try rfl), ?_⟩
  refine wpAnyK_done (by kernel_rfl) ?_ _
  go_wp2_with fail
  have hst : After U U.drew := (Below.refl _ _).drew
  replace y0 := After.frozenB hst x0 y0
  replace y1 := After.frozenB hst x1 y1
  replace y2 := After.frozenB hst x2 y2
  replace c0 := After.cellB hst c0
  replace c1 := After.cellB hst c1
  replace c2 := After.cellB hst c2
  replace d0 := After.cellB hst d0
  replace d1 := After.cellB hst d1
  replace d2 := After.cellB hst d2
  replace x0 := After.cellB hst x0
  replace x1 := After.cellB hst x1
  replace x2 := After.cellB hst x2
  replace hB := bthen hB hst
  replace hN := Nat.le_trans hN (Below.size hst)
  clear hst
  refine wp_region_K (N := w.heap.size + 3) (X := [w.heap.size + 1 + 1]) (by kernel_rfl) ?_
  generalize U.drew = U at *
  refine wpAnyK_take 0 rfl (by kernel_rfl) (by kernel_rfl) (by kernel_rfl) (fun _ _ _ _ h => h) ⟨_, Or.inl ⟨by rfl, fun w' hb => by (go_simp; try with_reducible rfl)⟩, _, by (go_simp; try rfl), ?_⟩
  refine wpAnyK_take 1 rfl (by kernel_rfl) (by kernel_rfl) (by kernel_rfl) (fun _ _ _ _ h => h) ⟨_, Or.inl ⟨by rfl, fun w' hb => by (have h0 := hb.cellB (by simp) (by simp <;> omega) c0; go_simp; try with_reducible rfl)⟩, _, by (go_simp; try rfl), ?_⟩
  refine wpAnyK_take 2 rfl (by kernel_rfl) (by kernel_rfl) (by kernel_rfl) (fun _ _ _ _ h => h) ⟨_, Or.inl ⟨by rfl, fun w' hb => by (go_simp; try with_reducible rfl)⟩, _, by (go_simp; try rfl), ?_⟩
  refine wpAnyK_take 3 rfl (by kernel_rfl) (by kernel_rfl) (by kernel_rfl) (fun _ _ _ _ h => h) ⟨_, Or.inl ⟨by rfl, fun w' hb => by (have h0 := hb.cellB (by simp) (by simp <;> omega) d1; go_simp; try with_reducible rfl)⟩, _, by (go_simp; try rfl), ?_⟩
  refine wpAnyK_take 4 rfl (by kernel_rfl) (by kernel_rfl) (by kernel_rfl) (fun _ _ _ _ h => h) ⟨_, Or.inl ⟨by rfl, fun w' hb => by (go_simp; try with_reducible rfl)⟩, _, by (go_simp; try rfl), ?_⟩
  refine wpAnyK_take 6 rfl (by kernel_rfl) (by kernel_rfl) (by kernel_rfl) (fun _ _ _ _ h => h) ⟨_, Or.inl ⟨by rfl, fun w' hb => by (go_simp; try with_reducible rfl)⟩, _, by (go_simp; try rfl), ?_⟩
  refine wpAnyK_take 7 rfl (by kernel_rfl) (by kernel_rfl) (by kernel_rfl) (fun _ _ _ _ h => h) ⟨_, Or.inl ⟨by rfl, fun w' hb => by (have h0 := hb.cellB (by simp) (by simp <;> omega) c1; go_simp; try with_reducible rfl)⟩, _, by (go_simp; try rfl), ?_⟩
  refine wpAnyK_take 8 rfl (by kernel_rfl) (by kernel_rfl) (by kernel_rfl) (fun _ _ _ _ h => h) ⟨_, Or.inl ⟨by rfl, fun w' hb => by (go_simp; try with_reducible rfl)⟩, _, by (go_simp; try rfl), ?_⟩
  refine wpAnyK_take 9 rfl (by kernel_rfl) (by kernel_rfl) (by kernel_rfl) (fun _ _ _ _ h => h) ⟨_, Or.inl ⟨by rfl, fun w' hb => by (have h0 := hb.cellB (by simp) (by simp <;> omega) d0; go_simp; try with_reducible rfl)⟩, _, by (go_simp; try rfl), ?_⟩
  refine wpAnyK_take 10 rfl (by kernel_rfl) (by kernel_rfl) (by kernel_rfl) (fun _ _ _ _ h => h) ⟨_, Or.inl ⟨by rfl, fun w' hb => by (go_simp; try with_reducible rfl)⟩, _, by (go_simp; try rfl), ?_⟩
  refine wpAnyK_only 5 rfl (by kernel_rfl) (by rfl) (fun K hK => ?_)
  go_simp
  refine (h5.out _).mono ?_
  rintro e U ⟨rfl, rfl⟩
  go_wp2_with fail
  refine ⟨Kp.refl _ _ _, ?_⟩
  refine wpAnyK_only 11 rfl (by kernel_rfl) (by rfl) (fun K hK => ?_)
  go_simp
  refine (h6.out _).mono ?_
  rintro e U ⟨rfl, rfl⟩
  go_wp2_with fail
  refine ⟨Kp.refl _ _ _, ?_⟩
  refine wpAnyK_take 12 rfl (by kernel_rfl) (by kernel_rfl) (by kernel_rfl) (fun _ _ _ _ h => h) ⟨_, Or.inl ⟨by rfl, fun w' hb => by (go_simp; try with_reducible rfl)⟩, _, by (go_simp; try rfl), ?_⟩
  refine wpAnyK_take 13 rfl (by kernel_rfl) (by kernel_rfl) (by kernel_rfl) (fun _ _ _ _ h => h) ⟨_, Or.inl ⟨by rfl, fun w' hb => by (go_simp; try with_reducible rfl)⟩, _, by (go_simp; try rfl), ?_⟩
  refine wpAnyK_done (by kernel_rfl) ?_ _
  go_wp2_with fail
  refine (hC.out _).mono ?_
  rintro e v1 ⟨rfl, hst⟩
  replace y0 := After.frozenB hst x0 y0
  replace y1 := After.frozenB hst x1 y1
  replace y2 := After.frozenB hst x2 y2
  replace x0 := After.cellB hst x0
  replace x1 := After.cellB hst x1
  replace x2 := After.cellB hst x2
  replace hB := bthen hB hst
  clear hst c0 c1 c2 d0 d1 d2 hN
  rw [hV2.out]
  have hst := aalloc v1 (.cells #[.int .i32 s0, .int .i32 s1, .int .i32 s2] 23)
  replace y0 := After.frozenB hst x0 y0
  replace y1 := After.frozenB hst x1 y1
  replace y2 := After.frozenB hst x2 y2
  replace x0 := After.cellB hst x0
  replace x1 := After.cellB hst x1
  replace x2 := After.cellB hst x2
  replace hB := bthen hB hst
  clear hst
  go_wp2_with fail
  refine bodyPost_ret (v := .tuple #[.agg #[.int .i32 s0, .int .i32 s1, .int .i32 s2], .int .i64 cn]) (by simp [results, Try.results17, go_sem, x0, x1, x2]) rfl ⟨by rw [hV2.out], ?_⟩
  exact below3 hB _ _ _ _ (by omega)

/-- The product of two vectors, not cut. -/
def dotN (x y z a b c : Int) : Int := roundS (x * a) 16 + roundS (y * b) 16 + roundS (z * c) 16
theorem dot_bd (x y z a b c : Int) (p0 : B32 x) (p1 : B32 y) (p2 : B32 z) (q0 : B32 a) (q1 : B32 b) (q2 : B32 c) : -9223372036854775808 ≤ dotN x y z a b c ∧ dotN x y z a b c ≤ 9223372036854775807 := by
  have h1 := round16_bd x a p0 q0
  have h2 := round16_bd y b p1 q1
  have h3 := round16_bd z c p2 q2
  unfold dotN
  omega

set_option maxRecDepth 100000 in
set_option maxHeartbeats 4000000 in
theorem rdot_any (x y z a b c : Int) (w : World) (p0 : B32 x) (p1 : B32 y) (p2 : B32 z) (q0 : B32 a) (q1 : B32 b) (q2 : B32 c) :
    Calls Try.prog 15 #[.agg #[.int .i32 x, .int .i32 y, .int .i32 z], .agg #[.int .i32 a, .int .i32 b, .int .i32 c]] w fun e w' => e = .returned (clampV (dotN x y z a b c)) ∧ Below w.heap.size w w' := by
  obtain ⟨W, hW, hB, hN, c0, c1, c2, d0, d1, d2, -, -⟩ := boxes2 w 23 23 (.int .i32 x) (.int .i32 y) (.int .i32 z) (.int .i32 a) (.int .i32 b) (.int .i32 c)
  have h1 := hid (fun (v : World) => times_any x a 16 v p0 q0)
  have h2 := hid (fun (v : World) => times_any y b 16 v p1 q1)
  have h3 := hid (fun (v : World) => times_any z c 16 v p2 q2)
  have b1 := round16_bd x a p0 q0
  have b2 := round16_bd y b p1 q1
  have b3 := round16_bd z c p2 q2
  have hV : dotN x y z a b c = roundS (x * a) 16 + roundS (y * b) 16 + roundS (z * c) 16 := rfl
  rw [hV]
  clear hV
  generalize roundS (x * a) 16 = r1 at *
  generalize roundS (y * b) 16 = r2 at *
  generalize roundS (z * c) 16 = r3 at *
  have f1 : IntKind.i64.wrap (r1 + r2) = r1 + r2 := by rw [IntKind.wrap_i64]; omega
  have f2 : IntKind.i64.wrap (r1 + r2 + r3) = r1 + r2 + r3 := by rw [IntKind.wrap_i64]; omega
  have h4 := hid (fun (v : World) => rclamp_any (r1 + r2 + r3) v (by omega) (by omega))
  clear p0 p1 p2 q0 q1 q2 b1 b2 b3
  go_enter Try.func15, Try.ntmps15
  go_wp2_with fail
  have hst : After W W.drew := (Below.refl _ _).drew
  replace c0 := After.cellB hst c0
  replace c1 := After.cellB hst c1
  replace c2 := After.cellB hst c2
  replace d0 := After.cellB hst d0
  replace d1 := After.cellB hst d1
  replace d2 := After.cellB hst d2
  replace hB := bthen hB hst
  replace hN := Nat.le_trans hN (Below.size hst)
  clear hst
  refine wp_region_K (N := w.heap.size + 2) (X := []) (by kernel_rfl) ?_
  generalize W.drew = U at *
  refine wpAnyK_take 0 rfl (by kernel_rfl) (by kernel_rfl) (by kernel_rfl) (fun _ _ _ _ h => h) ⟨_, Or.inl ⟨by rfl, fun w' hb => by (go_simp; try with_reducible rfl)⟩, _, by (go_simp; try rfl), ?_⟩
  refine wpAnyK_take 1 rfl (by kernel_rfl) (by kernel_rfl) (by kernel_rfl) (fun _ _ _ _ h => h) ⟨_, Or.inl ⟨by rfl, fun w' hb => by (have h0 := hb.cellB (by simp) (by simp <;> omega) c0; go_simp; try with_reducible rfl)⟩, _, by (go_simp; try rfl), ?_⟩
  refine wpAnyK_take 2 rfl (by kernel_rfl) (by kernel_rfl) (by kernel_rfl) (fun _ _ _ _ h => h) ⟨_, Or.inl ⟨by rfl, fun w' hb => by (go_simp; try with_reducible rfl)⟩, _, by (go_simp; try rfl), ?_⟩
  refine wpAnyK_take 3 rfl (by kernel_rfl) (by kernel_rfl) (by kernel_rfl) (fun _ _ _ _ h => h) ⟨_, Or.inl ⟨by rfl, fun w' hb => by (have h0 := hb.cellB (by simp) (by simp <;> omega) d0; go_simp; try with_reducible rfl)⟩, _, by (go_simp; try rfl), ?_⟩
  refine wpAnyK_take 5 rfl (by kernel_rfl) (by kernel_rfl) (by kernel_rfl) (fun _ _ _ _ h => h) ⟨_, Or.inl ⟨by rfl, fun w' hb => by (go_simp; try with_reducible rfl)⟩, _, by (go_simp; try rfl), ?_⟩
  refine wpAnyK_take 6 rfl (by kernel_rfl) (by kernel_rfl) (by kernel_rfl) (fun _ _ _ _ h => h) ⟨_, Or.inl ⟨by rfl, fun w' hb => by (have h0 := hb.cellB (by simp) (by simp <;> omega) c1; go_simp; try with_reducible rfl)⟩, _, by (go_simp; try rfl), ?_⟩
  refine wpAnyK_take 7 rfl (by kernel_rfl) (by kernel_rfl) (by kernel_rfl) (fun _ _ _ _ h => h) ⟨_, Or.inl ⟨by rfl, fun w' hb => by (go_simp; try with_reducible rfl)⟩, _, by (go_simp; try rfl), ?_⟩
  refine wpAnyK_take 8 rfl (by kernel_rfl) (by kernel_rfl) (by kernel_rfl) (fun _ _ _ _ h => h) ⟨_, Or.inl ⟨by rfl, fun w' hb => by (have h0 := hb.cellB (by simp) (by simp <;> omega) d1; go_simp; try with_reducible rfl)⟩, _, by (go_simp; try rfl), ?_⟩
  refine wpAnyK_take 11 rfl (by kernel_rfl) (by kernel_rfl) (by kernel_rfl) (fun _ _ _ _ h => h) ⟨_, Or.inl ⟨by rfl, fun w' hb => by (go_simp; try with_reducible rfl)⟩, _, by (go_simp; try rfl), ?_⟩
  refine wpAnyK_take 12 rfl (by kernel_rfl) (by kernel_rfl) (by kernel_rfl) (fun _ _ _ _ h => h) ⟨_, Or.inl ⟨by rfl, fun w' hb => by (have h0 := hb.cellB (by simp) (by simp <;> omega) c2; go_simp; try with_reducible rfl)⟩, _, by (go_simp; try rfl), ?_⟩
  refine wpAnyK_take 13 rfl (by kernel_rfl) (by kernel_rfl) (by kernel_rfl) (fun _ _ _ _ h => h) ⟨_, Or.inl ⟨by rfl, fun w' hb => by (go_simp; try with_reducible rfl)⟩, _, by (go_simp; try rfl), ?_⟩
  refine wpAnyK_take 14 rfl (by kernel_rfl) (by kernel_rfl) (by kernel_rfl) (fun _ _ _ _ h => h) ⟨_, Or.inl ⟨by rfl, fun w' hb => by (have h0 := hb.cellB (by simp) (by simp <;> omega) d2; go_simp; try with_reducible rfl)⟩, _, by (go_simp; try rfl), ?_⟩
  refine wpAnyK_only 4 rfl (by kernel_rfl) (by rfl) (fun K hK => ?_)
  go_simp
  refine (h1.out _).mono ?_
  rintro e U ⟨rfl, rfl⟩
  go_wp2_with fail
  refine ⟨Kp.refl _ _ _, ?_⟩
  refine wpAnyK_only 9 rfl (by kernel_rfl) (by rfl) (fun K hK => ?_)
  go_simp
  refine (h2.out _).mono ?_
  rintro e U ⟨rfl, rfl⟩
  go_wp2_with fail
  refine ⟨Kp.refl _ _ _, ?_⟩
  refine wpAnyK_take 10 rfl (by kernel_rfl) (by kernel_rfl) (by kernel_rfl) (fun _ _ _ _ h => h) ⟨_, Or.inl ⟨by rfl, fun w' hb => by (go_simp; try with_reducible rfl)⟩, _, by (go_simp; try rfl), ?_⟩
  refine wpAnyK_only 15 rfl (by kernel_rfl) (by rfl) (fun K hK => ?_)
  go_simp
  refine (h3.out _).mono ?_
  rintro e U ⟨rfl, rfl⟩
  go_wp2_with fail
  refine ⟨Kp.refl _ _ _, ?_⟩
  refine wpAnyK_take 16 rfl (by kernel_rfl) (by kernel_rfl) (by kernel_rfl) (fun _ _ _ _ h => h) ⟨_, Or.inl ⟨by rfl, fun w' hb => by (go_simp; try with_reducible rfl)⟩, _, by (go_simp; try rfl), ?_⟩
  refine wpAnyK_only 17 rfl (by kernel_rfl) (by rfl) (fun K hK => ?_)
  go_simp
  refine (h4.out _).mono ?_
  rintro e U ⟨rfl, rfl⟩
  rw [clampV_def]
  go_wp2_with fail
  refine ⟨Kp.refl _ _ _, ?_⟩
  refine wpAnyK_take 18 rfl (by kernel_rfl) (by kernel_rfl) (by kernel_rfl) (fun _ _ _ _ h => h) ⟨_, Or.inl ⟨by rfl, fun w' hb => by (go_simp; try with_reducible rfl)⟩, _, by (go_simp; try rfl), ?_⟩
  refine wpAnyK_take 19 rfl (by kernel_rfl) (by kernel_rfl) (by kernel_rfl) (fun _ _ _ _ h => h) ⟨_, Or.inl ⟨by rfl, fun w' hb => by (go_simp; try with_reducible rfl)⟩, _, by (go_simp; try rfl), ?_⟩
  refine wpAnyK_take 20 rfl (by kernel_rfl) (by kernel_rfl) (by kernel_rfl) (fun _ _ _ _ h => h) ⟨_, Or.inl ⟨by rfl, fun w' hb => by (go_simp; try with_reducible rfl)⟩, _, by (go_simp; try rfl), ?_⟩
  refine wpAnyK_take 21 rfl (by kernel_rfl) (by kernel_rfl) (by kernel_rfl) (fun _ _ _ _ h => h) ⟨_, Or.inl ⟨by rfl, fun w' hb => by (go_simp; try with_reducible rfl)⟩, _, by (go_simp; try rfl), ?_⟩
  refine wpAnyK_done (by kernel_rfl) ?_ _
  go_wp2_with fail
  go_ret2
  exact ⟨rfl, hB⟩

theorem vlength_any (x y z : Int) (w : World) (p0 : B32 x) (p1 : B32 y) (p2 : B32 z) :
    Calls Try.prog 20 #[.agg #[.int .i32 x, .int .i32 y, .int .i32 z]] w fun e w' => e = .returned (.int .u32 (lengthS [x, y, z])) ∧ Below w.heap.size w w' := by
  have hb := ((Below.refl w.heap.size w).alloc (Nat.le_refl _) (.cells #[.int .i32 x, .int .i32 y, .int .i32 z] 23)).alloc (by simp) (.cells #[.int .i32 x, .int .i32 y, .int .i32 z] 21)
  have hs := sl_lit3 .i32 21 (w.alloc (.cells #[.int .i32 x, .int .i32 y, .int .i32 z] 23)) x y z
  simp only [World.size_alloc] at hs
  have hz : ∀ n ∈ [x, y, z], (Lit.int .i32 n).wf = true := wf3 p0 p1 p2
  replace hz := hid hz
  obtain ⟨L, hL⟩ : ∃ L, lengthS [x, y, z] = L := ⟨_, rfl⟩
  rw [hL]
  replace hL := hid hL
  go_enter Try.func20, Try.ntmps20
  go_wp2_with fail
  refine (length_any _ 3 [x, y, z] _ (by show 3 ≤ 1000; omega) hs.2.2.2.2 hz.out).mono ?_
  rintro e v ⟨rfl, rfl⟩
  rw [hL.out]
  go_wp2_with fail
  go_ret
  exact ⟨rfl, hb⟩

theorem rvlength_any (x y z : Int) (w : World) (p0 : B32 x) (p1 : B32 y) (p2 : B32 z) :
    Calls Try.prog 21 #[.agg #[.int .i32 x, .int .i32 y, .int .i32 z]] w fun e w' => e = .returned (.int .u32 (lengthS [x, y, z])) ∧ Below w.heap.size w w' := by
  have hb := ((Below.refl w.heap.size w).alloc (Nat.le_refl _) (.cells #[.int .i32 x, .int .i32 y, .int .i32 z] 23)).alloc (by simp) (.cells #[.int .i32 x, .int .i32 y, .int .i32 z] 21)
  have hs := sl_lit3 .i32 21 (w.alloc (.cells #[.int .i32 x, .int .i32 y, .int .i32 z] 23)) x y z
  simp only [World.size_alloc] at hs
  have hz : ∀ n ∈ [x, y, z], (Lit.int .i32 n).wf = true := wf3 p0 p1 p2
  replace hz := hid hz
  obtain ⟨L, hL⟩ : ∃ L, lengthS [x, y, z] = L := ⟨_, rfl⟩
  rw [hL]
  replace hL := hid hL
  go_enter Try.func21, Try.ntmps21
  go_wp2_with fail
  refine (rlength_any _ 3 [x, y, z] _ (by show 3 ≤ 1000; omega) hs.2.2.2.2 hz.out).mono ?_
  rintro e v ⟨rfl, k, rfl⟩
  rw [hL.out]
  go_wp2_with fail
  go_ret
  exact ⟨rfl, bdrewN hb k⟩

end Go.Proofs.Yticjpdojiiepeaa
