/- Package turn: spin. -/
import Derived.Test.YticfolcpnkkidaaTurn6
import Derived.Deep.DeepCutAuto
namespace Go.Proofs.Yticfolcpnkkidaa
open Go.ChangeShapes Go.WideShapes Go.ChangeAt Go.RowKit
set_option linter.unusedVariables false

theorem tdiv_le (y p : Int) : -(y.natAbs : Int) ≤ y.tdiv p ∧ y.tdiv p ≤ y.natAbs := by
  have h : (y.tdiv p).natAbs ≤ y.natAbs := by rw [Int.natAbs_tdiv]; exact Nat.div_le_self _ _
  omega
set_option maxRecDepth 100000 in
set_option maxHeartbeats 1000000 in
theorem spinp_any (x y p : Int) (k : Nat) (w : World) (hk : k < 31) (hp : (2 : Int) ^ k = p) (p1 : 1 ≤ p) (p2 : p ≤ 1073741824) (x1 : -2305843009213693952 ≤ x) (x2 : x ≤ 2305843009213693952) (y1 : -2305843009213693952 ≤ y) (y2 : y ≤ 2305843009213693952) :
    Calls Try.prog 43 #[.int .i64 x, .int .i64 y, .int .i64 k, .int .i64 (1)] w fun e w' => e = .returned (.tuple #[.int .i64 (x - y.tdiv p), .int .i64 (y + x.tdiv p)]) ∧ Below w.heap.size w w' := by
  have d1 := tdiv_le x p
  have d2 := tdiv_le y p
  have hw : IntKind.i64.wrap p = p := by rw [IntKind.wrap_i64]; omega
  have hp0 : (p == 0) = false := by simp; omega
  have hp1 : ¬ p = 0 := by omega
  obtain ⟨qy, hqy⟩ : ∃ q, y.tdiv p = q := ⟨_, rfl⟩
  obtain ⟨qx, hqx⟩ : ∃ q, x.tdiv p = q := ⟨_, rfl⟩
  rw [hqx] at d1
  rw [hqy] at d2
  rw [hqx, hqy]
  have f0 : IntKind.i64.wrap (qx) = qx := by rw [IntKind.wrap_i64]; omega
  have f1 : IntKind.i64.wrap (qy) = qy := by rw [IntKind.wrap_i64]; omega
  have f2 : IntKind.i64.wrap (-qx) = -qx := by rw [IntKind.wrap_i64]; omega
  have f3 : IntKind.i64.wrap (-qy) = -qy := by rw [IntKind.wrap_i64]; omega
  have f4 : IntKind.i64.wrap (x - qy) = x - qy := by rw [IntKind.wrap_i64]; omega
  have f5 : IntKind.i64.wrap (x + qy) = x + qy := by rw [IntKind.wrap_i64]; omega
  have f6 : IntKind.i64.wrap (y + qx) = y + qx := by rw [IntKind.wrap_i64]; omega
  have f7 : IntKind.i64.wrap (y - qx) = y - qx := by rw [IntKind.wrap_i64]; omega
  have f8 : IntKind.i64.wrap (x - -qy) = x + qy := by rw [IntKind.wrap_i64]; omega
  have f9 : IntKind.i64.wrap (y + -qx) = y - qx := by rw [IntKind.wrap_i64]; omega
  clear x1 x2 y1 y2 d1 d2
  go_enter Try.func43, Try.ntmps43
  go_upto_region 2 with (fail)
  apply wp_region_seg (w := w) (S := [.q [], .q [], .q [], .q [], .q [], .q [], .q [], .q [], .q [], .q [], .q [], .q [], .q [], .q [], .q [], .q []]) (E := [.q0 _, .q0 _, .q0 _, .q0 _, .q0 _, .q0 _, .q0 _, .q0 _, .q0 _, .q0 _, .q0 _, .q0 _, .q0 _, .q0 _, .q0 _, .q0 _]) (by kernel_rfl) rfl (by kernel_rfl) rfl rfl
  intro th hge hne
  refine Seg.step _ rfl (Or.inl ⟨by rfl, fun U hU => vp_quiet (by (go_simp <;> exact rfl))⟩) ⟨_, by (simp only [Ent.val]; go_simp <;> exact rfl), ?_⟩
  refine Seg.step _ rfl (Or.inl ⟨by rfl, fun U hU => vp_quiet (by (go_simp <;> exact rfl))⟩) ⟨_, by (simp only [Ent.val]; go_simp <;> exact rfl), ?_⟩
  refine Seg.step _ rfl (Or.inl ⟨by rfl, fun U hU => vp_quiet (by (go_simp <;> exact rfl))⟩) ⟨_, by (simp only [Ent.val]; go_simp <;> exact rfl), ?_⟩
  refine Seg.step _ rfl (Or.inl ⟨by rfl, fun U hU => vp_quiet (by (go_simp <;> exact rfl))⟩) ⟨_, by (simp only [Ent.val]; go_simp <;> exact rfl), ?_⟩
  refine Seg.step _ rfl (Or.inl ⟨by rfl, fun U hU => vp_quiet (by (go_simp <;> exact rfl))⟩) ⟨_, by (simp only [Ent.val]; go_simp <;> exact rfl), ?_⟩
  refine Seg.step _ rfl (Or.inl ⟨by rfl, fun U hU => vp_quiet (by (go_simp <;> exact rfl))⟩) ⟨_, by (simp only [Ent.val]; go_simp <;> exact rfl), ?_⟩
  refine Seg.step _ rfl (Or.inl ⟨by rfl, fun U hU => vp_quiet (by (go_simp <;> exact rfl))⟩) ⟨_, by (simp only [Ent.val]; go_simp <;> exact rfl), ?_⟩
  refine Seg.step _ rfl (Or.inl ⟨by rfl, fun U hU => vp_quiet (by (go_simp <;> exact rfl))⟩) ⟨_, by (simp only [Ent.val]; go_simp <;> exact rfl), ?_⟩
  refine Seg.step _ rfl (Or.inl ⟨by rfl, fun U hU => vp_quiet (by (go_simp <;> exact rfl))⟩) ⟨_, by (simp only [Ent.val]; go_simp <;> exact rfl), ?_⟩
  refine Seg.step _ rfl (Or.inl ⟨by rfl, fun U hU => vp_quiet (by (go_simp <;> exact rfl))⟩) ⟨_, by (simp only [Ent.val]; go_simp <;> exact rfl), ?_⟩
  refine Seg.step _ rfl (Or.inl ⟨by rfl, fun U hU => vp_quiet (by (go_simp <;> exact rfl))⟩) ⟨_, by (simp only [Ent.val]; go_simp <;> exact rfl), ?_⟩
  refine Seg.step _ rfl (Or.inl ⟨by rfl, fun U hU => vp_quiet (by (go_simp <;> exact rfl))⟩) ⟨_, by (simp only [Ent.val]; go_simp <;> exact rfl), ?_⟩
  refine Seg.step _ rfl (Or.inl ⟨by rfl, fun U hU => vp_quiet (by (go_simp <;> exact rfl))⟩) ⟨_, by (simp only [Ent.val]; go_simp <;> exact rfl), ?_⟩
  refine Seg.step _ rfl (Or.inl ⟨by rfl, fun U hU => vp_quiet (by (go_simp <;> exact rfl))⟩) ⟨_, by (simp only [Ent.val]; go_simp <;> exact rfl), ?_⟩
  refine Seg.step _ rfl (Or.inl ⟨by rfl, fun U hU => vp_quiet (by (go_simp <;> exact rfl))⟩) ⟨_, by (simp only [Ent.val]; go_simp <;> exact rfl), ?_⟩
  refine Seg.step _ rfl (Or.inl ⟨by rfl, fun U hU => vp_quiet (by (go_simp <;> exact rfl))⟩) ⟨_, by (simp only [Ent.val]; go_simp <;> exact rfl), ?_⟩
  refine Seg.stop (fun U1 hU hk => ?_)
  clear hk hge hne
  have sz1 := hU.size
  have hB : Below w.heap.size w U1 := hU
  clear hU
  go_wp2_with omega
  refine bodyPost_ret (v := .tuple #[.int .i64 (x - qy), .int .i64 (y + qx)]) (by simp [results, Try.results43, go_sem]) rfl ⟨rfl, hB⟩
set_option maxRecDepth 100000 in
set_option maxHeartbeats 1000000 in
theorem spinm_any (x y p : Int) (k : Nat) (w : World) (hk : k < 31) (hp : (2 : Int) ^ k = p) (p1 : 1 ≤ p) (p2 : p ≤ 1073741824) (x1 : -2305843009213693952 ≤ x) (x2 : x ≤ 2305843009213693952) (y1 : -2305843009213693952 ≤ y) (y2 : y ≤ 2305843009213693952) :
    Calls Try.prog 43 #[.int .i64 x, .int .i64 y, .int .i64 k, .int .i64 (-1)] w fun e w' => e = .returned (.tuple #[.int .i64 (x + y.tdiv p), .int .i64 (y - x.tdiv p)]) ∧ Below w.heap.size w w' := by
  have d1 := tdiv_le x p
  have d2 := tdiv_le y p
  have hw : IntKind.i64.wrap p = p := by rw [IntKind.wrap_i64]; omega
  have hp0 : (p == 0) = false := by simp; omega
  have hp1 : ¬ p = 0 := by omega
  obtain ⟨qy, hqy⟩ : ∃ q, y.tdiv p = q := ⟨_, rfl⟩
  obtain ⟨qx, hqx⟩ : ∃ q, x.tdiv p = q := ⟨_, rfl⟩
  rw [hqx] at d1
  rw [hqy] at d2
  rw [hqx, hqy]
  have f0 : IntKind.i64.wrap (qx) = qx := by rw [IntKind.wrap_i64]; omega
  have f1 : IntKind.i64.wrap (qy) = qy := by rw [IntKind.wrap_i64]; omega
  have f2 : IntKind.i64.wrap (-qx) = -qx := by rw [IntKind.wrap_i64]; omega
  have f3 : IntKind.i64.wrap (-qy) = -qy := by rw [IntKind.wrap_i64]; omega
  have f4 : IntKind.i64.wrap (x - qy) = x - qy := by rw [IntKind.wrap_i64]; omega
  have f5 : IntKind.i64.wrap (x + qy) = x + qy := by rw [IntKind.wrap_i64]; omega
  have f6 : IntKind.i64.wrap (y + qx) = y + qx := by rw [IntKind.wrap_i64]; omega
  have f7 : IntKind.i64.wrap (y - qx) = y - qx := by rw [IntKind.wrap_i64]; omega
  have f8 : IntKind.i64.wrap (x - -qy) = x + qy := by rw [IntKind.wrap_i64]; omega
  have f9 : IntKind.i64.wrap (y + -qx) = y - qx := by rw [IntKind.wrap_i64]; omega
  clear x1 x2 y1 y2 d1 d2
  go_enter Try.func43, Try.ntmps43
  go_upto_region 2 with (fail)
  apply wp_region_seg (w := w) (S := [.q [], .q [], .q [], .q [], .q [], .q [], .q [], .q [], .q [], .q [], .q [], .q [], .q [], .q [], .q [], .q []]) (E := [.q0 _, .q0 _, .q0 _, .q0 _, .q0 _, .q0 _, .q0 _, .q0 _, .q0 _, .q0 _, .q0 _, .q0 _, .q0 _, .q0 _, .q0 _, .q0 _]) (by kernel_rfl) rfl (by kernel_rfl) rfl rfl
  intro th hge hne
  refine Seg.step _ rfl (Or.inl ⟨by rfl, fun U hU => vp_quiet (by (go_simp <;> exact rfl))⟩) ⟨_, by (simp only [Ent.val]; go_simp <;> exact rfl), ?_⟩
  refine Seg.step _ rfl (Or.inl ⟨by rfl, fun U hU => vp_quiet (by (go_simp <;> exact rfl))⟩) ⟨_, by (simp only [Ent.val]; go_simp <;> exact rfl), ?_⟩
  refine Seg.step _ rfl (Or.inl ⟨by rfl, fun U hU => vp_quiet (by (go_simp <;> exact rfl))⟩) ⟨_, by (simp only [Ent.val]; go_simp <;> exact rfl), ?_⟩
  refine Seg.step _ rfl (Or.inl ⟨by rfl, fun U hU => vp_quiet (by (go_simp <;> exact rfl))⟩) ⟨_, by (simp only [Ent.val]; go_simp <;> exact rfl), ?_⟩
  refine Seg.step _ rfl (Or.inl ⟨by rfl, fun U hU => vp_quiet (by (go_simp <;> exact rfl))⟩) ⟨_, by (simp only [Ent.val]; go_simp <;> exact rfl), ?_⟩
  refine Seg.step _ rfl (Or.inl ⟨by rfl, fun U hU => vp_quiet (by (go_simp <;> exact rfl))⟩) ⟨_, by (simp only [Ent.val]; go_simp <;> exact rfl), ?_⟩
  refine Seg.step _ rfl (Or.inl ⟨by rfl, fun U hU => vp_quiet (by (go_simp <;> exact rfl))⟩) ⟨_, by (simp only [Ent.val]; go_simp <;> exact rfl), ?_⟩
  refine Seg.step _ rfl (Or.inl ⟨by rfl, fun U hU => vp_quiet (by (go_simp <;> exact rfl))⟩) ⟨_, by (simp only [Ent.val]; go_simp <;> exact rfl), ?_⟩
  refine Seg.step _ rfl (Or.inl ⟨by rfl, fun U hU => vp_quiet (by (go_simp <;> exact rfl))⟩) ⟨_, by (simp only [Ent.val]; go_simp <;> exact rfl), ?_⟩
  refine Seg.step _ rfl (Or.inl ⟨by rfl, fun U hU => vp_quiet (by (go_simp <;> exact rfl))⟩) ⟨_, by (simp only [Ent.val]; go_simp <;> exact rfl), ?_⟩
  refine Seg.step _ rfl (Or.inl ⟨by rfl, fun U hU => vp_quiet (by (go_simp <;> exact rfl))⟩) ⟨_, by (simp only [Ent.val]; go_simp <;> exact rfl), ?_⟩
  refine Seg.step _ rfl (Or.inl ⟨by rfl, fun U hU => vp_quiet (by (go_simp <;> exact rfl))⟩) ⟨_, by (simp only [Ent.val]; go_simp <;> exact rfl), ?_⟩
  refine Seg.step _ rfl (Or.inl ⟨by rfl, fun U hU => vp_quiet (by (go_simp <;> exact rfl))⟩) ⟨_, by (simp only [Ent.val]; go_simp <;> exact rfl), ?_⟩
  refine Seg.step _ rfl (Or.inl ⟨by rfl, fun U hU => vp_quiet (by (go_simp <;> exact rfl))⟩) ⟨_, by (simp only [Ent.val]; go_simp <;> exact rfl), ?_⟩
  refine Seg.step _ rfl (Or.inl ⟨by rfl, fun U hU => vp_quiet (by (go_simp <;> exact rfl))⟩) ⟨_, by (simp only [Ent.val]; go_simp <;> exact rfl), ?_⟩
  refine Seg.step _ rfl (Or.inl ⟨by rfl, fun U hU => vp_quiet (by (go_simp <;> exact rfl))⟩) ⟨_, by (simp only [Ent.val]; go_simp <;> exact rfl), ?_⟩
  refine Seg.stop (fun U1 hU hk => ?_)
  clear hk hge hne
  have sz1 := hU.size
  have hB : Below w.heap.size w U1 := hU
  clear hU
  go_wp2_with omega
  refine bodyPost_ret (v := .tuple #[.int .i64 (x + qy), .int .i64 (y - qx)]) (by simp [results, Try.results43, go_sem]) rfl ⟨rfl, hB⟩
end Go.Proofs.Yticfolcpnkkidaa
