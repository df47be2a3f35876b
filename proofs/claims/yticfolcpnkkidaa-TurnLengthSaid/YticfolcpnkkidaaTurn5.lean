/- Package turn: the table of angles, numbers brought back. -/
import Derived.Test.YticfolcpnkkidaaTurn
import Derived.Deep.DeepCutAuto
namespace Go.Proofs.Yticfolcpnkkidaa
open Go.ChangeShapes Go.WideShapes Go.ChangeAt Go.RowKit
set_option linter.unusedVariables false

def tabL : List Int := [536870912, 316933406, 167458907, 85004756, 42667331, 21354465, 10679838, 5340245, 2670163, 1335087, 667544, 333772, 166886, 83443, 41722, 20861, 10430, 5215, 2608, 1304, 652, 326, 163, 81, 41, 20, 10, 5, 3, 1, 1]
def tab (k : Nat) : Int := tabL.getD k 0
theorem tabrow (w : World) (T : TypeId) : ∃ W, w.alloc (.cells #[.int .i64 536870912, .int .i64 316933406, .int .i64 167458907, .int .i64 85004756, .int .i64 42667331, .int .i64 21354465, .int .i64 10679838, .int .i64 5340245, .int .i64 2670163, .int .i64 1335087, .int .i64 667544, .int .i64 333772, .int .i64 166886, .int .i64 83443, .int .i64 41722, .int .i64 20861, .int .i64 10430, .int .i64 5215, .int .i64 2608, .int .i64 1304, .int .i64 652, .int .i64 326, .int .i64 163, .int .i64 81, .int .i64 41, .int .i64 20, .int .i64 10, .int .i64 5, .int .i64 3, .int .i64 1, .int .i64 1] T) = W ∧ Below w.heap.size w W ∧ Row .i64 T W w.heap.size tabL :=
  ⟨_, rfl, (Below.refl _ _).alloc (Nat.le_refl _) _, heap_new _ _ _ rfl⟩
set_option maxRecDepth 100000 in
set_option maxHeartbeats 2000000 in
theorem angle_any (k : Nat) (w : World) (hk : k < 31) :
    Calls Try.prog 44 #[.int .i64 k] w fun e w' => e = .returned (.int .i64 (tab k)) ∧ Below w.heap.size w w' := by
  go_enter Try.func44, Try.ntmps44
  go_upto_region 1 with (fail)
  apply wp_region_seg0 (w := w) (S := [.q [], .al 2, .st 1 []]) (E := [.q0 _, .al ((fun p => .pointer (some ⟨p, 0, none⟩)), _) 2, .s0 1 (.cells _ _)]) rfl (by kernel_rfl) rfl rfl
  intro th hge hne
  refine Seg.step _ rfl (Or.inl ⟨by rfl, fun U hU => vp_quiet (by (go_simp <;> exact rfl))⟩) ⟨_, by (simp only [Ent.val]; go_simp <;> exact rfl), ?_⟩
  refine Seg.step _ rfl ⟨by rfl, fun U hU => ?_⟩ ?_
  · go_simp; exact vp_alloc rfl rfl rfl
  refine ⟨_, by (simp only [Ent.val]; go_simp <;> exact rfl), ?_⟩
  refine Seg.step _ rfl ⟨by rfl, fun U z k hz hU hc => ?_⟩ ?_
  · have hz2 := Option.some.inj hz
    cases hz2; clear hz
    exact vp_store_agg _ _ _ rfl hc rfl rfl (by kernel_rfl) rfl (by rfl)
  refine ⟨_, by (simp only [Ent.val]; go_simp <;> exact rfl), ?_⟩
  refine Seg.stop (fun U1 hU hk => ?_)
  have nb1 := hge 1 _ _ rfl
  have rb1 := (hk 1 _ 2 rfl trivial).1.1 trivial _ (Nat.zero_le _) rfl
  clear hk hge hne
  generalize th (0 + 1) = p1_1 at *
  simp only [Ent.obj] at rb1
  have r_p1_1 := rb1
  clear rb1
  have n_p1_1 := nb1
  clear nb1
  have sz1 := hU.size
  have hB : Below w.heap.size w U1 := hU
  clear hU
  have rt : Row .i64 86 U1 p1_1 tabL := r_p1_1
  have hc : U1.cell? ⟨p1_1, k, none⟩ = some (.int .i64 (tab k)) := rt.cellAt k hk
  clear rt r_p1_1
  go_wp2_with omega
  refine bodyPost_ret (v := .int .i64 (tab k)) (by simp [results, Try.results44, go_sem]) rfl ⟨rfl, hB⟩
set_option maxRecDepth 100000 in
set_option maxHeartbeats 2000000 in
theorem rtable_any (k : Nat) (w : World) (hk : k < 31) :
    Calls Try.prog 47 #[.int .i64 k] w fun e w' => e = .returned (.int .i64 (tab k)) ∧ Below w.heap.size w w' := by
  go_enter Try.func47, Try.ntmps47
  go_upto_region 1 with (fail)
  apply wp_region_seg0 (w := w) (S := [.q [], .al 2, .st 1 []]) (E := [.q0 _, .al ((fun p => .pointer (some ⟨p, 0, none⟩)), _) 2, .s0 1 (.cells _ _)]) rfl (by kernel_rfl) rfl rfl
  intro th hge hne
  refine Seg.step _ rfl (Or.inl ⟨by rfl, fun U hU => vp_quiet (by (go_simp <;> exact rfl))⟩) ⟨_, by (simp only [Ent.val]; go_simp <;> exact rfl), ?_⟩
  refine Seg.step _ rfl ⟨by rfl, fun U hU => ?_⟩ ?_
  · go_simp; exact vp_alloc rfl rfl rfl
  refine ⟨_, by (simp only [Ent.val]; go_simp <;> exact rfl), ?_⟩
  refine Seg.step _ rfl ⟨by rfl, fun U z k hz hU hc => ?_⟩ ?_
  · have hz2 := Option.some.inj hz
    cases hz2; clear hz
    exact vp_store_agg _ _ _ rfl hc rfl rfl (by kernel_rfl) rfl (by rfl)
  refine ⟨_, by (simp only [Ent.val]; go_simp <;> exact rfl), ?_⟩
  refine Seg.stop (fun U1 hU hk => ?_)
  have nb1 := hge 1 _ _ rfl
  have rb1 := (hk 1 _ 2 rfl trivial).1.1 trivial _ (Nat.zero_le _) rfl
  clear hk hge hne
  generalize th (0 + 1) = p1_1 at *
  simp only [Ent.obj] at rb1
  have r_p1_1 := rb1
  clear rb1
  have n_p1_1 := nb1
  clear nb1
  have sz1 := hU.size
  have hB : Below w.heap.size w U1 := hU
  clear hU
  have rt : Row .i64 86 U1 p1_1 tabL := r_p1_1
  have hc : U1.cell? ⟨p1_1, k, none⟩ = some (.int .i64 (tab k)) := rt.cellAt k hk
  clear rt r_p1_1
  go_wp2_with omega
  refine bodyPost_ret (v := .int .i64 (tab k)) (by simp [results, Try.results47, go_sem]) rfl ⟨rfl, hB⟩
def withinS (n : Int) : Int := if n < -1073741824 then -1073741824 else if 1073741824 < n then 1073741824 else n
theorem withinS_lo {n : Int} (h : n ≤ -1073741824) : withinS n = -1073741824 := by unfold withinS; split <;> (try split) <;> omega
theorem withinS_hi {n : Int} (h : 1073741824 < n) : withinS n = 1073741824 := by unfold withinS; rw [if_neg (by omega), if_pos h]
theorem withinS_in {n : Int} (h : -1073741824 ≤ n) (h' : n ≤ 1073741824) : withinS n = n := by unfold withinS; rw [if_neg (by omega), if_neg (by omega)]
theorem withinS_bd (n : Int) : -1073741824 ≤ withinS n ∧ withinS n ≤ 1073741824 := by unfold withinS; split <;> (try split) <;> omega
set_option maxRecDepth 100000 in
set_option maxHeartbeats 2000000 in
theorem twithin_any (n : Int) (w : World) :
    Calls Try.prog 45 #[.int .i64 n] w fun e w' => e = .returned (.int .i32 (withinS n)) ∧ w' = w := by
  have k1 : min n 1073741824 = if n ≤ 1073741824 then n else 1073741824 := by omega
  by_cases c1 : n ≤ -1073741824
  · rw [withinS_lo c1]
    go_enter Try.func45, Try.ntmps45
    go_wp2_with omega
    go_ret
    exact ⟨rfl, rfl⟩
  · by_cases c2 : 1073741824 < n
    · rw [withinS_hi c2]
      go_enter Try.func45, Try.ntmps45
      go_wp2_with omega
      go_ret
      exact ⟨rfl, rfl⟩
    · rw [withinS_in (by omega) (by omega)]
      have hw : IntKind.i32.wrap n = n := by rw [IntKind.wrap_i32]; omega
      go_enter Try.func45, Try.ntmps45
      go_wp2_with omega
      go_ret
      exact ⟨rfl, rfl⟩
theorem rcutn_any (n : Int) (w : World) (h1 : -9223372036854775808 ≤ n) (h2 : n ≤ 9223372036854775807) :
    Calls Try.prog 50 #[.int .i64 n] w fun e w' => e = .returned (.int .i32 (clampS n)) ∧ w' = w := by
  have k1 := hid (fun (v : World) => clampV_def n ▸ rclamp_any n v h1 h2)
  clear h1 h2
  generalize clampS n = s at *
  generalize clampB n = b at *
  go_enter Try.func50, Try.ntmps50
  go_wp2_with fail
  refine (k1.out _).mono ?_
  rintro e U ⟨rfl, rfl⟩
  go_wp2_with fail
  go_ret
  exact ⟨rfl, rfl⟩
theorem rfar13_any (n : Int) (w : World) (h1 : -9223372036854775807 ≤ n) (h2 : n ≤ 9223372036854775807) :
    Calls Try.prog 51 #[.int .i64 n] w fun e w' => e = .returned (.int .i64 (if n < 0 then -n else n)) ∧ w' = w := by
  have hw : IntKind.i64.wrap (-n) = -n := by rw [IntKind.wrap_i64]; omega
  by_cases c : n < 0
  · rw [if_pos c]
    go_enter Try.func51, Try.ntmps51
    go_wp2_with omega
    go_ret
    exact ⟨rfl, rfl⟩
  · rw [if_neg c]
    go_enter Try.func51, Try.ntmps51
    go_wp2_with omega
    go_ret
    exact ⟨rfl, rfl⟩
end Go.Proofs.Yticfolcpnkkidaa
