/- Package shape: within, wayOf, a desk's ways. -/
import Derived.Test.YtekilpmmadhpoaaShapeMath
import Derived.Laws.EntriesVeiled
import Derived.Deep.DeepCutAuto
namespace Go.Proofs.Ytekilpmmadhpoaa
open Go.ChangeShapes Go.WideShapes Go.ChangeAt Go.RowKit
set_option linter.unusedVariables false
set_option linter.unusedSimpArgs false

def withB (lo hi x : Int) : Bool := decide (lo ≤ x) && decide (x ≤ hi)
theorem within_any (n : Int) (sg : Bool) (lo hi x : Int) (w : World) : Calls Try.prog 29 #[.agg #[.int .i64 n, .bool sg, .int .i64 lo, .int .i64 hi], .int .i64 x] w fun e w' => e = .returned (.bool (withB lo hi x)) ∧ After w w' := by
  unfold withB
  by_cases c1 : lo ≤ x
  · by_cases c2 : x ≤ hi
    · go_enter Try.func29, Try.ntmps29
      go_wp2_with fail
      all_goals go_ret
      all_goals exact ⟨ret_bool (by first | (simp [c1, c2]; done) | (simp; omega)), (Below.refl _ _).alloc (Nat.le_refl _) _⟩
    · go_enter Try.func29, Try.ntmps29
      go_wp2_with fail
      all_goals go_ret
      all_goals exact ⟨ret_bool (by first | (simp [c1, c2]; done) | (simp; omega)), (Below.refl _ _).alloc (Nat.le_refl _) _⟩
  · go_enter Try.func29, Try.ntmps29
    go_wp2_with fail
    all_goals go_ret
    all_goals exact ⟨ret_bool (by first | (simp [c1]; done) | (simp; omega)), (Below.refl _ _).alloc (Nat.le_refl _) _⟩
theorem way_true (w : World) : Calls Try.prog 30 #[.bool true] w fun e w' => e = .returned (.agg #[.func (.func 35) #[] #[], .func (.func 36) #[] #[]]) ∧ After w w' := by
  go_enter Try.func30, Try.ntmps30
  go_upto_region 0 with (fail)
  apply wp_region_seg0 (w := w) (S := [.al 1000]) (E := [.al ((fun p => .pointer (some ⟨p, 0, none⟩)), _) 1000]) rfl (by kernel_rfl) rfl rfl
  intro th hge hne
  refine Seg.step _ rfl ⟨by rfl, fun U hU => ?_⟩ ?_
  · go_simp; exact vp_alloc rfl rfl rfl
  refine ⟨_, by (simp only [Ent.val]; go_simp <;> exact rfl), ?_⟩
  refine Seg.stop (fun U1 hU hk => ?_)
  have nb0 := hge 0 _ _ rfl
  have rb0 := (hk 0 _ _ rfl trivial).1.2 (by simp)
  clear hk hge hne
  generalize th (0 + 0) = p0_0 at *
  dsimp only at rb0
  have r_p0_0 := rb0
  clear rb0
  have n_p0_0 := nb0
  clear nb0
  have sz1 := hU.size
  have hB : Below w.heap.size w U1 := hU
  clear hU
  have nP : w.heap.size ≤ p0_0 := n_p0_0
  go_upto_region 2 with (fail)
  have z0 := held_cell r_p0_0 0 _ rfl
  have z1 := held_cell r_p0_0 1 _ rfl
  have g0 := held_free r_p0_0 0
  have g1 := held_free r_p0_0 1
  obtain ⟨W9, hW9, ya, yO⟩ := st2 r_p0_0 (.func (.func 35) #[] #[]) (.func (.func 36) #[] #[])
  replace hB := belowS hB yO nP
  have ez0 := held_cell ya 0 _ rfl
  have ez1 := held_cell ya 1 _ rfl
  clear yO ya
  replace hB := hid hB
  go_wp2_with fail
  refine bodyPost_ret (v := .agg #[.func (.func 35) #[] #[], .func (.func 36) #[] #[]]) (by simp [results, Try.results30, go_sem, ez0, ez1]) rfl ⟨rfl, hB.out⟩
theorem way_false (w : World) : Calls Try.prog 30 #[.bool false] w fun e w' => e = .returned (.agg #[.func (.func 37) #[] #[], .func (.func 38) #[] #[]]) ∧ After w w' := by
  go_enter Try.func30, Try.ntmps30
  go_upto_region 0 with (fail)
  apply wp_region_seg0 (w := w) (S := [.al 1000]) (E := [.al ((fun p => .pointer (some ⟨p, 0, none⟩)), _) 1000]) rfl (by kernel_rfl) rfl rfl
  intro th hge hne
  refine Seg.step _ rfl ⟨by rfl, fun U hU => ?_⟩ ?_
  · go_simp; exact vp_alloc rfl rfl rfl
  refine ⟨_, by (simp only [Ent.val]; go_simp <;> exact rfl), ?_⟩
  refine Seg.stop (fun U1 hU hk => ?_)
  have nb0 := hge 0 _ _ rfl
  have rb0 := (hk 0 _ _ rfl trivial).1.2 (by simp)
  clear hk hge hne
  generalize th (0 + 0) = p0_0 at *
  dsimp only at rb0
  have r_p0_0 := rb0
  clear rb0
  have n_p0_0 := nb0
  clear nb0
  have sz1 := hU.size
  have hB : Below w.heap.size w U1 := hU
  clear hU
  have nP : w.heap.size ≤ p0_0 := n_p0_0
  go_upto_region 3 with (fail)
  have z0 := held_cell r_p0_0 0 _ rfl
  have z1 := held_cell r_p0_0 1 _ rfl
  have g0 := held_free r_p0_0 0
  have g1 := held_free r_p0_0 1
  obtain ⟨W9, hW9, ya, yO⟩ := st2 r_p0_0 (.func (.func 37) #[] #[]) (.func (.func 38) #[] #[])
  replace hB := belowS hB yO nP
  have ez0 := held_cell ya 0 _ rfl
  have ez1 := held_cell ya 1 _ rfl
  clear yO ya
  replace hB := hid hB
  go_wp2_with fail
  refine bodyPost_ret (v := .agg #[.func (.func 37) #[] #[], .func (.func 38) #[] #[]]) (by simp [results, Try.results30, go_sem, ez0, ez1]) rfl ⟨rfl, hB.out⟩

end Go.Proofs.Ytekilpmmadhpoaa
