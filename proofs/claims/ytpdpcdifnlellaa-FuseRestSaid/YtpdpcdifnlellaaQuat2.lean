/- Package quat and its reference: Conj, Neg, Norm, One. -/
import Derived.Test.YtpdpcdifnlellaaQuat
namespace Go.Proofs.Ytpdpcdifnlellaa
open Go.ChangeShapes Go.WideShapes Go.ChangeAt Go.RowKit
set_option linter.unusedVariables false

theorem rows2q (w : World) (T1 T2 : TypeId) (x y z t : Int) :
    ∃ W, (w.alloc (.cells #[.int .i32 x, .int .i32 y, .int .i32 z, .int .i32 t] T1)).alloc (.cells #[.int .i32 0, .int .i32 0, .int .i32 0, .int .i32 0] T2) = W ∧ Below w.heap.size w W ∧ w.heap.size + 2 ≤ W.heap.size ∧
    Row .i32 T1 W w.heap.size [x, y, z, t] ∧ Row .i32 T2 W (w.heap.size + 1) [0, 0, 0, 0] := by
  refine ⟨_, rfl, ((Below.refl _ _).alloc (Nat.le_refl _) _).alloc (by simp) _, by simp, ?_, ?_⟩
  · unfold Row; rw [Below.heap_alloc _ _ _ (by simp)]; exact heap_new _ _ _ rfl
  · exact heap_new _ _ _ (by simp)
theorem rows1q (w : World) (T1 : TypeId) (x y z t : Int) : ∃ W, w.alloc (.cells #[.int .i32 x, .int .i32 y, .int .i32 z, .int .i32 t] T1) = W ∧ Below w.heap.size w W ∧ w.heap.size + 1 ≤ W.heap.size ∧ Row .i32 T1 W w.heap.size [x, y, z, t] :=
  ⟨_, rfl, (Below.refl _ _).alloc (Nat.le_refl _) _, by simp, heap_new _ _ _ rfl⟩

theorem sl_lit4 (k : IntKind) (E : TypeId) (w : World) (x y z t : Int) : Sl k (w.alloc (.cells #[.int k x, .int k y, .int k z, .int k t] E)) (some ⟨w.heap.size, 0, none⟩) 4 4 [x, y, z, t] := by
  obtain ⟨a, cap, hv, hs⟩ := (Own.lit k E w [x, y, z, t] w.heap.size (Nat.le_refl _) (by unfold maxLen; simp) #[.int k x, .int k y, .int k z, .int k t] rfl).sl
  cases hv
  exact hs
theorem wf4 {x y z t : Int} (p0 : B32 x) (p1 : B32 y) (p2 : B32 z) (p3 : B32 t) : ∀ n ∈ [x, y, z, t], (Lit.int .i32 n).wf = true := by
  intro n hn
  simp at hn
  rcases hn with rfl | rfl | rfl | rfl
  · exact i32_wf p0
  · exact i32_wf p1
  · exact i32_wf p2
  · exact i32_wf p3

theorem qnorm_any (x y z t : Int) (w : World) (p0 : B32 x) (p1 : B32 y) (p2 : B32 z) (p3 : B32 t) :
    Calls Try.prog 70 #[.agg #[.int .i32 x, .int .i32 y, .int .i32 z, .int .i32 t]] w fun e w' => e = .returned (.int .u64 (sqs [x, y, z, t] 0)) ∧ Below w.heap.size w w' := by
  have hb := ((Below.refl w.heap.size w).alloc (Nat.le_refl _) (.cells #[.int .i32 x, .int .i32 y, .int .i32 z, .int .i32 t] 23)).alloc (by simp) (.cells #[.int .i32 x, .int .i32 y, .int .i32 z, .int .i32 t] 21)
  have hs := sl_lit4 .i32 21 (w.alloc (.cells #[.int .i32 x, .int .i32 y, .int .i32 z, .int .i32 t] 23)) x y z t
  simp only [World.size_alloc] at hs
  have hz := hid (wf4 p0 p1 p2 p3)
  obtain ⟨L, hL⟩ : ∃ L, sqs [x, y, z, t] 0 = L := ⟨_, rfl⟩
  rw [hL]
  replace hL := hid hL
  go_enter Try.func70, Try.ntmps70
  go_wp2_with fail
  refine (squares_any _ 4 [x, y, z, t] _ (by show 4 ≤ 1000; omega) hs.2.2.2.2 hz.out).mono ?_
  rintro e v ⟨rfl, rfl⟩
  rw [hL.out]
  go_wp2_with fail
  go_ret
  exact ⟨rfl, hb⟩

theorem rqnorm_any (x y z t : Int) (w : World) (p0 : B32 x) (p1 : B32 y) (p2 : B32 z) (p3 : B32 t) :
    Calls Try.prog 17 #[.agg #[.int .i32 x, .int .i32 y, .int .i32 z, .int .i32 t]] w fun e w' => e = .returned (.int .u64 (sqs [x, y, z, t] 0)) ∧ Below w.heap.size w w' := by
  have hb := ((Below.refl w.heap.size w).alloc (Nat.le_refl _) (.cells #[.int .i32 x, .int .i32 y, .int .i32 z, .int .i32 t] 23)).alloc (by simp) (.cells #[.int .i32 x, .int .i32 y, .int .i32 z, .int .i32 t] 21)
  have hs := sl_lit4 .i32 21 (w.alloc (.cells #[.int .i32 x, .int .i32 y, .int .i32 z, .int .i32 t] 23)) x y z t
  simp only [World.size_alloc] at hs
  have hz := hid (wf4 p0 p1 p2 p3)
  obtain ⟨L, hL⟩ : ∃ L, sqs [x, y, z, t] 0 = L := ⟨_, rfl⟩
  rw [hL]
  replace hL := hid hL
  go_enter Try.func17, Try.ntmps17
  go_wp2_with fail
  refine (rsquares_any _ 4 [x, y, z, t] _ (by show 4 ≤ 1000; omega) hs.2.2.2.2 hz.out).mono ?_
  rintro e v ⟨rfl, k, rfl⟩
  rw [hL.out]
  go_wp2_with fail
  go_ret
  exact ⟨rfl, bdrewN hb k⟩

theorem qone_any (w : World) : Calls Try.prog 20 #[] w fun e w' => e = .returned (.agg #[.int .i32 1073741824, .int .i32 0, .int .i32 0, .int .i32 0]) ∧ Below w.heap.size w w' := by
  go_enter Try.func20, Try.ntmps20
  go_wp2_with fail
  refine bodyPost_ret (v := .agg #[.int .i32 1073741824, .int .i32 0, .int .i32 0, .int .i32 0]) (by simp [results, Try.results20, go_sem]) rfl ⟨rfl, ?_⟩
  exact (Below.refl _ _).alloc (Nat.le_refl _) _

theorem rqone_any (w : World) : Calls Try.prog 10 #[] w fun e w' => e = .returned (.agg #[.int .i32 1073741824, .int .i32 0, .int .i32 0, .int .i32 0]) ∧ Below w.heap.size w w' := by
  go_enter Try.func10, Try.ntmps10
  go_wp2_with fail
  refine bodyPost_ret (v := .agg #[.int .i32 1073741824, .int .i32 0, .int .i32 0, .int .i32 0]) (by simp [results, Try.results10, go_sem]) rfl ⟨rfl, ?_⟩
  exact (Below.refl _ _).alloc (Nat.le_refl _) _

end Go.Proofs.Ytpdpcdifnlellaa
