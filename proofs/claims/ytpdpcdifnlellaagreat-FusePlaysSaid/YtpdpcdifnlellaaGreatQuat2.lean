/- Package quat and its reference: Conj, Neg, Norm, One. -/
import Derived.Test.YtpdpcdifnlellaaGreatQuat
namespace Go.Proofs.YtpdpcdifnlellaaGreat
open Go.ChangeShapes Go.WideShapes Go.ChangeAt Go.RowKit
set_option linter.unusedVariables false

theorem rows2q (w : World) (T1 T2 : TypeId) (x y z t : Int) :
    ∃ W, (w.alloc (.cells #[.int .i32 x, .int .i32 y, .int .i32 z, .int .i32 t] T1)).alloc (.cells #[.int .i32 0, .int .i32 0, .int .i32 0, .int .i32 0] T2) = W ∧ Below w.heap.size w W ∧ w.heap.size + 2 ≤ W.heap.size ∧
    Row .i32 T1 W w.heap.size [x, y, z, t] ∧ Row .i32 T2 W (w.heap.size + 1) [0, 0, 0, 0] := by
  refine ⟨_, rfl, ((Below.refl _ _).alloc (Nat.le_refl _) _).alloc (by simp) _, by simp, ?_, ?_⟩
  · unfold Row; rw [Below.heap_alloc _ _ _ (by simp)]; exact heap_new _ _ _ rfl
  · exact heap_new _ _ _ (by simp)
theorem rows1q (w : World) (T1 : TypeId) (x y z t : Int) : ∃ W, w.alloc (.cells #[.int .i32 x, .int .i32 y, .int .i32 z, .int .i32 t] T1) = W ∧ Below w.heap.size w W ∧ w.heap.size + 1 ≤ W.heap.size ∧ Row .i32 T1 W w.heap.size [x, y, z, t] :=
  ⟨_, rfl, (Below.refl _ _).alloc (Nat.le_refl _) _, by simp, heap_new _ _ _ rfl⟩

set_option maxHeartbeats 2000000 in
theorem rcut4_any (a x y z : Int) (w : World) (p0 : B64 a) (p1 : B64 x) (p2 : B64 y) (p3 : B64 z) :
    Calls Tryz.prog 88 #[.int .i64 a, .int .i64 x, .int .i64 y, .int .i64 z] w fun e w' => e = .returned (cut4 a x y z) ∧ Below w.heap.size w w' := by
  obtain ⟨W, hW, hB, hN, ra⟩ := rows1q w 23 0 0 0 0
  have hV : cut4 a x y z = .tuple #[.agg #[.int .i32 (clampS a), .int .i32 (clampS x), .int .i32 (clampS y), .int .i32 (clampS z)], .int .i64 ((cuts (fun i => sel i x y z) 3 + (if clampB a then 1 else 0) : Nat) : Int)] := by
    have h : cuts (fun i => sel4 i a x y z) 4 = cuts (fun i => sel i x y z) 3 + (if clampB a then 1 else 0) := by
      have e1 : cuts (fun i => sel4 i a x y z) 4 = 0 + (if clampB a then 1 else 0) + (if clampB x then 1 else 0) + (if clampB y then 1 else 0) + (if clampB z then 1 else 0) := rfl
      have e2 : cuts (fun i => sel i x y z) 3 = 0 + (if clampB x then 1 else 0) + (if clampB y then 1 else 0) + (if clampB z then 1 else 0) := rfl
      rw [e1, e2]; omega
    unfold cut4
    rw [h]
  have hC := hid (fun (v : World) => cut_any x y z v p1 p2 p3)
  have hK := hid (fun (v : World) => rclamp_any a v p0.1 p0.2)
  have hV2 : cut3 (fun i => sel i x y z) = .tuple #[.agg #[.int .i32 (clampS x), .int .i32 (clampS y), .int .i32 (clampS z)], .int .i64 (cuts (fun i => sel i x y z) 3)] := rfl
  have hc3 := cuts_le (fun i => sel i x y z) 3
  replace hV := hid hV
  replace hV2 := hid hV2
  replace ra := hid ra
  clear p0 p1 p2 p3
  go_enter Tryz.func88, Tryz.ntmps88
  go_wp2_with fail
  clear hW
  refine (hC.out _).mono ?_
  rintro e v ⟨rfl, hst⟩
  rw [hV2.out]
  have ra2 := ra.out.below hst
  replace hB := bthen hB hst
  clear hst ra
  generalize clampS x = s1 at *
  generalize clampS y = s2 at *
  generalize clampS z = s3 at *
  generalize cuts (fun i => sel i x y z) 3 = cn at *
  have hst := aalloc v (.cells #[.int .i32 s1, .int .i32 s2, .int .i32 s3] 25)
  replace ra2 := ra2.below hst
  replace hB := bthen hB hst
  obtain ⟨x0, x1, x2, x3, y0, y1, y2, y3⟩ := ra2.four
  clear hst ra2
  go_wp2_with fail
  refine (hK.out _).mono ?_
  rintro e v2 ⟨rfl, rfl⟩
  rw [clampV_def]
  generalize clampS a = s0 at *
  generalize clampB a = ca at *
  cases ca
  all_goals
    go_wp2_with fail
    refine bodyPost_ret (v := .tuple #[.agg #[.int .i32 s0, .int .i32 s1, .int .i32 s2, .int .i32 s3], .int .i64 _]) (by simp [results, Tryz.results88, go_sem, x0, x1, x2, x3]; rfl) rfl ⟨by rw [hV.out]; simp, ?_⟩
    exact below4 hB _ _ _ _ _ (by omega)

theorem sl_lit4 (k : IntKind) (E : TypeId) (w : World) (x y z t : Int) : Sl k (w.alloc (.cells #[.int k x, .int k y, .int k z, .int k t] E)) (some ⟨w.heap.size, 0, none⟩) 4 4 [x, y, z, t] := by
  obtain ⟨a, cap, hv, hs⟩ := (Own.lit k E w [x, y, z, t] w.heap.size (Nat.le_refl _) (by unfold maxLen; simp) #[.int k x, .int k y, .int k z, .int k t] rfl).sl
  cases hv
  exact hs
theorem wf4 {x y z t : Int} (p0 : B32 x) (p1 : B32 y) (p2 : B32 z) (p3 : B32 t) : ∀ n ∈ [x, y, z, t], (Lit.int .i32 n).wf = true := by
  intro n hn
  simp at hn
  rcases hn with rfl | rfl | rfl | rfl
  · exact i32_wf p0
  · exact i32_wf p1
  · exact i32_wf p2
  · exact i32_wf p3

theorem qnorm_any (x y z t : Int) (w : World) (p0 : B32 x) (p1 : B32 y) (p2 : B32 z) (p3 : B32 t) :
    Calls Tryz.prog 105 #[.agg #[.int .i32 x, .int .i32 y, .int .i32 z, .int .i32 t]] w fun e w' => e = .returned (.int .u64 (sqs [x, y, z, t] 0)) ∧ Below w.heap.size w w' := by
  have hb := ((Below.refl w.heap.size w).alloc (Nat.le_refl _) (.cells #[.int .i32 x, .int .i32 y, .int .i32 z, .int .i32 t] 23)).alloc (by simp) (.cells #[.int .i32 x, .int .i32 y, .int .i32 z, .int .i32 t] 21)
  have hs := sl_lit4 .i32 21 (w.alloc (.cells #[.int .i32 x, .int .i32 y, .int .i32 z, .int .i32 t] 23)) x y z t
  simp only [World.size_alloc] at hs
  have hz := hid (wf4 p0 p1 p2 p3)
  obtain ⟨L, hL⟩ : ∃ L, sqs [x, y, z, t] 0 = L := ⟨_, rfl⟩
  rw [hL]
  replace hL := hid hL
  go_enter Tryz.func105, Tryz.ntmps105
  go_wp2_with fail
  refine (squares_any _ 4 [x, y, z, t] _ (by show 4 ≤ 1000; omega) hs.2.2.2.2 hz.out).mono ?_
  rintro e v ⟨rfl, rfl⟩
  rw [hL.out]
  go_wp2_with fail
  go_ret
  exact ⟨rfl, hb⟩

theorem rqnorm_any (x y z t : Int) (w : World) (p0 : B32 x) (p1 : B32 y) (p2 : B32 z) (p3 : B32 t) :
    Calls Tryz.prog 110 #[.agg #[.int .i32 x, .int .i32 y, .int .i32 z, .int .i32 t]] w fun e w' => e = .returned (.int .u64 (sqs [x, y, z, t] 0)) ∧ Below w.heap.size w w' := by
  have hb := ((Below.refl w.heap.size w).alloc (Nat.le_refl _) (.cells #[.int .i32 x, .int .i32 y, .int .i32 z, .int .i32 t] 23)).alloc (by simp) (.cells #[.int .i32 x, .int .i32 y, .int .i32 z, .int .i32 t] 21)
  have hs := sl_lit4 .i32 21 (w.alloc (.cells #[.int .i32 x, .int .i32 y, .int .i32 z, .int .i32 t] 23)) x y z t
  simp only [World.size_alloc] at hs
  have hz := hid (wf4 p0 p1 p2 p3)
  obtain ⟨L, hL⟩ : ∃ L, sqs [x, y, z, t] 0 = L := ⟨_, rfl⟩
  rw [hL]
  replace hL := hid hL
  go_enter Tryz.func110, Tryz.ntmps110
  go_wp2_with fail
  refine (rsquares_any _ 4 [x, y, z, t] _ (by show 4 ≤ 1000; omega) hs.2.2.2.2 hz.out).mono ?_
  rintro e v ⟨rfl, k, rfl⟩
  rw [hL.out]
  go_wp2_with fail
  go_ret
  exact ⟨rfl, bdrewN hb k⟩

theorem qone_any (w : World) : Calls Tryz.prog 40 #[] w fun e w' => e = .returned (.agg #[.int .i32 1073741824, .int .i32 0, .int .i32 0, .int .i32 0]) ∧ Below w.heap.size w w' := by
  go_enter Tryz.func40, Tryz.ntmps40
  go_wp2_with fail
  refine bodyPost_ret (v := .agg #[.int .i32 1073741824, .int .i32 0, .int .i32 0, .int .i32 0]) (by simp [results, Tryz.results40, go_sem]) rfl ⟨rfl, ?_⟩
  exact (Below.refl _ _).alloc (Nat.le_refl _) _

theorem rqone_any (w : World) : Calls Tryz.prog 16 #[] w fun e w' => e = .returned (.agg #[.int .i32 1073741824, .int .i32 0, .int .i32 0, .int .i32 0]) ∧ Below w.heap.size w w' := by
  go_enter Tryz.func16, Tryz.ntmps16
  go_wp2_with fail
  refine bodyPost_ret (v := .agg #[.int .i32 1073741824, .int .i32 0, .int .i32 0, .int .i32 0]) (by simp [results, Tryz.results16, go_sem]) rfl ⟨rfl, ?_⟩
  exact (Below.refl _ _).alloc (Nat.le_refl _) _

end Go.Proofs.YtpdpcdifnlellaaGreat
