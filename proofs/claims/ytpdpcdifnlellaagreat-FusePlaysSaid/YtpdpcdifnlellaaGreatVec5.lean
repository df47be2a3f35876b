/- Package vec and its reference: products, lengths. -/
import Derived.Test.YtpdpcdifnlellaaGreatVec4
namespace Go.Proofs.YtpdpcdifnlellaaGreat
open Go.ChangeShapes Go.WideShapes Go.ChangeAt Go.RowKit
set_option linter.unusedVariables false

theorem sl_lit3 (k : IntKind) (E : TypeId) (w : World) (x y z : Int) : Sl k (w.alloc (.cells #[.int k x, .int k y, .int k z] E)) (some ⟨w.heap.size, 0, none⟩) 3 3 [x, y, z] := by
  obtain ⟨a, cap, hv, hs⟩ := (Own.lit k E w [x, y, z] w.heap.size (Nat.le_refl _) (by unfold maxLen; simp) #[.int k x, .int k y, .int k z] rfl).sl
  cases hv
  exact hs
theorem i32_wf {n : Int} (h : B32 n) : (Lit.int .i32 n).wf = true := by
  have h3 : IntKind.i32.min = -2147483648 := rfl
  have h4 : IntKind.i32.max = 2147483647 := rfl
  simp [Lit.wf, h3, h4]; exact h
theorem wf3 {x y z : Int} (p0 : B32 x) (p1 : B32 y) (p2 : B32 z) : ∀ n ∈ [x, y, z], (Lit.int .i32 n).wf = true := by
  intro n hn
  simp at hn
  rcases hn with rfl | rfl | rfl
  · exact i32_wf p0
  · exact i32_wf p1
  · exact i32_wf p2

/-- The product of two vectors, not cut. -/
def dotN (x y z a b c : Int) : Int := roundS (x * a) 16 + roundS (y * b) 16 + roundS (z * c) 16
theorem dot_bd (x y z a b c : Int) (p0 : B32 x) (p1 : B32 y) (p2 : B32 z) (q0 : B32 a) (q1 : B32 b) (q2 : B32 c) : -9223372036854775808 ≤ dotN x y z a b c ∧ dotN x y z a b c ≤ 9223372036854775807 := by
  have h1 := round16_bd x a p0 q0
  have h2 := round16_bd y b p1 q1
  have h3 := round16_bd z c p2 q2
  unfold dotN
  omega

theorem vlength_any (x y z : Int) (w : World) (p0 : B32 x) (p1 : B32 y) (p2 : B32 z) :
    Calls Tryz.prog 17 #[.agg #[.int .i32 x, .int .i32 y, .int .i32 z]] w fun e w' => e = .returned (.int .u32 (lengthS [x, y, z])) ∧ Below w.heap.size w w' := by
  have hb := ((Below.refl w.heap.size w).alloc (Nat.le_refl _) (.cells #[.int .i32 x, .int .i32 y, .int .i32 z] 25)).alloc (by simp) (.cells #[.int .i32 x, .int .i32 y, .int .i32 z] 21)
  have hs := sl_lit3 .i32 21 (w.alloc (.cells #[.int .i32 x, .int .i32 y, .int .i32 z] 25)) x y z
  simp only [World.size_alloc] at hs
  have hz : ∀ n ∈ [x, y, z], (Lit.int .i32 n).wf = true := wf3 p0 p1 p2
  replace hz := hid hz
  obtain ⟨L, hL⟩ : ∃ L, lengthS [x, y, z] = L := ⟨_, rfl⟩
  rw [hL]
  replace hL := hid hL
  go_enter Tryz.func17, Tryz.ntmps17
  go_wp2_with fail
  refine (length_any _ 3 [x, y, z] _ (by show 3 ≤ 1000; omega) hs.2.2.2.2 hz.out).mono ?_
  rintro e v ⟨rfl, rfl⟩
  rw [hL.out]
  go_wp2_with fail
  go_ret
  exact ⟨rfl, hb⟩

theorem rvlength_any (x y z : Int) (w : World) (p0 : B32 x) (p1 : B32 y) (p2 : B32 z) :
    Calls Tryz.prog 24 #[.agg #[.int .i32 x, .int .i32 y, .int .i32 z]] w fun e w' => e = .returned (.int .u32 (lengthS [x, y, z])) ∧ Below w.heap.size w w' := by
  have hb := ((Below.refl w.heap.size w).alloc (Nat.le_refl _) (.cells #[.int .i32 x, .int .i32 y, .int .i32 z] 25)).alloc (by simp) (.cells #[.int .i32 x, .int .i32 y, .int .i32 z] 21)
  have hs := sl_lit3 .i32 21 (w.alloc (.cells #[.int .i32 x, .int .i32 y, .int .i32 z] 25)) x y z
  simp only [World.size_alloc] at hs
  have hz : ∀ n ∈ [x, y, z], (Lit.int .i32 n).wf = true := wf3 p0 p1 p2
  replace hz := hid hz
  obtain ⟨L, hL⟩ : ∃ L, lengthS [x, y, z] = L := ⟨_, rfl⟩
  rw [hL]
  replace hL := hid hL
  go_enter Tryz.func24, Tryz.ntmps24
  go_wp2_with fail
  refine (rlength_any _ 3 [x, y, z] _ (by show 3 ≤ 1000; omega) hs.2.2.2.2 hz.out).mono ?_
  rintro e v ⟨rfl, k, rfl⟩
  rw [hL.out]
  go_wp2_with fail
  go_ret
  exact ⟨rfl, bdrewN hb k⟩

end Go.Proofs.YtpdpcdifnlellaaGreat
