/- Package vec and its reference: sums, differences, multiples, products. -/
import Derived.Test.YticfolcpnkkidaaVec2
namespace Go.Proofs.Yticfolcpnkkidaa
open Go.ChangeShapes Go.WideShapes Go.ChangeAt Go.RowKit
set_option linter.unusedVariables false

/-- Three new blocks of three cells. -/
theorem boxes (w : World) (T1 T2 T3 : TypeId) (a b c d e f g h i : Value) :
    ∃ W, ((w.alloc (.cells #[a, b, c] T1)).alloc (.cells #[d, e, f] T2)).alloc (.cells #[g, h, i] T3) = W ∧ Below w.heap.size w W ∧ w.heap.size + 3 ≤ W.heap.size ∧
    W.cell? ⟨w.heap.size, 0, none⟩ = some a ∧ W.cell? ⟨w.heap.size, 1, none⟩ = some b ∧ W.cell? ⟨w.heap.size, 2, none⟩ = some c ∧
    W.cell? ⟨w.heap.size + 1, 0, none⟩ = some d ∧ W.cell? ⟨w.heap.size + 1, 1, none⟩ = some e ∧ W.cell? ⟨w.heap.size + 1, 2, none⟩ = some f ∧
    W.cell? ⟨w.heap.size + 1 + 1, 0, none⟩ = some g ∧ W.cell? ⟨w.heap.size + 1 + 1, 1, none⟩ = some h ∧ W.cell? ⟨w.heap.size + 1 + 1, 2, none⟩ = some i ∧
    (∀ j, W.frozen? ⟨w.heap.size + 1, j, none⟩ = false) ∧ (∀ j, W.frozen? ⟨w.heap.size + 1 + 1, j, none⟩ = false) := by
  generalize ho1 : Obj.cells #[a, b, c] T1 = o1
  generalize ho2 : Obj.cells #[d, e, f] T2 = o2
  generalize ho3 : Obj.cells #[g, h, i] T3 = o3
  have e1 : (w.alloc o1).heap.size = w.heap.size + 1 := by simp
  have e2 : ((w.alloc o1).alloc o2).heap.size = w.heap.size + 1 + 1 := by simp
  have e3 : (((w.alloc o1).alloc o2).alloc o3).heap.size = w.heap.size + 1 + 1 + 1 := by simp
  have h1 : (((w.alloc o1).alloc o2).alloc o3).heap[w.heap.size]? = some o1 := by
    rw [Below.heap_alloc _ _ _ (by omega), Below.heap_alloc _ _ _ (by omega)]; exact heap_new _ _ _ rfl
  have h2 : (((w.alloc o1).alloc o2).alloc o3).heap[w.heap.size + 1]? = some o2 := by
    rw [Below.heap_alloc _ _ _ (by omega)]; exact heap_new _ _ _ e1.symm
  have h3 : (((w.alloc o1).alloc o2).alloc o3).heap[w.heap.size + 1 + 1]? = some o3 := heap_new _ _ _ e2.symm
  have hb : Below w.heap.size w (((w.alloc o1).alloc o2).alloc o3) := (((Below.refl _ _).alloc (Nat.le_refl _) _).alloc (by simp) _).alloc (by simp; omega) _
  refine ⟨_, rfl, hb, by omega, ?_⟩
  generalize ((w.alloc o1).alloc o2).alloc o3 = W at *
  subst ho1 ho2 ho3
  exact ⟨by rw [cell_of_row W _ _ _ _ _ h1]; rfl, by rw [cell_of_row W _ _ _ _ _ h1]; rfl, by rw [cell_of_row W _ _ _ _ _ h1]; rfl, by rw [cell_of_row W _ _ _ _ _ h2]; rfl, by rw [cell_of_row W _ _ _ _ _ h2]; rfl, by rw [cell_of_row W _ _ _ _ _ h2]; rfl, by rw [cell_of_row W _ _ _ _ _ h3]; rfl, by rw [cell_of_row W _ _ _ _ _ h3]; rfl, by rw [cell_of_row W _ _ _ _ _ h3]; rfl, fun j => frozen_of_row W _ _ _ _ h2, fun j => frozen_of_row W _ _ _ _ h3⟩
theorem boxes2 (w : World) (T1 T2 : TypeId) (a b c d e f : Value) :
    ∃ W, (w.alloc (.cells #[a, b, c] T1)).alloc (.cells #[d, e, f] T2) = W ∧ Below w.heap.size w W ∧ w.heap.size + 2 ≤ W.heap.size ∧
    W.cell? ⟨w.heap.size, 0, none⟩ = some a ∧ W.cell? ⟨w.heap.size, 1, none⟩ = some b ∧ W.cell? ⟨w.heap.size, 2, none⟩ = some c ∧
    W.cell? ⟨w.heap.size + 1, 0, none⟩ = some d ∧ W.cell? ⟨w.heap.size + 1, 1, none⟩ = some e ∧ W.cell? ⟨w.heap.size + 1, 2, none⟩ = some f ∧
    (∀ j, W.frozen? ⟨w.heap.size, j, none⟩ = false) ∧ (∀ j, W.frozen? ⟨w.heap.size + 1, j, none⟩ = false) := by
  generalize ho1 : Obj.cells #[a, b, c] T1 = o1
  generalize ho2 : Obj.cells #[d, e, f] T2 = o2
  have e1 : (w.alloc o1).heap.size = w.heap.size + 1 := by simp
  have e2 : ((w.alloc o1).alloc o2).heap.size = w.heap.size + 1 + 1 := by simp
  have h1 : ((w.alloc o1).alloc o2).heap[w.heap.size]? = some o1 := by
    rw [Below.heap_alloc _ _ _ (by omega)]; exact heap_new _ _ _ rfl
  have h2 : ((w.alloc o1).alloc o2).heap[w.heap.size + 1]? = some o2 := heap_new _ _ _ e1.symm
  have hb : Below w.heap.size w ((w.alloc o1).alloc o2) := ((Below.refl _ _).alloc (Nat.le_refl _) _).alloc (by simp) _
  refine ⟨_, rfl, hb, by omega, ?_⟩
  generalize (w.alloc o1).alloc o2 = W at *
  subst ho1 ho2
  exact ⟨by rw [cell_of_row W _ _ _ _ _ h1]; rfl, by rw [cell_of_row W _ _ _ _ _ h1]; rfl, by rw [cell_of_row W _ _ _ _ _ h1]; rfl, by rw [cell_of_row W _ _ _ _ _ h2]; rfl, by rw [cell_of_row W _ _ _ _ _ h2]; rfl, by rw [cell_of_row W _ _ _ _ _ h2]; rfl, fun j => frozen_of_row W _ _ _ _ h1, fun j => frozen_of_row W _ _ _ _ h2⟩
theorem kp3 (N : Nat) (X : List Nat) (U : World) (b : Nat) (x y z : Value) (h : b ∈ X ∨ N ≤ b) : Kp N X U (((U.setCell ⟨b, 0, none⟩ x).setCell ⟨b, 1, none⟩ y).setCell ⟨b, 2, none⟩ z) :=
  (Kp.setCell U ⟨b, 0, none⟩ x h).trans ((Kp.setCell _ ⟨b, 1, none⟩ y h).trans (Kp.setCell _ ⟨b, 2, none⟩ z h))
theorem below3 {B : Nat} {w U : World} (hb : Below B w U) (b : Nat) (x y z : Value) (h : B ≤ b) : Below B w (((U.setCell ⟨b, 0, none⟩ x).setCell ⟨b, 1, none⟩ y).setCell ⟨b, 2, none⟩ z) :=
  ((hb.setCell (p := ⟨b, 0, none⟩) h x).setCell (p := ⟨b, 1, none⟩) h y).setCell (p := ⟨b, 2, none⟩) h z

theorem cut_any (x y z : Int) (w : World) (p0 : -9223372036854775808 ≤ x ∧ x ≤ 9223372036854775807) (p1 : -9223372036854775808 ≤ y ∧ y ≤ 9223372036854775807) (p2 : -9223372036854775808 ≤ z ∧ z ≤ 9223372036854775807) :
    Calls Try.prog 29 #[.int .i64 x, .int .i64 y, .int .i64 z] w fun e w' => e = .returned (cut3 (fun i => sel i x y z)) ∧ Below w.heap.size w w' := by
  have hV : cut3 (fun i => sel i x y z) = .tuple #[.agg #[.int .i32 (clampS x), .int .i32 (clampS y), .int .i32 (clampS z)], .int .i64 ((0 + (if clampB x then 1 else 0) + (if clampB y then 1 else 0) + (if clampB z then 1 else 0) : Nat) : Int)] := rfl
  replace hV := hid hV
  have hbel := (Below.refl w.heap.size w).alloc (Nat.le_refl _) (.cells #[.int .i32 0, .int .i32 0, .int .i32 0] 25)
  have c0 : (w.alloc (.cells #[.int .i32 0, .int .i32 0, .int .i32 0] 25)).cell? ⟨w.heap.size, 0, none⟩ = some (.int .i32 0) := by simp
  have c1 : (w.alloc (.cells #[.int .i32 0, .int .i32 0, .int .i32 0] 25)).cell? ⟨w.heap.size, 1, none⟩ = some (.int .i32 0) := by simp
  have c2 : (w.alloc (.cells #[.int .i32 0, .int .i32 0, .int .i32 0] 25)).cell? ⟨w.heap.size, 2, none⟩ = some (.int .i32 0) := by simp
  have f0 : ∀ j, (w.alloc (.cells #[.int .i32 0, .int .i32 0, .int .i32 0] 25)).frozen? ⟨w.heap.size, j, none⟩ = false := fun j => frozen_of_row _ _ _ _ _ (heap_new _ _ _ rfl)
  have y0 := f0 0
  have y1 := f0 1
  have y2 := f0 2
  clear f0
  go_enter Try.func29, Try.ntmps29
  go_wp2_with fail
  generalize w.alloc (.cells #[.int .i32 0, .int .i32 0, .int .i32 0] 25) = W at *
  refine (rclamp_any x _ p0.1 p0.2).mono ?_
  rintro e w2 ⟨rfl, rfl⟩
  rw [clampV_def]
  generalize clampS x = s0 at *
  generalize clampB x = b0 at *
  cases b0
  all_goals
    go_wp2_with fail
    refine (rclamp_any y _ p1.1 p1.2).mono ?_
    rintro e w3 ⟨rfl, rfl⟩
    rw [clampV_def]
    generalize clampS y = s1 at *
    generalize clampB y = b1 at *
    cases b1
    all_goals
      go_wp2_with fail
      refine (rclamp_any z _ p2.1 p2.2).mono ?_
      rintro e w4 ⟨rfl, rfl⟩
      rw [clampV_def]
      generalize clampS z = s2 at *
      generalize clampB z = b2 at *
      cases b2
      all_goals
        go_wp2_with fail
        refine bodyPost_ret (v := .tuple #[.agg #[.int .i32 s0, .int .i32 s1, .int .i32 s2], .int .i64 _]) (by simp [results, Try.results29, go_sem, c0, c1, c2]; rfl) rfl ⟨by rw [hV.out]; rfl, ?_⟩
        exact below3 hbel _ _ _ _ (Nat.le_refl _)

theorem times_any (a b f : Int) (w : World) (h1 : B32 a) (h2 : B32 b) :
    Calls Try.prog 55 #[.int .i32 a, .int .i32 b, .int .i64 f] w fun e w' => e = .returned (.int .i64 (roundS (a * b) f)) ∧ w' = w := by
  obtain ⟨m1, m2⟩ := mul_bd a b h1.1 h1.2 h2.1 h2.2
  have fm : IntKind.i64.wrap (a * b) = a * b := by rw [IntKind.wrap_i64]; omega
  have g1 := h1.1
  have g2 := h1.2
  have g3 := h2.1
  have g4 := h2.2
  obtain ⟨P, hP⟩ : ∃ P, a * b = P := ⟨_, rfl⟩
  rw [hP] at fm m1 m2 ⊢
  go_enter Try.func55, Try.ntmps55
  go_wp2_with fail
  refine (rround_any P f _ (by omega) (by omega)).mono ?_
  rintro e w1 ⟨rfl, rfl⟩
  go_wp2_with fail
  go_ret
  exact ⟨rfl, rfl⟩

end Go.Proofs.Yticfolcpnkkidaa
