/- Package vec and its reference: sums, differences, multiples, products. -/
import Derived.Test.YtpdpcdifnlellaaGreatVec2
namespace Go.Proofs.YtpdpcdifnlellaaGreat
open Go.ChangeShapes Go.WideShapes Go.ChangeAt Go.RowKit
set_option linter.unusedVariables false

/-- Three new blocks of three cells. -/
theorem boxes (w : World) (T1 T2 T3 : TypeId) (a b c d e f g h i : Value) :
    ∃ W, ((w.alloc (.cells #[a, b, c] T1)).alloc (.cells #[d, e, f] T2)).alloc (.cells #[g, h, i] T3) = W ∧ Below w.heap.size w W ∧ w.heap.size + 3 ≤ W.heap.size ∧
    W.cell? ⟨w.heap.size, 0, none⟩ = some a ∧ W.cell? ⟨w.heap.size, 1, none⟩ = some b ∧ W.cell? ⟨w.heap.size, 2, none⟩ = some c ∧
    W.cell? ⟨w.heap.size + 1, 0, none⟩ = some d ∧ W.cell? ⟨w.heap.size + 1, 1, none⟩ = some e ∧ W.cell? ⟨w.heap.size + 1, 2, none⟩ = some f ∧
    W.cell? ⟨w.heap.size + 1 + 1, 0, none⟩ = some g ∧ W.cell? ⟨w.heap.size + 1 + 1, 1, none⟩ = some h ∧ W.cell? ⟨w.heap.size + 1 + 1, 2, none⟩ = some i ∧
    (∀ j, W.frozen? ⟨w.heap.size + 1, j, none⟩ = false) ∧ (∀ j, W.frozen? ⟨w.heap.size + 1 + 1, j, none⟩ = false) := by
  generalize ho1 : Obj.cells #[a, b, c] T1 = o1
  generalize ho2 : Obj.cells #[d, e, f] T2 = o2
  generalize ho3 : Obj.cells #[g, h, i] T3 = o3
  have e1 : (w.alloc o1).heap.size = w.heap.size + 1 := by simp
  have e2 : ((w.alloc o1).alloc o2).heap.size = w.heap.size + 1 + 1 := by simp
  have e3 : (((w.alloc o1).alloc o2).alloc o3).heap.size = w.heap.size + 1 + 1 + 1 := by simp
  have h1 : (((w.alloc o1).alloc o2).alloc o3).heap[w.heap.size]? = some o1 := by
    rw [Below.heap_alloc _ _ _ (by omega), Below.heap_alloc _ _ _ (by omega)]; exact heap_new _ _ _ rfl
  have h2 : (((w.alloc o1).alloc o2).alloc o3).heap[w.heap.size + 1]? = some o2 := by
    rw [Below.heap_alloc _ _ _ (by omega)]; exact heap_new _ _ _ e1.symm
  have h3 : (((w.alloc o1).alloc o2).alloc o3).heap[w.heap.size + 1 + 1]? = some o3 := heap_new _ _ _ e2.symm
  have hb : Below w.heap.size w (((w.alloc o1).alloc o2).alloc o3) := (((Below.refl _ _).alloc (Nat.le_refl _) _).alloc (by simp) _).alloc (by simp; omega) _
  refine ⟨_, rfl, hb, by omega, ?_⟩
  generalize ((w.alloc o1).alloc o2).alloc o3 = W at *
  subst ho1 ho2 ho3
  exact ⟨by rw [cell_of_row W _ _ _ _ _ h1]; rfl, by rw [cell_of_row W _ _ _ _ _ h1]; rfl, by rw [cell_of_row W _ _ _ _ _ h1]; rfl, by rw [cell_of_row W _ _ _ _ _ h2]; rfl, by rw [cell_of_row W _ _ _ _ _ h2]; rfl, by rw [cell_of_row W _ _ _ _ _ h2]; rfl, by rw [cell_of_row W _ _ _ _ _ h3]; rfl, by rw [cell_of_row W _ _ _ _ _ h3]; rfl, by rw [cell_of_row W _ _ _ _ _ h3]; rfl, fun j => frozen_of_row W _ _ _ _ h2, fun j => frozen_of_row W _ _ _ _ h3⟩
theorem boxes2 (w : World) (T1 T2 : TypeId) (a b c d e f : Value) :
    ∃ W, (w.alloc (.cells #[a, b, c] T1)).alloc (.cells #[d, e, f] T2) = W ∧ Below w.heap.size w W ∧ w.heap.size + 2 ≤ W.heap.size ∧
    W.cell? ⟨w.heap.size, 0, none⟩ = some a ∧ W.cell? ⟨w.heap.size, 1, none⟩ = some b ∧ W.cell? ⟨w.heap.size, 2, none⟩ = some c ∧
    W.cell? ⟨w.heap.size + 1, 0, none⟩ = some d ∧ W.cell? ⟨w.heap.size + 1, 1, none⟩ = some e ∧ W.cell? ⟨w.heap.size + 1, 2, none⟩ = some f ∧
    (∀ j, W.frozen? ⟨w.heap.size, j, none⟩ = false) ∧ (∀ j, W.frozen? ⟨w.heap.size + 1, j, none⟩ = false) := by
  generalize ho1 : Obj.cells #[a, b, c] T1 = o1
  generalize ho2 : Obj.cells #[d, e, f] T2 = o2
  have e1 : (w.alloc o1).heap.size = w.heap.size + 1 := by simp
  have e2 : ((w.alloc o1).alloc o2).heap.size = w.heap.size + 1 + 1 := by simp
  have h1 : ((w.alloc o1).alloc o2).heap[w.heap.size]? = some o1 := by
    rw [Below.heap_alloc _ _ _ (by omega)]; exact heap_new _ _ _ rfl
  have h2 : ((w.alloc o1).alloc o2).heap[w.heap.size + 1]? = some o2 := heap_new _ _ _ e1.symm
  have hb : Below w.heap.size w ((w.alloc o1).alloc o2) := ((Below.refl _ _).alloc (Nat.le_refl _) _).alloc (by simp) _
  refine ⟨_, rfl, hb, by omega, ?_⟩
  generalize (w.alloc o1).alloc o2 = W at *
  subst ho1 ho2
  exact ⟨by rw [cell_of_row W _ _ _ _ _ h1]; rfl, by rw [cell_of_row W _ _ _ _ _ h1]; rfl, by rw [cell_of_row W _ _ _ _ _ h1]; rfl, by rw [cell_of_row W _ _ _ _ _ h2]; rfl, by rw [cell_of_row W _ _ _ _ _ h2]; rfl, by rw [cell_of_row W _ _ _ _ _ h2]; rfl, fun j => frozen_of_row W _ _ _ _ h1, fun j => frozen_of_row W _ _ _ _ h2⟩
theorem kp3 (N : Nat) (X : List Nat) (U : World) (b : Nat) (x y z : Value) (h : b ∈ X ∨ N ≤ b) : Kp N X U (((U.setCell ⟨b, 0, none⟩ x).setCell ⟨b, 1, none⟩ y).setCell ⟨b, 2, none⟩ z) :=
  (Kp.setCell U ⟨b, 0, none⟩ x h).trans ((Kp.setCell _ ⟨b, 1, none⟩ y h).trans (Kp.setCell _ ⟨b, 2, none⟩ z h))
theorem below3 {B : Nat} {w U : World} (hb : Below B w U) (b : Nat) (x y z : Value) (h : B ≤ b) : Below B w (((U.setCell ⟨b, 0, none⟩ x).setCell ⟨b, 1, none⟩ y).setCell ⟨b, 2, none⟩ z) :=
  ((hb.setCell (p := ⟨b, 0, none⟩) h x).setCell (p := ⟨b, 1, none⟩) h y).setCell (p := ⟨b, 2, none⟩) h z

set_option maxRecDepth 100000 in
set_option maxHeartbeats 2000000 in
theorem vadd_any (x y z a b c : Int) (w : World) (p0 : B32 x) (p1 : B32 y) (p2 : B32 z) (q0 : B32 a) (q1 : B32 b) (q2 : B32 c) :
    Calls Tryz.prog 61 #[.agg #[.int .i32 x, .int .i32 y, .int .i32 z], .agg #[.int .i32 a, .int .i32 b, .int .i32 c]] w fun e w' => e = .returned (cut3 (fun i => sel i x y z + sel i a b c)) ∧ Below w.heap.size w w' := by
  obtain ⟨W, hW, hB, hN, c0, c1, c2, d0, d1, d2, x0, x1, x2, -, hf⟩ := boxes w 25 25 25 (.int .i32 x) (.int .i32 y) (.int .i32 z) (.int .i32 a) (.int .i32 b) (.int .i32 c) (.int .i32 0) (.int .i32 0) (.int .i32 0)
  have y0 := hf 0
  have y1 := hf 1
  have y2 := hf 2
  clear hf
  have hmf : ∀ (fn : Fn) (first cap : Array Value) (w : World), (Instr.makeFunc fn first cap).run Tryz.prog w = .ok (.func fn first cap) w := fun _ _ _ _ => rfl
  have hD := hid (fun (v : World) => done_sum x y z a b c v p0 p1 p2 q0 q1 q2)
  clear p0 p1 p2 q0 q1 q2
  go_enter Tryz.func61, Tryz.ntmps61
  go_wp2_with fail
  have hst : After W W.drew := (Below.refl _ _).drew
  replace y0 := After.frozenB hst x0 y0
  replace y1 := After.frozenB hst x1 y1
  replace y2 := After.frozenB hst x2 y2
  replace c0 := After.cellB hst c0
  replace c1 := After.cellB hst c1
  replace c2 := After.cellB hst c2
  replace d0 := After.cellB hst d0
  replace d1 := After.cellB hst d1
  replace d2 := After.cellB hst d2
  replace x0 := After.cellB hst x0
  replace x1 := After.cellB hst x1
  replace x2 := After.cellB hst x2
  replace hB := bthen hB hst
  replace hN := Nat.le_trans hN (Below.size hst)
  clear hst
  refine wp_region_K (N := w.heap.size + 3) (X := [w.heap.size + 1 + 1]) (by kernel_rfl) ?_
  generalize W.drew = U at *
  refine wpAnyK_take 0 rfl (by kernel_rfl) (by kernel_rfl) (by kernel_rfl) (fun _ _ _ _ h => h) ⟨_, Or.inl ⟨by rfl, fun w' hb => by (have h0 := hb.cellB (by simp) (by simp <;> omega) c0; have h1 := hb.cellB (by simp) (by simp <;> omega) c1; have h2 := hb.cellB (by simp) (by simp <;> omega) c2; go_simp; try with_reducible rfl)⟩, _, by (go_simp; try rfl), ?_⟩
  refine wpAnyK_take 2 rfl (by kernel_rfl) (by kernel_rfl) (by kernel_rfl) (fun _ _ _ _ h => h) ⟨_, Or.inl ⟨by rfl, fun w' hb => by (have h0 := hb.cellB (by simp) (by simp <;> omega) d0; have h1 := hb.cellB (by simp) (by simp <;> omega) d1; have h2 := hb.cellB (by simp) (by simp <;> omega) d2; go_simp; try with_reducible rfl)⟩, _, by (go_simp; try rfl), ?_⟩
  refine wpAnyK_only 1 rfl (by kernel_rfl) (by rfl) (fun K hK => ?_)
  go_simp
  refine (parts_any x y z _).mono ?_
  rintro e v1 ⟨rfl, hst⟩
  go_wp2_with fail
  refine ⟨Kp.of hst hN, ?_⟩
  replace y0 := After.frozenB hst x0 y0
  replace y1 := After.frozenB hst x1 y1
  replace y2 := After.frozenB hst x2 y2
  replace c0 := After.cellB hst c0
  replace c1 := After.cellB hst c1
  replace c2 := After.cellB hst c2
  replace d0 := After.cellB hst d0
  replace d1 := After.cellB hst d1
  replace d2 := After.cellB hst d2
  replace x0 := After.cellB hst x0
  replace x1 := After.cellB hst x1
  replace x2 := After.cellB hst x2
  replace hB := bthen hB hst
  replace hN := Nat.le_trans hN (Below.size hst)
  clear hst
  refine wpAnyK_only 3 rfl (by kernel_rfl) (by rfl) (fun K hK => ?_)
  go_simp
  refine (parts_any a b c _).mono ?_
  rintro e v2 ⟨rfl, hst⟩
  go_wp2_with fail
  refine ⟨Kp.of hst hN, ?_⟩
  replace y0 := After.frozenB hst x0 y0
  replace y1 := After.frozenB hst x1 y1
  replace y2 := After.frozenB hst x2 y2
  replace c0 := After.cellB hst c0
  replace c1 := After.cellB hst c1
  replace c2 := After.cellB hst c2
  replace d0 := After.cellB hst d0
  replace d1 := After.cellB hst d1
  replace d2 := After.cellB hst d2
  replace x0 := After.cellB hst x0
  replace x1 := After.cellB hst x1
  replace x2 := After.cellB hst x2
  replace hB := bthen hB hst
  replace hN := Nat.le_trans hN (Below.size hst)
  clear hst
  refine wpAnyK_take 4 rfl (by kernel_rfl) (by kernel_rfl) (by kernel_rfl) (fun _ _ _ _ h => h) ⟨_, Or.inl ⟨by rfl, fun w' hb => by (go_simp; try with_reducible rfl)⟩, _, by (go_simp; try rfl), ?_⟩
  refine wpAnyK_only 5 rfl (by kernel_rfl) (by rfl) (fun K hK => ?_)
  go_simp
  refine hK _ _ ?_
  refine ⟨Kp.refl _ _ _, ?_⟩
  refine wpAnyK_take 6 rfl (by kernel_rfl) (by kernel_rfl) (by kernel_rfl) (fun _ _ _ _ h => h) ⟨_, Or.inl ⟨by rfl, fun w' hb => by (go_simp; try with_reducible rfl)⟩, _, by (go_simp; try rfl), ?_⟩
  refine wpAnyK_only 7 rfl (by kernel_rfl) (by rfl) (fun K hK => ?_)
  go_simp
  refine (hD.out _).mono ?_
  rintro e v3 ⟨rfl, hst⟩
  have hV : cut3 (fun i => sel i x y z + sel i a b c) = .tuple #[.agg #[.int .i32 (clampS ((fun i => sel i x y z + sel i a b c) 0)), .int .i32 (clampS ((fun i => sel i x y z + sel i a b c) 1)), .int .i32 (clampS ((fun i => sel i x y z + sel i a b c) 2))], .int .i64 (cuts (fun i => sel i x y z + sel i a b c) 3)] := rfl
  replace hV := hid hV
  rw [hV.out]
  generalize clampS ((fun i => sel i x y z + sel i a b c) 0) = s0 at *
  generalize clampS ((fun i => sel i x y z + sel i a b c) 1) = s1 at *
  generalize clampS ((fun i => sel i x y z + sel i a b c) 2) = s2 at *
  generalize cuts (fun i => sel i x y z + sel i a b c) 3 = cn at *
  go_wp2_with fail
  refine ⟨Kp.of hst hN, ?_⟩
  replace y0 := After.frozenB hst x0 y0
  replace y1 := After.frozenB hst x1 y1
  replace y2 := After.frozenB hst x2 y2
  replace c0 := After.cellB hst c0
  replace c1 := After.cellB hst c1
  replace c2 := After.cellB hst c2
  replace d0 := After.cellB hst d0
  replace d1 := After.cellB hst d1
  replace d2 := After.cellB hst d2
  replace x0 := After.cellB hst x0
  replace x1 := After.cellB hst x1
  replace x2 := After.cellB hst x2
  replace hB := bthen hB hst
  replace hN := Nat.le_trans hN (Below.size hst)
  clear hst
  refine wpAnyK_take 8 rfl (by kernel_rfl) (by kernel_rfl) (by kernel_rfl) (fun _ _ _ _ h => h) ⟨_, Or.inl ⟨by rfl, fun w' hb => by (go_simp; try with_reducible rfl)⟩, _, by (go_simp; try rfl), ?_⟩
  refine wpAnyK_take 9 rfl (by kernel_rfl) (by kernel_rfl) (by kernel_rfl) (fun _ _ _ _ h => h) ⟨_, Or.inl ⟨by rfl, fun w' hb => by (go_simp; try with_reducible rfl)⟩, _, by (go_simp; try rfl), ?_⟩
  refine wpAnyK_only 10 rfl (by kernel_rfl) (by rfl) (fun K hK => ?_)
  go_simp
  refine hK _ _ ?_
  refine ⟨kp3 _ _ _ _ _ _ _ (Or.inl (by simp)), ?_⟩
  refine wpAnyK_take 11 rfl (by kernel_rfl) (by kernel_rfl) (by kernel_rfl) (fun _ _ _ _ h => h) ⟨_, Or.inl ⟨by rfl, fun w' hb => by (go_simp; try with_reducible rfl)⟩, _, by (go_simp; try rfl), ?_⟩
  refine wpAnyK_done (by kernel_rfl) ?_ _
  go_wp2_with fail
  refine bodyPost_ret (v := .tuple #[.agg #[.int .i32 s0, .int .i32 s1, .int .i32 s2], .int .i64 cn]) (by simp [results, Tryz.results61, go_sem, x0, x1, x2]) rfl ⟨hV.out.symm ▸ rfl, ?_⟩
  exact below3 hB _ _ _ _ (by omega)

set_option maxRecDepth 100000 in
set_option maxHeartbeats 2000000 in
theorem vsub_any (x y z a b c : Int) (w : World) (p0 : B32 x) (p1 : B32 y) (p2 : B32 z) (q0 : B32 a) (q1 : B32 b) (q2 : B32 c) :
    Calls Tryz.prog 59 #[.agg #[.int .i32 x, .int .i32 y, .int .i32 z], .agg #[.int .i32 a, .int .i32 b, .int .i32 c]] w fun e w' => e = .returned (cut3 (fun i => sel i x y z - sel i a b c)) ∧ Below w.heap.size w w' := by
  obtain ⟨W, hW, hB, hN, c0, c1, c2, d0, d1, d2, x0, x1, x2, -, hf⟩ := boxes w 25 25 25 (.int .i32 x) (.int .i32 y) (.int .i32 z) (.int .i32 a) (.int .i32 b) (.int .i32 c) (.int .i32 0) (.int .i32 0) (.int .i32 0)
  have y0 := hf 0
  have y1 := hf 1
  have y2 := hf 2
  clear hf
  have hmf : ∀ (fn : Fn) (first cap : Array Value) (w : World), (Instr.makeFunc fn first cap).run Tryz.prog w = .ok (.func fn first cap) w := fun _ _ _ _ => rfl
  have hD := hid (fun (v : World) => done_less x y z a b c v p0 p1 p2 q0 q1 q2)
  clear p0 p1 p2 q0 q1 q2
  go_enter Tryz.func59, Tryz.ntmps59
  go_wp2_with fail
  have hst : After W W.drew := (Below.refl _ _).drew
  replace y0 := After.frozenB hst x0 y0
  replace y1 := After.frozenB hst x1 y1
  replace y2 := After.frozenB hst x2 y2
  replace c0 := After.cellB hst c0
  replace c1 := After.cellB hst c1
  replace c2 := After.cellB hst c2
  replace d0 := After.cellB hst d0
  replace d1 := After.cellB hst d1
  replace d2 := After.cellB hst d2
  replace x0 := After.cellB hst x0
  replace x1 := After.cellB hst x1
  replace x2 := After.cellB hst x2
  replace hB := bthen hB hst
  replace hN := Nat.le_trans hN (Below.size hst)
  clear hst
  refine wp_region_K (N := w.heap.size + 3) (X := [w.heap.size + 1 + 1]) (by kernel_rfl) ?_
  generalize W.drew = U at *
  refine wpAnyK_take 0 rfl (by kernel_rfl) (by kernel_rfl) (by kernel_rfl) (fun _ _ _ _ h => h) ⟨_, Or.inl ⟨by rfl, fun w' hb => by (have h0 := hb.cellB (by simp) (by simp <;> omega) c0; have h1 := hb.cellB (by simp) (by simp <;> omega) c1; have h2 := hb.cellB (by simp) (by simp <;> omega) c2; go_simp; try with_reducible rfl)⟩, _, by (go_simp; try rfl), ?_⟩
  refine wpAnyK_take 2 rfl (by kernel_rfl) (by kernel_rfl) (by kernel_rfl) (fun _ _ _ _ h => h) ⟨_, Or.inl ⟨by rfl, fun w' hb => by (have h0 := hb.cellB (by simp) (by simp <;> omega) d0; have h1 := hb.cellB (by simp) (by simp <;> omega) d1; have h2 := hb.cellB (by simp) (by simp <;> omega) d2; go_simp; try with_reducible rfl)⟩, _, by (go_simp; try rfl), ?_⟩
  refine wpAnyK_only 1 rfl (by kernel_rfl) (by rfl) (fun K hK => ?_)
  go_simp
  refine (parts_any x y z _).mono ?_
  rintro e v1 ⟨rfl, hst⟩
  go_wp2_with fail
  refine ⟨Kp.of hst hN, ?_⟩
  replace y0 := After.frozenB hst x0 y0
  replace y1 := After.frozenB hst x1 y1
  replace y2 := After.frozenB hst x2 y2
  replace c0 := After.cellB hst c0
  replace c1 := After.cellB hst c1
  replace c2 := After.cellB hst c2
  replace d0 := After.cellB hst d0
  replace d1 := After.cellB hst d1
  replace d2 := After.cellB hst d2
  replace x0 := After.cellB hst x0
  replace x1 := After.cellB hst x1
  replace x2 := After.cellB hst x2
  replace hB := bthen hB hst
  replace hN := Nat.le_trans hN (Below.size hst)
  clear hst
  refine wpAnyK_only 3 rfl (by kernel_rfl) (by rfl) (fun K hK => ?_)
  go_simp
  refine (parts_any a b c _).mono ?_
  rintro e v2 ⟨rfl, hst⟩
  go_wp2_with fail
  refine ⟨Kp.of hst hN, ?_⟩
  replace y0 := After.frozenB hst x0 y0
  replace y1 := After.frozenB hst x1 y1
  replace y2 := After.frozenB hst x2 y2
  replace c0 := After.cellB hst c0
  replace c1 := After.cellB hst c1
  replace c2 := After.cellB hst c2
  replace d0 := After.cellB hst d0
  replace d1 := After.cellB hst d1
  replace d2 := After.cellB hst d2
  replace x0 := After.cellB hst x0
  replace x1 := After.cellB hst x1
  replace x2 := After.cellB hst x2
  replace hB := bthen hB hst
  replace hN := Nat.le_trans hN (Below.size hst)
  clear hst
  refine wpAnyK_take 4 rfl (by kernel_rfl) (by kernel_rfl) (by kernel_rfl) (fun _ _ _ _ h => h) ⟨_, Or.inl ⟨by rfl, fun w' hb => by (go_simp; try with_reducible rfl)⟩, _, by (go_simp; try rfl), ?_⟩
  refine wpAnyK_only 5 rfl (by kernel_rfl) (by rfl) (fun K hK => ?_)
  go_simp
  refine hK _ _ ?_
  refine ⟨Kp.refl _ _ _, ?_⟩
  refine wpAnyK_take 6 rfl (by kernel_rfl) (by kernel_rfl) (by kernel_rfl) (fun _ _ _ _ h => h) ⟨_, Or.inl ⟨by rfl, fun w' hb => by (go_simp; try with_reducible rfl)⟩, _, by (go_simp; try rfl), ?_⟩
  refine wpAnyK_only 7 rfl (by kernel_rfl) (by rfl) (fun K hK => ?_)
  go_simp
  refine (hD.out _).mono ?_
  rintro e v3 ⟨rfl, hst⟩
  have hV : cut3 (fun i => sel i x y z - sel i a b c) = .tuple #[.agg #[.int .i32 (clampS ((fun i => sel i x y z - sel i a b c) 0)), .int .i32 (clampS ((fun i => sel i x y z - sel i a b c) 1)), .int .i32 (clampS ((fun i => sel i x y z - sel i a b c) 2))], .int .i64 (cuts (fun i => sel i x y z - sel i a b c) 3)] := rfl
  replace hV := hid hV
  rw [hV.out]
  generalize clampS ((fun i => sel i x y z - sel i a b c) 0) = s0 at *
  generalize clampS ((fun i => sel i x y z - sel i a b c) 1) = s1 at *
  generalize clampS ((fun i => sel i x y z - sel i a b c) 2) = s2 at *
  generalize cuts (fun i => sel i x y z - sel i a b c) 3 = cn at *
  go_wp2_with fail
  refine ⟨Kp.of hst hN, ?_⟩
  replace y0 := After.frozenB hst x0 y0
  replace y1 := After.frozenB hst x1 y1
  replace y2 := After.frozenB hst x2 y2
  replace c0 := After.cellB hst c0
  replace c1 := After.cellB hst c1
  replace c2 := After.cellB hst c2
  replace d0 := After.cellB hst d0
  replace d1 := After.cellB hst d1
  replace d2 := After.cellB hst d2
  replace x0 := After.cellB hst x0
  replace x1 := After.cellB hst x1
  replace x2 := After.cellB hst x2
  replace hB := bthen hB hst
  replace hN := Nat.le_trans hN (Below.size hst)
  clear hst
  refine wpAnyK_take 8 rfl (by kernel_rfl) (by kernel_rfl) (by kernel_rfl) (fun _ _ _ _ h => h) ⟨_, Or.inl ⟨by rfl, fun w' hb => by (go_simp; try with_reducible rfl)⟩, _, by (go_simp; try rfl), ?_⟩
  refine wpAnyK_take 9 rfl (by kernel_rfl) (by kernel_rfl) (by kernel_rfl) (fun _ _ _ _ h => h) ⟨_, Or.inl ⟨by rfl, fun w' hb => by (go_simp; try with_reducible rfl)⟩, _, by (go_simp; try rfl), ?_⟩
  refine wpAnyK_only 10 rfl (by kernel_rfl) (by rfl) (fun K hK => ?_)
  go_simp
  refine hK _ _ ?_
  refine ⟨kp3 _ _ _ _ _ _ _ (Or.inl (by simp)), ?_⟩
  refine wpAnyK_take 11 rfl (by kernel_rfl) (by kernel_rfl) (by kernel_rfl) (fun _ _ _ _ h => h) ⟨_, Or.inl ⟨by rfl, fun w' hb => by (go_simp; try with_reducible rfl)⟩, _, by (go_simp; try rfl), ?_⟩
  refine wpAnyK_done (by kernel_rfl) ?_ _
  go_wp2_with fail
  refine bodyPost_ret (v := .tuple #[.agg #[.int .i32 s0, .int .i32 s1, .int .i32 s2], .int .i64 cn]) (by simp [results, Tryz.results59, go_sem, x0, x1, x2]) rfl ⟨hV.out.symm ▸ rfl, ?_⟩
  exact below3 hB _ _ _ _ (by omega)

theorem cut_any (x y z : Int) (w : World) (p0 : -9223372036854775808 ≤ x ∧ x ≤ 9223372036854775807) (p1 : -9223372036854775808 ≤ y ∧ y ≤ 9223372036854775807) (p2 : -9223372036854775808 ≤ z ∧ z ≤ 9223372036854775807) :
    Calls Tryz.prog 27 #[.int .i64 x, .int .i64 y, .int .i64 z] w fun e w' => e = .returned (cut3 (fun i => sel i x y z)) ∧ Below w.heap.size w w' := by
  have hV : cut3 (fun i => sel i x y z) = .tuple #[.agg #[.int .i32 (clampS x), .int .i32 (clampS y), .int .i32 (clampS z)], .int .i64 ((0 + (if clampB x then 1 else 0) + (if clampB y then 1 else 0) + (if clampB z then 1 else 0) : Nat) : Int)] := rfl
  replace hV := hid hV
  have hbel := (Below.refl w.heap.size w).alloc (Nat.le_refl _) (.cells #[.int .i32 0, .int .i32 0, .int .i32 0] 25)
  have c0 : (w.alloc (.cells #[.int .i32 0, .int .i32 0, .int .i32 0] 25)).cell? ⟨w.heap.size, 0, none⟩ = some (.int .i32 0) := by simp
  have c1 : (w.alloc (.cells #[.int .i32 0, .int .i32 0, .int .i32 0] 25)).cell? ⟨w.heap.size, 1, none⟩ = some (.int .i32 0) := by simp
  have c2 : (w.alloc (.cells #[.int .i32 0, .int .i32 0, .int .i32 0] 25)).cell? ⟨w.heap.size, 2, none⟩ = some (.int .i32 0) := by simp
  have f0 : ∀ j, (w.alloc (.cells #[.int .i32 0, .int .i32 0, .int .i32 0] 25)).frozen? ⟨w.heap.size, j, none⟩ = false := fun j => frozen_of_row _ _ _ _ _ (heap_new _ _ _ rfl)
  have y0 := f0 0
  have y1 := f0 1
  have y2 := f0 2
  clear f0
  go_enter Tryz.func27, Tryz.ntmps27
  go_wp2_with fail
  generalize w.alloc (.cells #[.int .i32 0, .int .i32 0, .int .i32 0] 25) = W at *
  refine (rclamp_any x _ p0.1 p0.2).mono ?_
  rintro e w2 ⟨rfl, rfl⟩
  rw [clampV_def]
  generalize clampS x = s0 at *
  generalize clampB x = b0 at *
  cases b0
  all_goals
    go_wp2_with fail
    refine (rclamp_any y _ p1.1 p1.2).mono ?_
    rintro e w3 ⟨rfl, rfl⟩
    rw [clampV_def]
    generalize clampS y = s1 at *
    generalize clampB y = b1 at *
    cases b1
    all_goals
      go_wp2_with fail
      refine (rclamp_any z _ p2.1 p2.2).mono ?_
      rintro e w4 ⟨rfl, rfl⟩
      rw [clampV_def]
      generalize clampS z = s2 at *
      generalize clampB z = b2 at *
      cases b2
      all_goals
        go_wp2_with fail
        refine bodyPost_ret (v := .tuple #[.agg #[.int .i32 s0, .int .i32 s1, .int .i32 s2], .int .i64 _]) (by simp [results, Tryz.results27, go_sem, c0, c1, c2]; rfl) rfl ⟨by rw [hV.out]; rfl, ?_⟩
        exact below3 hbel _ _ _ _ (Nat.le_refl _)

set_option maxRecDepth 100000 in
set_option maxHeartbeats 2000000 in
theorem vscale_any (x y z f : Int) (w : World) (p0 : B32 x) (p1 : B32 y) (p2 : B32 z) (q0 : B32 f) :
    Calls Tryz.prog 60 #[.agg #[.int .i32 x, .int .i32 y, .int .i32 z], .int .i32 f] w fun e w' => e = .returned (cut3 (fun i => roundS (sel i x y z * f) 16)) ∧ Below w.heap.size w w' := by
  obtain ⟨W, hW, hB, hN, c0, c1, c2, x0, x1, x2, -, hf⟩ := boxes2 w 25 25 (.int .i32 x) (.int .i32 y) (.int .i32 z) (.int .i32 0) (.int .i32 0) (.int .i32 0)
  have y0 := hf 0
  have y1 := hf 1
  have y2 := hf 2
  clear hf
  have hmf : ∀ (fn : Fn) (first cap : Array Value) (w : World), (Instr.makeFunc fn first cap).run Tryz.prog w = .ok (.func fn first cap) w := fun _ _ _ _ => rfl
  have hD := hid (fun (v : World) => done_part x y z f v p0 p1 p2 q0)
  have hV : cut3 (fun i => roundS (sel i x y z * f) 16) = .tuple #[.agg #[.int .i32 (clampS ((fun i => roundS (sel i x y z * f) 16) 0)), .int .i32 (clampS ((fun i => roundS (sel i x y z * f) 16) 1)), .int .i32 (clampS ((fun i => roundS (sel i x y z * f) 16) 2))], .int .i64 (cuts (fun i => roundS (sel i x y z * f) 16) 3)] := rfl
  replace hV := hid hV
  clear p0 p1 p2 q0
  go_enter Tryz.func60, Tryz.ntmps60
  go_wp2_with fail
  refine (parts_any x y z _).mono ?_
  rintro e v1 ⟨rfl, hst⟩
  replace y0 := After.frozenB hst x0 y0
  replace y1 := After.frozenB hst x1 y1
  replace y2 := After.frozenB hst x2 y2
  replace x0 := After.cellB hst x0
  replace x1 := After.cellB hst x1
  replace x2 := After.cellB hst x2
  replace hB := bthen hB hst
  clear hst c0 c1 c2 hN
  go_wp2_with fail
  refine (hD.out _).mono ?_
  rintro e v2 ⟨rfl, hst⟩
  replace y0 := After.frozenB hst x0 y0
  replace y1 := After.frozenB hst x1 y1
  replace y2 := After.frozenB hst x2 y2
  replace x0 := After.cellB hst x0
  replace x1 := After.cellB hst x1
  replace x2 := After.cellB hst x2
  replace hB := bthen hB hst
  clear hst
  rw [hV.out]
  generalize clampS ((fun i => roundS (sel i x y z * f) 16) 0) = s0 at *
  generalize clampS ((fun i => roundS (sel i x y z * f) 16) 1) = s1 at *
  generalize clampS ((fun i => roundS (sel i x y z * f) 16) 2) = s2 at *
  generalize cuts (fun i => roundS (sel i x y z * f) 16) 3 = cn at *
  go_wp2_with fail
  refine bodyPost_ret (v := .tuple #[.agg #[.int .i32 s0, .int .i32 s1, .int .i32 s2], .int .i64 cn]) (by simp [results, Tryz.results60, go_sem, x0, x1, x2]) rfl ⟨by rw [hV.out], ?_⟩
  exact below3 hB _ _ _ _ (by omega)

theorem times_any (a b f : Int) (w : World) (h1 : B32 a) (h2 : B32 b) :
    Calls Tryz.prog 57 #[.int .i32 a, .int .i32 b, .int .i64 f] w fun e w' => e = .returned (.int .i64 (roundS (a * b) f)) ∧ w' = w := by
  obtain ⟨m1, m2⟩ := mul_bd a b h1.1 h1.2 h2.1 h2.2
  have fm : IntKind.i64.wrap (a * b) = a * b := by rw [IntKind.wrap_i64]; omega
  have g1 := h1.1
  have g2 := h1.2
  have g3 := h2.1
  have g4 := h2.2
  obtain ⟨P, hP⟩ : ∃ P, a * b = P := ⟨_, rfl⟩
  rw [hP] at fm m1 m2 ⊢
  go_enter Tryz.func57, Tryz.ntmps57
  go_wp2_with fail
  refine (rround_any P f _ (by omega) (by omega)).mono ?_
  rintro e w1 ⟨rfl, rfl⟩
  go_wp2_with fail
  go_ret
  exact ⟨rfl, rfl⟩

set_option maxRecDepth 100000 in
set_option maxHeartbeats 2000000 in
theorem radd3_any (x y z a b c : Int) (w : World) (p0 : B32 x) (p1 : B32 y) (p2 : B32 z) (q0 : B32 a) (q1 : B32 b) (q2 : B32 c) :
    Calls Tryz.prog 35 #[.agg #[.int .i32 x, .int .i32 y, .int .i32 z], .agg #[.int .i32 a, .int .i32 b, .int .i32 c]] w fun e w' => e = .returned (cut3 (fun i => sel i x y z + sel i a b c)) ∧ Below w.heap.size w w' := by
  obtain ⟨W, hW, hB, hN, c0, c1, c2, d0, d1, d2, x0, x1, x2, -, hf⟩ := boxes w 25 25 25 (.int .i32 x) (.int .i32 y) (.int .i32 z) (.int .i32 a) (.int .i32 b) (.int .i32 c) (.int .i32 0) (.int .i32 0) (.int .i32 0)
  have y0 := hf 0
  have y1 := hf 1
  have y2 := hf 2
  clear hf
  unfold B32 at *
  have hV : cut3 (fun i => sel i x y z + sel i a b c) = cut3 (fun i => sel i (x + a) (y + b) (z + c)) := rfl
  have hV2 : cut3 (fun i => sel i (x + a) (y + b) (z + c)) = .tuple #[.agg #[.int .i32 (clampS (x + a)), .int .i32 (clampS (y + b)), .int .i32 (clampS (z + c))], .int .i64 (cuts (fun i => sel i (x + a) (y + b) (z + c)) 3)] := rfl
  have hC := hid (fun (v : World) => cut_any (x + a) (y + b) (z + c) v (by omega) (by omega) (by omega))
  rw [hV]
  clear hV
  replace hV2 := hid hV2
  go_enter Tryz.func35, Tryz.ntmps35
  go_wp2_with fail
  refine (hC.out _).mono ?_
  rintro e v1 ⟨rfl, hst⟩
  replace y0 := After.frozenB hst x0 y0
  replace y1 := After.frozenB hst x1 y1
  replace y2 := After.frozenB hst x2 y2
  replace x0 := After.cellB hst x0
  replace x1 := After.cellB hst x1
  replace x2 := After.cellB hst x2
  have hsz := Below.size hst
  replace hB := bthen hB hst
  clear hst c0 c1 c2 d0 d1 d2
  rw [hV2.out]
  generalize clampS (x + a) = s0 at *
  generalize clampS (y + b) = s1 at *
  generalize clampS (z + c) = s2 at *
  generalize cuts (fun i => sel i (x + a) (y + b) (z + c)) 3 = cn at *
  have hst := aalloc v1 (.cells #[.int .i32 s0, .int .i32 s1, .int .i32 s2] 25)
  replace y0 := After.frozenB hst x0 y0
  replace y1 := After.frozenB hst x1 y1
  replace y2 := After.frozenB hst x2 y2
  replace x0 := After.cellB hst x0
  replace x1 := After.cellB hst x1
  replace x2 := After.cellB hst x2
  replace hB := bthen hB hst
  clear hst
  go_wp2_with fail
  refine bodyPost_ret (v := .tuple #[.agg #[.int .i32 s0, .int .i32 s1, .int .i32 s2], .int .i64 cn]) (by simp [results, Tryz.results35, go_sem, x0, x1, x2]) rfl ⟨by rw [hV2.out], ?_⟩
  exact below3 hB _ _ _ _ (by omega)

set_option maxRecDepth 100000 in
set_option maxHeartbeats 2000000 in
theorem rsub3_any (x y z a b c : Int) (w : World) (p0 : B32 x) (p1 : B32 y) (p2 : B32 z) (q0 : B32 a) (q1 : B32 b) (q2 : B32 c) :
    Calls Tryz.prog 33 #[.agg #[.int .i32 x, .int .i32 y, .int .i32 z], .agg #[.int .i32 a, .int .i32 b, .int .i32 c]] w fun e w' => e = .returned (cut3 (fun i => sel i x y z - sel i a b c)) ∧ Below w.heap.size w w' := by
  obtain ⟨W, hW, hB, hN, c0, c1, c2, d0, d1, d2, x0, x1, x2, -, hf⟩ := boxes w 25 25 25 (.int .i32 x) (.int .i32 y) (.int .i32 z) (.int .i32 a) (.int .i32 b) (.int .i32 c) (.int .i32 0) (.int .i32 0) (.int .i32 0)
  have y0 := hf 0
  have y1 := hf 1
  have y2 := hf 2
  clear hf
  unfold B32 at *
  have hV : cut3 (fun i => sel i x y z - sel i a b c) = cut3 (fun i => sel i (x - a) (y - b) (z - c)) := rfl
  have hV2 : cut3 (fun i => sel i (x - a) (y - b) (z - c)) = .tuple #[.agg #[.int .i32 (clampS (x - a)), .int .i32 (clampS (y - b)), .int .i32 (clampS (z - c))], .int .i64 (cuts (fun i => sel i (x - a) (y - b) (z - c)) 3)] := rfl
  have hC := hid (fun (v : World) => cut_any (x - a) (y - b) (z - c) v (by omega) (by omega) (by omega))
  rw [hV]
  clear hV
  replace hV2 := hid hV2
  go_enter Tryz.func33, Tryz.ntmps33
  go_wp2_with fail
  refine (hC.out _).mono ?_
  rintro e v1 ⟨rfl, hst⟩
  replace y0 := After.frozenB hst x0 y0
  replace y1 := After.frozenB hst x1 y1
  replace y2 := After.frozenB hst x2 y2
  replace x0 := After.cellB hst x0
  replace x1 := After.cellB hst x1
  replace x2 := After.cellB hst x2
  have hsz := Below.size hst
  replace hB := bthen hB hst
  clear hst c0 c1 c2 d0 d1 d2
  rw [hV2.out]
  generalize clampS (x - a) = s0 at *
  generalize clampS (y - b) = s1 at *
  generalize clampS (z - c) = s2 at *
  generalize cuts (fun i => sel i (x - a) (y - b) (z - c)) 3 = cn at *
  have hst := aalloc v1 (.cells #[.int .i32 s0, .int .i32 s1, .int .i32 s2] 25)
  replace y0 := After.frozenB hst x0 y0
  replace y1 := After.frozenB hst x1 y1
  replace y2 := After.frozenB hst x2 y2
  replace x0 := After.cellB hst x0
  replace x1 := After.cellB hst x1
  replace x2 := After.cellB hst x2
  replace hB := bthen hB hst
  clear hst
  go_wp2_with fail
  refine bodyPost_ret (v := .tuple #[.agg #[.int .i32 s0, .int .i32 s1, .int .i32 s2], .int .i64 cn]) (by simp [results, Tryz.results33, go_sem, x0, x1, x2]) rfl ⟨by rw [hV2.out], ?_⟩
  exact below3 hB _ _ _ _ (by omega)



end Go.Proofs.YtpdpcdifnlellaaGreat
