/- Package vec: Dot. -/
import Derived.Test.YticjpdojiiepeaaVec5
namespace Go.Proofs.Yticjpdojiiepeaa
open Go.ChangeShapes Go.WideShapes Go.ChangeAt Go.RowKit
set_option linter.unusedVariables false

theorem six (w : World) (T : TypeId) (v0 v1 v2 v3 v4 v5 : Value) : (w.alloc (.cells #[v0, v1, v2, v3, v4, v5] T)).heap[w.heap.size]? = some (.cells #[v0, v1, v2, v3, v4, v5] T) := heap_new _ _ _ rfl
/-- Block b is just six cells, and may be written. -/
def Six (T : TypeId) (w : World) (b : Nat) (v0 v1 v2 v3 v4 v5 : Value) : Prop := w.heap[b]? = some (.cells #[v0, v1, v2, v3, v4, v5] T (0, 0))
theorem Six.below {T : TypeId} {w w' : World} {b : Nat} {v0 v1 v2 v3 v4 v5 : Value} (h : Six T w b v0 v1 v2 v3 v4 v5) (hb : Below w.heap.size w w') : Six T w' b v0 v1 v2 v3 v4 v5 := by
  unfold Six at *
  have hl : b < w.heap.size := by
    rcases Nat.lt_or_ge b w.heap.size with hl | hl
    · exact hl
    · rw [Array.getElem?_eq_none hl] at h; cases h
  rw [hb.block b hl]; exact h
theorem Six.cells {T : TypeId} {w : World} {b : Nat} {v0 v1 v2 v3 v4 v5 : Value} (h : Six T w b v0 v1 v2 v3 v4 v5) : w.cell? ⟨b, 0, none⟩ = some v0 ∧ w.cell? ⟨b, 1, none⟩ = some v1 ∧ w.cell? ⟨b, 2, none⟩ = some v2 ∧ w.cell? ⟨b, 3, none⟩ = some v3 ∧ w.cell? ⟨b, 4, none⟩ = some v4 ∧ w.cell? ⟨b, 5, none⟩ = some v5 ∧ b < w.heap.size := by
  unfold Six at h
  refine ⟨by rw [cell_of_row w _ _ _ _ _ h]; rfl, by rw [cell_of_row w _ _ _ _ _ h]; rfl, by rw [cell_of_row w _ _ _ _ _ h]; rfl, by rw [cell_of_row w _ _ _ _ _ h]; rfl, by rw [cell_of_row w _ _ _ _ _ h]; rfl, by rw [cell_of_row w _ _ _ _ _ h]; rfl, ?_⟩
  rcases Nat.lt_or_ge b w.heap.size with hl | hl
  · exact hl
  · rw [Array.getElem?_eq_none hl] at h; cases h
theorem Six.free {T : TypeId} {w : World} {b : Nat} {v0 v1 v2 v3 v4 v5 : Value} (h : Six T w b v0 v1 v2 v3 v4 v5) (j : Nat) : w.frozen? ⟨b, j, none⟩ = false := frozen_of_row _ _ _ _ _ h
theorem Six.store {T : TypeId} {w : World} {b : Nat} {v0 v1 v2 v3 v4 v5 : Value} (h : Six T w b v0 v1 v2 v3 v4 v5) (u0 u1 u2 u3 u4 u5 : Value) :
    ∃ U, (((((w.setCell ⟨b, 0, none⟩ u0).setCell ⟨b, 1, none⟩ u1).setCell ⟨b, 2, none⟩ u2).setCell ⟨b, 3, none⟩ u3).setCell ⟨b, 4, none⟩ u4).setCell ⟨b, 5, none⟩ u5 = U ∧ Six T U b u0 u1 u2 u3 u4 u5 ∧ (∀ (B : Nat) (w0 : World), B ≤ b → Below B w0 w → Below B w0 U) ∧ (∀ (N : Nat) (X : List Nat), b ∈ X ∨ N ≤ b → Kp N X w U) := by
  refine ⟨_, rfl, ?_, ?_, ?_⟩
  · have e0 := heap_setCell_same w b 0 _ T u0 h
    have e1 := heap_setCell_same _ b 1 _ T u1 e0
    have e2 := heap_setCell_same _ b 2 _ T u2 e1
    have e3 := heap_setCell_same _ b 3 _ T u3 e2
    have e4 := heap_setCell_same _ b 4 _ T u4 e3
    have e5 := heap_setCell_same _ b 5 _ T u5 e4
    exact e5
  · intro B w0 hb h
    exact ((((((h.setCell (p := ⟨b, 0, none⟩) hb u0).setCell (p := ⟨b, 1, none⟩) hb u1).setCell (p := ⟨b, 2, none⟩) hb u2).setCell (p := ⟨b, 3, none⟩) hb u3).setCell (p := ⟨b, 4, none⟩) hb u4).setCell (p := ⟨b, 5, none⟩) hb u5)
  · intro N X h
    exact (Kp.setCell _ ⟨b, 0, none⟩ u0 h).trans ((Kp.setCell _ ⟨b, 1, none⟩ u1 h).trans ((Kp.setCell _ ⟨b, 2, none⟩ u2 h).trans ((Kp.setCell _ ⟨b, 3, none⟩ u3 h).trans ((Kp.setCell _ ⟨b, 4, none⟩ u4 h).trans (Kp.setCell _ ⟨b, 5, none⟩ u5 h)))))

set_option maxRecDepth 100000 in
set_option maxHeartbeats 4000000 in
theorem vdot_any (x y z a b c : Int) (w : World) (p0 : B32 x) (p1 : B32 y) (p2 : B32 z) (q0 : B32 a) (q1 : B32 b) (q2 : B32 c) :
    Calls Try.prog 14 #[.agg #[.int .i32 x, .int .i32 y, .int .i32 z], .agg #[.int .i32 a, .int .i32 b, .int .i32 c]] w fun e w' => e = .returned (clampV (dotN x y z a b c)) ∧ Below w.heap.size w w' := by
  obtain ⟨W, hW, hB, hN, c0, c1, c2, d0, d1, d2, -, -⟩ := boxes2 w 23 23 (.int .i32 x) (.int .i32 y) (.int .i32 z) (.int .i32 a) (.int .i32 b) (.int .i32 c)
  have h1 : ∀ v : World, Calls Try.prog 31 #[.agg #[.int .i32 x, .int .i32 y, .int .i32 z, .int .i32 a, .int .i32 b, .int .i32 c], .int .i64 0, .int .i64 0] v fun e w' => e = .returned (.int .i64 (roundS (x * a) 16)) ∧ Below v.heap.size v w' := fun v => product_any x y z a b c 0 0 (by omega) (by omega) v p0 p1 p2 q0 q1 q2
  have h2 : ∀ v : World, Calls Try.prog 31 #[.agg #[.int .i32 x, .int .i32 y, .int .i32 z, .int .i32 a, .int .i32 b, .int .i32 c], .int .i64 1, .int .i64 1] v fun e w' => e = .returned (.int .i64 (roundS (y * b) 16)) ∧ Below v.heap.size v w' := fun v => product_any x y z a b c 1 1 (by omega) (by omega) v p0 p1 p2 q0 q1 q2
  have h3 : ∀ v : World, Calls Try.prog 31 #[.agg #[.int .i32 x, .int .i32 y, .int .i32 z, .int .i32 a, .int .i32 b, .int .i32 c], .int .i64 2, .int .i64 2] v fun e w' => e = .returned (.int .i64 (roundS (z * c) 16)) ∧ Below v.heap.size v w' := fun v => product_any x y z a b c 2 2 (by omega) (by omega) v p0 p1 p2 q0 q1 q2
  have b1 := round16_bd x a p0 q0
  have b2 := round16_bd y b p1 q1
  have b3 := round16_bd z c p2 q2
  have hV : dotN x y z a b c = roundS (x * a) 16 + roundS (y * b) 16 + roundS (z * c) 16 := rfl
  rw [hV]
  clear hV
  generalize roundS (x * a) 16 = r1 at *
  generalize roundS (y * b) 16 = r2 at *
  generalize roundS (z * c) 16 = r3 at *
  have f1 : IntKind.i64.wrap (r1 + r2) = r1 + r2 := by rw [IntKind.wrap_i64]; omega
  have f2 : IntKind.i64.wrap (r1 + r2 + r3) = r1 + r2 + r3 := by rw [IntKind.wrap_i64]; omega
  have h4 := hid (fun (v : World) => clamp_any (r1 + r2 + r3) v (by omega) (by omega))
  replace h1 := hid h1
  replace h2 := hid h2
  replace h3 := hid h3
  clear p0 p1 p2 q0 q1 q2 b1 b2 b3
  go_enter Try.func14, Try.ntmps14
  go_wp2_with fail
  have hst : After W W.drew := (Below.refl _ _).drew
  replace c0 := After.cellB hst c0
  replace c1 := After.cellB hst c1
  replace c2 := After.cellB hst c2
  replace d0 := After.cellB hst d0
  replace d1 := After.cellB hst d1
  replace d2 := After.cellB hst d2
  try replace hS := Six.below hS hst
  replace hB := bthen hB hst
  replace hN := Nat.le_trans hN (Below.size hst)
  clear hst
  refine wp_region_K (N := w.heap.size + 2) (X := []) (by kernel_rfl) ?_
  generalize W.drew = U at *
  refine wpAnyK_take 0 rfl (by kernel_rfl) (by kernel_rfl) (by kernel_rfl) (fun _ _ _ _ h => h) ⟨_, Or.inl ⟨by rfl, fun w' hb => by (have h0 := hb.cellB (by simp) (by simp <;> omega) c0; have h1 := hb.cellB (by simp) (by simp <;> omega) c1; have h2 := hb.cellB (by simp) (by simp <;> omega) c2; go_simp; try with_reducible rfl)⟩, _, by (go_simp; try rfl), ?_⟩
  refine wpAnyK_take 2 rfl (by kernel_rfl) (by kernel_rfl) (by kernel_rfl) (fun _ _ _ _ h => h) ⟨_, Or.inl ⟨by rfl, fun w' hb => by (have h0 := hb.cellB (by simp) (by simp <;> omega) d0; have h1 := hb.cellB (by simp) (by simp <;> omega) d1; have h2 := hb.cellB (by simp) (by simp <;> omega) d2; go_simp; try with_reducible rfl)⟩, _, by (go_simp; try rfl), ?_⟩
  refine wpAnyK_two 1 5 rfl rfl (by kernel_rfl) (by rfl) (by rfl) (fun K hK => ?_) (fun K hK => ?_)
  · have hbr := True.intro
    go_simp
    refine (parts_any x y z _).mono ?_
    rintro e U ⟨rfl, hst⟩
    go_wp2_with fail
    refine ⟨Kp.of hst hN, ?_⟩
    replace c0 := After.cellB hst c0
    replace c1 := After.cellB hst c1
    replace c2 := After.cellB hst c2
    replace d0 := After.cellB hst d0
    replace d1 := After.cellB hst d1
    replace d2 := After.cellB hst d2
    try replace hS := Six.below hS hst
    replace hB := bthen hB hst
    replace hN := Nat.le_trans hN (Below.size hst)
    clear hst
    refine wpAnyK_two 3 5 rfl rfl (by kernel_rfl) (by rfl) (by rfl) (fun K hK => ?_) (fun K hK => ?_)
    · have hbr := True.intro
      go_simp
      refine (parts_any a b c _).mono ?_
      rintro e U ⟨rfl, hst⟩
      go_wp2_with fail
      refine ⟨Kp.of hst hN, ?_⟩
      replace c0 := After.cellB hst c0
      replace c1 := After.cellB hst c1
      replace c2 := After.cellB hst c2
      replace d0 := After.cellB hst d0
      replace d1 := After.cellB hst d1
      replace d2 := After.cellB hst d2
      try replace hS := Six.below hS hst
      replace hB := bthen hB hst
      replace hN := Nat.le_trans hN (Below.size hst)
      clear hst
      refine wpAnyK_take 4 rfl (by kernel_rfl) (by kernel_rfl) (by kernel_rfl) (fun _ _ _ _ h => h) ⟨_, Or.inl ⟨by rfl, fun w' hb => by (go_simp; try with_reducible rfl)⟩, _, by (go_simp; try rfl), ?_⟩
      refine wpAnyK_only 5 rfl (by kernel_rfl) (by rfl) (fun K hK => ?_)
      go_simp
      have hNb := hN
      have hst := aalloc U (.cells #[.int .i32 0, .int .i32 0, .int .i32 0, .int .i32 0, .int .i32 0, .int .i32 0] 45)
      refine hK _ _ ?_
      refine ⟨Kp.of hst hN, ?_⟩
      replace c0 := After.cellB hst c0
      replace c1 := After.cellB hst c1
      replace c2 := After.cellB hst c2
      replace d0 := After.cellB hst d0
      replace d1 := After.cellB hst d1
      replace d2 := After.cellB hst d2
      try replace hS := Six.below hS hst
      replace hB := bthen hB hst
      replace hN := Nat.le_trans hN (Below.size hst)
      clear hst
      have hS : Six 45 (U.alloc (.cells #[.int .i32 0, .int .i32 0, .int .i32 0, .int .i32 0, .int .i32 0, .int .i32 0] 45)) U.heap.size (.int .i32 0) (.int .i32 0) (.int .i32 0) (.int .i32 0) (.int .i32 0) (.int .i32 0) := six _ _ _ _ _ _ _ _
      clear hK
      generalize U.heap.size = b6 at *
      generalize U.alloc (.cells #[.int .i32 0, .int .i32 0, .int .i32 0, .int .i32 0, .int .i32 0, .int .i32 0] 45) = U at *
      refine wpAnyK_only 6 rfl (by kernel_rfl) (by rfl) (fun K hK => ?_)
      obtain ⟨e0, e1, e2, e3, e4, e5, -⟩ := hS.cells
      have g0 := hS.free 0
      have g1 := hS.free 1
      have g2 := hS.free 2
      have g3 := hS.free 3
      have g4 := hS.free 4
      have g5 := hS.free 5
      go_simp
      refine hK _ _ ?_
      clear hK e0 e1 e2 e3 e4 e5 g0 g1 g2 g3 g4 g5
      obtain ⟨U2, hU2, hS, hbl, hkp⟩ := hS.store (.int .i32 x) (.int .i32 y) (.int .i32 z) (.int .i32 a) (.int .i32 b) (.int .i32 c)
      rw [hU2]
      refine ⟨hkp _ _ (Or.inr hNb), ?_⟩
      replace hB := hbl _ _ (by omega) hB
      clear hbl hkp hU2 hN
      obtain ⟨s0, s1, s2, s3, s4, s5, hN⟩ := hS.cells
      generalize U2 = U at *
      refine wpAnyK_done (by kernel_rfl) ?_ _
      go_wp2_with fail
      have hst : After U U.drew := (Below.refl _ _).drew
      replace s0 := After.cellB hst s0
      replace s1 := After.cellB hst s1
      replace s2 := After.cellB hst s2
      replace s3 := After.cellB hst s3
      replace s4 := After.cellB hst s4
      replace s5 := After.cellB hst s5
      replace hB := bthen hB hst
      replace hN := Nat.le_trans hN (Below.size hst)
      clear hst
      refine wp_region_K (N := b6 + 1) (X := []) (by kernel_rfl) ?_
      generalize U.drew = U at *
      refine wpAnyK_take 0 rfl (by kernel_rfl) (by kernel_rfl) (by kernel_rfl) (fun _ _ _ _ h => h) ⟨_, Or.inl ⟨by rfl, fun w' hb => by (have k0 := hb.cellB (by simp) (by simp <;> omega) s0; have k1 := hb.cellB (by simp) (by simp <;> omega) s1; have k2 := hb.cellB (by simp) (by simp <;> omega) s2; have k3 := hb.cellB (by simp) (by simp <;> omega) s3; have k4 := hb.cellB (by simp) (by simp <;> omega) s4; have k5 := hb.cellB (by simp) (by simp <;> omega) s5; go_simp; try with_reducible rfl)⟩, _, by (go_simp; try rfl), ?_⟩
      refine wpAnyK_take 2 rfl (by kernel_rfl) (by kernel_rfl) (by kernel_rfl) (fun _ _ _ _ h => h) ⟨_, Or.inl ⟨by rfl, fun w' hb => by (have k0 := hb.cellB (by simp) (by simp <;> omega) s0; have k1 := hb.cellB (by simp) (by simp <;> omega) s1; have k2 := hb.cellB (by simp) (by simp <;> omega) s2; have k3 := hb.cellB (by simp) (by simp <;> omega) s3; have k4 := hb.cellB (by simp) (by simp <;> omega) s4; have k5 := hb.cellB (by simp) (by simp <;> omega) s5; go_simp; try with_reducible rfl)⟩, _, by (go_simp; try rfl), ?_⟩
      refine wpAnyK_take 5 rfl (by kernel_rfl) (by kernel_rfl) (by kernel_rfl) (fun _ _ _ _ h => h) ⟨_, Or.inl ⟨by rfl, fun w' hb => by (have k0 := hb.cellB (by simp) (by simp <;> omega) s0; have k1 := hb.cellB (by simp) (by simp <;> omega) s1; have k2 := hb.cellB (by simp) (by simp <;> omega) s2; have k3 := hb.cellB (by simp) (by simp <;> omega) s3; have k4 := hb.cellB (by simp) (by simp <;> omega) s4; have k5 := hb.cellB (by simp) (by simp <;> omega) s5; go_simp; try with_reducible rfl)⟩, _, by (go_simp; try rfl), ?_⟩
      refine wpAnyK_only 1 rfl (by kernel_rfl) (by rfl) (fun K hK => ?_)
      go_simp
      refine (h1.out _).mono ?_
      rintro e U ⟨rfl, hst⟩
      go_wp2_with fail
      refine ⟨Kp.of hst hN, ?_⟩
      replace s0 := After.cellB hst s0
      replace s1 := After.cellB hst s1
      replace s2 := After.cellB hst s2
      replace s3 := After.cellB hst s3
      replace s4 := After.cellB hst s4
      replace s5 := After.cellB hst s5
      replace hB := bthen hB hst
      replace hN := Nat.le_trans hN (Below.size hst)
      clear hst
      refine wpAnyK_only 3 rfl (by kernel_rfl) (by rfl) (fun K hK => ?_)
      go_simp
      refine (h2.out _).mono ?_
      rintro e U ⟨rfl, hst⟩
      go_wp2_with fail
      refine ⟨Kp.of hst hN, ?_⟩
      replace s0 := After.cellB hst s0
      replace s1 := After.cellB hst s1
      replace s2 := After.cellB hst s2
      replace s3 := After.cellB hst s3
      replace s4 := After.cellB hst s4
      replace s5 := After.cellB hst s5
      replace hB := bthen hB hst
      replace hN := Nat.le_trans hN (Below.size hst)
      clear hst
      refine wpAnyK_take 4 rfl (by kernel_rfl) (by kernel_rfl) (by kernel_rfl) (fun _ _ _ _ h => h) ⟨_, Or.inl ⟨by rfl, fun w' hb => by (go_simp; try with_reducible rfl)⟩, _, by (go_simp; try rfl), ?_⟩
      refine wpAnyK_only 6 rfl (by kernel_rfl) (by rfl) (fun K hK => ?_)
      go_simp
      refine (h3.out _).mono ?_
      rintro e U ⟨rfl, hst⟩
      go_wp2_with fail
      refine ⟨Kp.of hst hN, ?_⟩
      replace s0 := After.cellB hst s0
      replace s1 := After.cellB hst s1
      replace s2 := After.cellB hst s2
      replace s3 := After.cellB hst s3
      replace s4 := After.cellB hst s4
      replace s5 := After.cellB hst s5
      replace hB := bthen hB hst
      replace hN := Nat.le_trans hN (Below.size hst)
      clear hst
      refine wpAnyK_take 7 rfl (by kernel_rfl) (by kernel_rfl) (by kernel_rfl) (fun _ _ _ _ h => h) ⟨_, Or.inl ⟨by rfl, fun w' hb => by (go_simp; try with_reducible rfl)⟩, _, by (go_simp; try rfl), ?_⟩
      refine wpAnyK_only 8 rfl (by kernel_rfl) (by rfl) (fun K hK => ?_)
      go_simp
      refine (h4.out _).mono ?_
      rintro e U ⟨rfl, hst⟩
      rw [clampV_def]
      go_wp2_with fail
      refine ⟨Kp.of hst hN, ?_⟩
      replace s0 := After.cellB hst s0
      replace s1 := After.cellB hst s1
      replace s2 := After.cellB hst s2
      replace s3 := After.cellB hst s3
      replace s4 := After.cellB hst s4
      replace s5 := After.cellB hst s5
      replace hB := bthen hB hst
      replace hN := Nat.le_trans hN (Below.size hst)
      clear hst
      refine wpAnyK_take 9 rfl (by kernel_rfl) (by kernel_rfl) (by kernel_rfl) (fun _ _ _ _ h => h) ⟨_, Or.inl ⟨by rfl, fun w' hb => by (go_simp; try with_reducible rfl)⟩, _, by (go_simp; try rfl), ?_⟩
      refine wpAnyK_take 10 rfl (by kernel_rfl) (by kernel_rfl) (by kernel_rfl) (fun _ _ _ _ h => h) ⟨_, Or.inl ⟨by rfl, fun w' hb => by (go_simp; try with_reducible rfl)⟩, _, by (go_simp; try rfl), ?_⟩
      refine wpAnyK_take 11 rfl (by kernel_rfl) (by kernel_rfl) (by kernel_rfl) (fun _ _ _ _ h => h) ⟨_, Or.inl ⟨by rfl, fun w' hb => by (go_simp; try with_reducible rfl)⟩, _, by (go_simp; try rfl), ?_⟩
      refine wpAnyK_take 12 rfl (by kernel_rfl) (by kernel_rfl) (by kernel_rfl) (fun _ _ _ _ h => h) ⟨_, Or.inl ⟨by rfl, fun w' hb => by (go_simp; try with_reducible rfl)⟩, _, by (go_simp; try rfl), ?_⟩
      refine wpAnyK_done (by kernel_rfl) ?_ _
      go_wp2_with fail
      go_ret2
      exact ⟨rfl, hB⟩
    · have hbr := True.intro
      go_simp
      have hNb := hN
      have hst := aalloc U (.cells #[.int .i32 0, .int .i32 0, .int .i32 0, .int .i32 0, .int .i32 0, .int .i32 0] 45)
      refine hK _ _ ?_
      refine ⟨Kp.of hst hN, ?_⟩
      replace c0 := After.cellB hst c0
      replace c1 := After.cellB hst c1
      replace c2 := After.cellB hst c2
      replace d0 := After.cellB hst d0
      replace d1 := After.cellB hst d1
      replace d2 := After.cellB hst d2
      try replace hS := Six.below hS hst
      replace hB := bthen hB hst
      replace hN := Nat.le_trans hN (Below.size hst)
      clear hst
      have hS : Six 45 (U.alloc (.cells #[.int .i32 0, .int .i32 0, .int .i32 0, .int .i32 0, .int .i32 0, .int .i32 0] 45)) U.heap.size (.int .i32 0) (.int .i32 0) (.int .i32 0) (.int .i32 0) (.int .i32 0) (.int .i32 0) := six _ _ _ _ _ _ _ _
      clear hK
      generalize U.heap.size = b6 at *
      generalize U.alloc (.cells #[.int .i32 0, .int .i32 0, .int .i32 0, .int .i32 0, .int .i32 0, .int .i32 0] 45) = U at *
      refine wpAnyK_only 3 rfl (by kernel_rfl) (by rfl) (fun K hK => ?_)
      go_simp
      refine (parts_any a b c _).mono ?_
      rintro e U ⟨rfl, hst⟩
      go_wp2_with fail
      refine ⟨Kp.of hst hN, ?_⟩
      replace c0 := After.cellB hst c0
      replace c1 := After.cellB hst c1
      replace c2 := After.cellB hst c2
      replace d0 := After.cellB hst d0
      replace d1 := After.cellB hst d1
      replace d2 := After.cellB hst d2
      try replace hS := Six.below hS hst
      replace hB := bthen hB hst
      replace hN := Nat.le_trans hN (Below.size hst)
      clear hst
      refine wpAnyK_take 4 rfl (by kernel_rfl) (by kernel_rfl) (by kernel_rfl) (fun _ _ _ _ h => h) ⟨_, Or.inl ⟨by rfl, fun w' hb => by (go_simp; try with_reducible rfl)⟩, _, by (go_simp; try rfl), ?_⟩
      refine wpAnyK_only 6 rfl (by kernel_rfl) (by rfl) (fun K hK => ?_)
      obtain ⟨e0, e1, e2, e3, e4, e5, -⟩ := hS.cells
      have g0 := hS.free 0
      have g1 := hS.free 1
      have g2 := hS.free 2
      have g3 := hS.free 3
      have g4 := hS.free 4
      have g5 := hS.free 5
      go_simp
      refine hK _ _ ?_
      clear hK e0 e1 e2 e3 e4 e5 g0 g1 g2 g3 g4 g5
      obtain ⟨U2, hU2, hS, hbl, hkp⟩ := hS.store (.int .i32 x) (.int .i32 y) (.int .i32 z) (.int .i32 a) (.int .i32 b) (.int .i32 c)
      rw [hU2]
      refine ⟨hkp _ _ (Or.inr hNb), ?_⟩
      replace hB := hbl _ _ (by omega) hB
      clear hbl hkp hU2 hN
      obtain ⟨s0, s1, s2, s3, s4, s5, hN⟩ := hS.cells
      generalize U2 = U at *
      refine wpAnyK_done (by kernel_rfl) ?_ _
      go_wp2_with fail
      have hst : After U U.drew := (Below.refl _ _).drew
      replace s0 := After.cellB hst s0
      replace s1 := After.cellB hst s1
      replace s2 := After.cellB hst s2
      replace s3 := After.cellB hst s3
      replace s4 := After.cellB hst s4
      replace s5 := After.cellB hst s5
      replace hB := bthen hB hst
      replace hN := Nat.le_trans hN (Below.size hst)
      clear hst
      refine wp_region_K (N := b6 + 1) (X := []) (by kernel_rfl) ?_
      generalize U.drew = U at *
      refine wpAnyK_take 0 rfl (by kernel_rfl) (by kernel_rfl) (by kernel_rfl) (fun _ _ _ _ h => h) ⟨_, Or.inl ⟨by rfl, fun w' hb => by (have k0 := hb.cellB (by simp) (by simp <;> omega) s0; have k1 := hb.cellB (by simp) (by simp <;> omega) s1; have k2 := hb.cellB (by simp) (by simp <;> omega) s2; have k3 := hb.cellB (by simp) (by simp <;> omega) s3; have k4 := hb.cellB (by simp) (by simp <;> omega) s4; have k5 := hb.cellB (by simp) (by simp <;> omega) s5; go_simp; try with_reducible rfl)⟩, _, by (go_simp; try rfl), ?_⟩
      refine wpAnyK_take 2 rfl (by kernel_rfl) (by kernel_rfl) (by kernel_rfl) (fun _ _ _ _ h => h) ⟨_, Or.inl ⟨by rfl, fun w' hb => by (have k0 := hb.cellB (by simp) (by simp <;> omega) s0; have k1 := hb.cellB (by simp) (by simp <;> omega) s1; have k2 := hb.cellB (by simp) (by simp <;> omega) s2; have k3 := hb.cellB (by simp) (by simp <;> omega) s3; have k4 := hb.cellB (by simp) (by simp <;> omega) s4; have k5 := hb.cellB (by simp) (by simp <;> omega) s5; go_simp; try with_reducible rfl)⟩, _, by (go_simp; try rfl), ?_⟩
      refine wpAnyK_take 5 rfl (by kernel_rfl) (by kernel_rfl) (by kernel_rfl) (fun _ _ _ _ h => h) ⟨_, Or.inl ⟨by rfl, fun w' hb => by (have k0 := hb.cellB (by simp) (by simp <;> omega) s0; have k1 := hb.cellB (by simp) (by simp <;> omega) s1; have k2 := hb.cellB (by simp) (by simp <;> omega) s2; have k3 := hb.cellB (by simp) (by simp <;> omega) s3; have k4 := hb.cellB (by simp) (by simp <;> omega) s4; have k5 := hb.cellB (by simp) (by simp <;> omega) s5; go_simp; try with_reducible rfl)⟩, _, by (go_simp; try rfl), ?_⟩
      refine wpAnyK_only 1 rfl (by kernel_rfl) (by rfl) (fun K hK => ?_)
      go_simp
      refine (h1.out _).mono ?_
      rintro e U ⟨rfl, hst⟩
      go_wp2_with fail
      refine ⟨Kp.of hst hN, ?_⟩
      replace s0 := After.cellB hst s0
      replace s1 := After.cellB hst s1
      replace s2 := After.cellB hst s2
      replace s3 := After.cellB hst s3
      replace s4 := After.cellB hst s4
      replace s5 := After.cellB hst s5
      replace hB := bthen hB hst
      replace hN := Nat.le_trans hN (Below.size hst)
      clear hst
      refine wpAnyK_only 3 rfl (by kernel_rfl) (by rfl) (fun K hK => ?_)
      go_simp
      refine (h2.out _).mono ?_
      rintro e U ⟨rfl, hst⟩
      go_wp2_with fail
      refine ⟨Kp.of hst hN, ?_⟩
      replace s0 := After.cellB hst s0
      replace s1 := After.cellB hst s1
      replace s2 := After.cellB hst s2
      replace s3 := After.cellB hst s3
      replace s4 := After.cellB hst s4
      replace s5 := After.cellB hst s5
      replace hB := bthen hB hst
      replace hN := Nat.le_trans hN (Below.size hst)
      clear hst
      refine wpAnyK_take 4 rfl (by kernel_rfl) (by kernel_rfl) (by kernel_rfl) (fun _ _ _ _ h => h) ⟨_, Or.inl ⟨by rfl, fun w' hb => by (go_simp; try with_reducible rfl)⟩, _, by (go_simp; try rfl), ?_⟩
      refine wpAnyK_only 6 rfl (by kernel_rfl) (by rfl) (fun K hK => ?_)
      go_simp
      refine (h3.out _).mono ?_
      rintro e U ⟨rfl, hst⟩
      go_wp2_with fail
      refine ⟨Kp.of hst hN, ?_⟩
      replace s0 := After.cellB hst s0
      replace s1 := After.cellB hst s1
      replace s2 := After.cellB hst s2
      replace s3 := After.cellB hst s3
      replace s4 := After.cellB hst s4
      replace s5 := After.cellB hst s5
      replace hB := bthen hB hst
      replace hN := Nat.le_trans hN (Below.size hst)
      clear hst
      refine wpAnyK_take 7 rfl (by kernel_rfl) (by kernel_rfl) (by kernel_rfl) (fun _ _ _ _ h => h) ⟨_, Or.inl ⟨by rfl, fun w' hb => by (go_simp; try with_reducible rfl)⟩, _, by (go_simp; try rfl), ?_⟩
      refine wpAnyK_only 8 rfl (by kernel_rfl) (by rfl) (fun K hK => ?_)
      go_simp
      refine (h4.out _).mono ?_
      rintro e U ⟨rfl, hst⟩
      rw [clampV_def]
      go_wp2_with fail
      refine ⟨Kp.of hst hN, ?_⟩
      replace s0 := After.cellB hst s0
      replace s1 := After.cellB hst s1
      replace s2 := After.cellB hst s2
      replace s3 := After.cellB hst s3
      replace s4 := After.cellB hst s4
      replace s5 := After.cellB hst s5
      replace hB := bthen hB hst
      replace hN := Nat.le_trans hN (Below.size hst)
      clear hst
      refine wpAnyK_take 9 rfl (by kernel_rfl) (by kernel_rfl) (by kernel_rfl) (fun _ _ _ _ h => h) ⟨_, Or.inl ⟨by rfl, fun w' hb => by (go_simp; try with_reducible rfl)⟩, _, by (go_simp; try rfl), ?_⟩
      refine wpAnyK_take 10 rfl (by kernel_rfl) (by kernel_rfl) (by kernel_rfl) (fun _ _ _ _ h => h) ⟨_, Or.inl ⟨by rfl, fun w' hb => by (go_simp; try with_reducible rfl)⟩, _, by (go_simp; try rfl), ?_⟩
      refine wpAnyK_take 11 rfl (by kernel_rfl) (by kernel_rfl) (by kernel_rfl) (fun _ _ _ _ h => h) ⟨_, Or.inl ⟨by rfl, fun w' hb => by (go_simp; try with_reducible rfl)⟩, _, by (go_simp; try rfl), ?_⟩
      refine wpAnyK_take 12 rfl (by kernel_rfl) (by kernel_rfl) (by kernel_rfl) (fun _ _ _ _ h => h) ⟨_, Or.inl ⟨by rfl, fun w' hb => by (go_simp; try with_reducible rfl)⟩, _, by (go_simp; try rfl), ?_⟩
      refine wpAnyK_done (by kernel_rfl) ?_ _
      go_wp2_with fail
      go_ret2
      exact ⟨rfl, hB⟩
  · have hbr := True.intro
    go_simp
    have hNb := hN
    have hst := aalloc U (.cells #[.int .i32 0, .int .i32 0, .int .i32 0, .int .i32 0, .int .i32 0, .int .i32 0] 45)
    refine hK _ _ ?_
    refine ⟨Kp.of hst hN, ?_⟩
    replace c0 := After.cellB hst c0
    replace c1 := After.cellB hst c1
    replace c2 := After.cellB hst c2
    replace d0 := After.cellB hst d0
    replace d1 := After.cellB hst d1
    replace d2 := After.cellB hst d2
    try replace hS := Six.below hS hst
    replace hB := bthen hB hst
    replace hN := Nat.le_trans hN (Below.size hst)
    clear hst
    have hS : Six 45 (U.alloc (.cells #[.int .i32 0, .int .i32 0, .int .i32 0, .int .i32 0, .int .i32 0, .int .i32 0] 45)) U.heap.size (.int .i32 0) (.int .i32 0) (.int .i32 0) (.int .i32 0) (.int .i32 0) (.int .i32 0) := six _ _ _ _ _ _ _ _
    clear hK
    generalize U.heap.size = b6 at *
    generalize U.alloc (.cells #[.int .i32 0, .int .i32 0, .int .i32 0, .int .i32 0, .int .i32 0, .int .i32 0] 45) = U at *
    refine wpAnyK_only 1 rfl (by kernel_rfl) (by rfl) (fun K hK => ?_)
    go_simp
    refine (parts_any x y z _).mono ?_
    rintro e U ⟨rfl, hst⟩
    go_wp2_with fail
    refine ⟨Kp.of hst hN, ?_⟩
    replace c0 := After.cellB hst c0
    replace c1 := After.cellB hst c1
    replace c2 := After.cellB hst c2
    replace d0 := After.cellB hst d0
    replace d1 := After.cellB hst d1
    replace d2 := After.cellB hst d2
    try replace hS := Six.below hS hst
    replace hB := bthen hB hst
    replace hN := Nat.le_trans hN (Below.size hst)
    clear hst
    refine wpAnyK_only 3 rfl (by kernel_rfl) (by rfl) (fun K hK => ?_)
    go_simp
    refine (parts_any a b c _).mono ?_
    rintro e U ⟨rfl, hst⟩
    go_wp2_with fail
    refine ⟨Kp.of hst hN, ?_⟩
    replace c0 := After.cellB hst c0
    replace c1 := After.cellB hst c1
    replace c2 := After.cellB hst c2
    replace d0 := After.cellB hst d0
    replace d1 := After.cellB hst d1
    replace d2 := After.cellB hst d2
    try replace hS := Six.below hS hst
    replace hB := bthen hB hst
    replace hN := Nat.le_trans hN (Below.size hst)
    clear hst
    refine wpAnyK_take 4 rfl (by kernel_rfl) (by kernel_rfl) (by kernel_rfl) (fun _ _ _ _ h => h) ⟨_, Or.inl ⟨by rfl, fun w' hb => by (go_simp; try with_reducible rfl)⟩, _, by (go_simp; try rfl), ?_⟩
    refine wpAnyK_only 6 rfl (by kernel_rfl) (by rfl) (fun K hK => ?_)
    obtain ⟨e0, e1, e2, e3, e4, e5, -⟩ := hS.cells
    have g0 := hS.free 0
    have g1 := hS.free 1
    have g2 := hS.free 2
    have g3 := hS.free 3
    have g4 := hS.free 4
    have g5 := hS.free 5
    go_simp
    refine hK _ _ ?_
    clear hK e0 e1 e2 e3 e4 e5 g0 g1 g2 g3 g4 g5
    obtain ⟨U2, hU2, hS, hbl, hkp⟩ := hS.store (.int .i32 x) (.int .i32 y) (.int .i32 z) (.int .i32 a) (.int .i32 b) (.int .i32 c)
    rw [hU2]
    refine ⟨hkp _ _ (Or.inr hNb), ?_⟩
    replace hB := hbl _ _ (by omega) hB
    clear hbl hkp hU2 hN
    obtain ⟨s0, s1, s2, s3, s4, s5, hN⟩ := hS.cells
    generalize U2 = U at *
    refine wpAnyK_done (by kernel_rfl) ?_ _
    go_wp2_with fail
    have hst : After U U.drew := (Below.refl _ _).drew
    replace s0 := After.cellB hst s0
    replace s1 := After.cellB hst s1
    replace s2 := After.cellB hst s2
    replace s3 := After.cellB hst s3
    replace s4 := After.cellB hst s4
    replace s5 := After.cellB hst s5
    replace hB := bthen hB hst
    replace hN := Nat.le_trans hN (Below.size hst)
    clear hst
    refine wp_region_K (N := b6 + 1) (X := []) (by kernel_rfl) ?_
    generalize U.drew = U at *
    refine wpAnyK_take 0 rfl (by kernel_rfl) (by kernel_rfl) (by kernel_rfl) (fun _ _ _ _ h => h) ⟨_, Or.inl ⟨by rfl, fun w' hb => by (have k0 := hb.cellB (by simp) (by simp <;> omega) s0; have k1 := hb.cellB (by simp) (by simp <;> omega) s1; have k2 := hb.cellB (by simp) (by simp <;> omega) s2; have k3 := hb.cellB (by simp) (by simp <;> omega) s3; have k4 := hb.cellB (by simp) (by simp <;> omega) s4; have k5 := hb.cellB (by simp) (by simp <;> omega) s5; go_simp; try with_reducible rfl)⟩, _, by (go_simp; try rfl), ?_⟩
    refine wpAnyK_take 2 rfl (by kernel_rfl) (by kernel_rfl) (by kernel_rfl) (fun _ _ _ _ h => h) ⟨_, Or.inl ⟨by rfl, fun w' hb => by (have k0 := hb.cellB (by simp) (by simp <;> omega) s0; have k1 := hb.cellB (by simp) (by simp <;> omega) s1; have k2 := hb.cellB (by simp) (by simp <;> omega) s2; have k3 := hb.cellB (by simp) (by simp <;> omega) s3; have k4 := hb.cellB (by simp) (by simp <;> omega) s4; have k5 := hb.cellB (by simp) (by simp <;> omega) s5; go_simp; try with_reducible rfl)⟩, _, by (go_simp; try rfl), ?_⟩
    refine wpAnyK_take 5 rfl (by kernel_rfl) (by kernel_rfl) (by kernel_rfl) (fun _ _ _ _ h => h) ⟨_, Or.inl ⟨by rfl, fun w' hb => by (have k0 := hb.cellB (by simp) (by simp <;> omega) s0; have k1 := hb.cellB (by simp) (by simp <;> omega) s1; have k2 := hb.cellB (by simp) (by simp <;> omega) s2; have k3 := hb.cellB (by simp) (by simp <;> omega) s3; have k4 := hb.cellB (by simp) (by simp <;> omega) s4; have k5 := hb.cellB (by simp) (by simp <;> omega) s5; go_simp; try with_reducible rfl)⟩, _, by (go_simp; try rfl), ?_⟩
    refine wpAnyK_only 1 rfl (by kernel_rfl) (by rfl) (fun K hK => ?_)
    go_simp
    refine (h1.out _).mono ?_
    rintro e U ⟨rfl, hst⟩
    go_wp2_with fail
    refine ⟨Kp.of hst hN, ?_⟩
    replace s0 := After.cellB hst s0
    replace s1 := After.cellB hst s1
    replace s2 := After.cellB hst s2
    replace s3 := After.cellB hst s3
    replace s4 := After.cellB hst s4
    replace s5 := After.cellB hst s5
    replace hB := bthen hB hst
    replace hN := Nat.le_trans hN (Below.size hst)
    clear hst
    refine wpAnyK_only 3 rfl (by kernel_rfl) (by rfl) (fun K hK => ?_)
    go_simp
    refine (h2.out _).mono ?_
    rintro e U ⟨rfl, hst⟩
    go_wp2_with fail
    refine ⟨Kp.of hst hN, ?_⟩
    replace s0 := After.cellB hst s0
    replace s1 := After.cellB hst s1
    replace s2 := After.cellB hst s2
    replace s3 := After.cellB hst s3
    replace s4 := After.cellB hst s4
    replace s5 := After.cellB hst s5
    replace hB := bthen hB hst
    replace hN := Nat.le_trans hN (Below.size hst)
    clear hst
    refine wpAnyK_take 4 rfl (by kernel_rfl) (by kernel_rfl) (by kernel_rfl) (fun _ _ _ _ h => h) ⟨_, Or.inl ⟨by rfl, fun w' hb => by (go_simp; try with_reducible rfl)⟩, _, by (go_simp; try rfl), ?_⟩
    refine wpAnyK_only 6 rfl (by kernel_rfl) (by rfl) (fun K hK => ?_)
    go_simp
    refine (h3.out _).mono ?_
    rintro e U ⟨rfl, hst⟩
    go_wp2_with fail
    refine ⟨Kp.of hst hN, ?_⟩
    replace s0 := After.cellB hst s0
    replace s1 := After.cellB hst s1
    replace s2 := After.cellB hst s2
    replace s3 := After.cellB hst s3
    replace s4 := After.cellB hst s4
    replace s5 := After.cellB hst s5
    replace hB := bthen hB hst
    replace hN := Nat.le_trans hN (Below.size hst)
    clear hst
    refine wpAnyK_take 7 rfl (by kernel_rfl) (by kernel_rfl) (by kernel_rfl) (fun _ _ _ _ h => h) ⟨_, Or.inl ⟨by rfl, fun w' hb => by (go_simp; try with_reducible rfl)⟩, _, by (go_simp; try rfl), ?_⟩
    refine wpAnyK_only 8 rfl (by kernel_rfl) (by rfl) (fun K hK => ?_)
    go_simp
    refine (h4.out _).mono ?_
    rintro e U ⟨rfl, hst⟩
    rw [clampV_def]
    go_wp2_with fail
    refine ⟨Kp.of hst hN, ?_⟩
    replace s0 := After.cellB hst s0
    replace s1 := After.cellB hst s1
    replace s2 := After.cellB hst s2
    replace s3 := After.cellB hst s3
    replace s4 := After.cellB hst s4
    replace s5 := After.cellB hst s5
    replace hB := bthen hB hst
    replace hN := Nat.le_trans hN (Below.size hst)
    clear hst
    refine wpAnyK_take 9 rfl (by kernel_rfl) (by kernel_rfl) (by kernel_rfl) (fun _ _ _ _ h => h) ⟨_, Or.inl ⟨by rfl, fun w' hb => by (go_simp; try with_reducible rfl)⟩, _, by (go_simp; try rfl), ?_⟩
    refine wpAnyK_take 10 rfl (by kernel_rfl) (by kernel_rfl) (by kernel_rfl) (fun _ _ _ _ h => h) ⟨_, Or.inl ⟨by rfl, fun w' hb => by (go_simp; try with_reducible rfl)⟩, _, by (go_simp; try rfl), ?_⟩
    refine wpAnyK_take 11 rfl (by kernel_rfl) (by kernel_rfl) (by kernel_rfl) (fun _ _ _ _ h => h) ⟨_, Or.inl ⟨by rfl, fun w' hb => by (go_simp; try with_reducible rfl)⟩, _, by (go_simp; try rfl), ?_⟩
    refine wpAnyK_take 12 rfl (by kernel_rfl) (by kernel_rfl) (by kernel_rfl) (fun _ _ _ _ h => h) ⟨_, Or.inl ⟨by rfl, fun w' hb => by (go_simp; try with_reducible rfl)⟩, _, by (go_simp; try rfl), ?_⟩
    refine wpAnyK_done (by kernel_rfl) ?_ _
    go_wp2_with fail
    go_ret2
    exact ⟨rfl, hB⟩

end Go.Proofs.Yticjpdojiiepeaa
