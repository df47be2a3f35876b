/- Package vec and its reference: multiples, products, lengths. -/
import Derived.Test.YtpdpcdifnlellaaGreatVec3
namespace Go.Proofs.YtpdpcdifnlellaaGreat
open Go.ChangeShapes Go.WideShapes Go.ChangeAt Go.RowKit
set_option linter.unusedVariables false

theorem store3 (U : World) (b : Nat) (x y z u0 u1 u2 : Value) (e0 : U.cell? ⟨b, 0, none⟩ = some u0) (e1 : U.cell? ⟨b, 1, none⟩ = some u1) (e2 : U.cell? ⟨b, 2, none⟩ = some u2) :
    ∃ U', ((U.setCell ⟨b, 0, none⟩ x).setCell ⟨b, 1, none⟩ y).setCell ⟨b, 2, none⟩ z = U' ∧ U'.cell? ⟨b, 0, none⟩ = some x ∧ U'.cell? ⟨b, 1, none⟩ = some y ∧ U'.cell? ⟨b, 2, none⟩ = some z ∧
      (∀ b' j, b' ≠ b → U'.cell? ⟨b', j, none⟩ = U.cell? ⟨b', j, none⟩) ∧ (∀ p, U'.frozen? p = U.frozen? p) ∧ (∀ (B : Nat) (w : World), B ≤ b → Below B w U → Below B w U') ∧ U'.heap.size = U.heap.size := by
  have n01 : (⟨b, 0, none⟩ : Addr) ≠ ⟨b, 1, none⟩ := by intro h; cases h
  have n02 : (⟨b, 0, none⟩ : Addr) ≠ ⟨b, 2, none⟩ := by intro h; cases h
  have n12 : (⟨b, 1, none⟩ : Addr) ≠ ⟨b, 2, none⟩ := by intro h; cases h
  refine ⟨_, rfl, ?_, ?_, ?_, ?_, ?_, fun B w h hb => below3 hb b x y z h, by simp⟩
  · rw [World.cell?_setCell_other _ _ _ _ n02.symm, World.cell?_setCell_other _ _ _ _ n01.symm, World.cell?_setCell_same _ _ _ e0]
  · rw [World.cell?_setCell_other _ _ _ _ n12.symm, World.cell?_setCell_same _ _ _ (u := u1)]
    rw [World.cell?_setCell_other _ _ _ _ n01]; exact e1
  · rw [World.cell?_setCell_same _ _ _ (u := u2)]
    rw [World.cell?_setCell_other _ _ _ _ n12, World.cell?_setCell_other _ _ _ _ n02]; exact e2
  · intro b' j h
    have hn : ∀ i, (⟨b, i, none⟩ : Addr) ≠ ⟨b', j, none⟩ := fun i e => h (congrArg Addr.block e).symm
    rw [World.cell?_setCell_other _ _ _ _ (hn 2), World.cell?_setCell_other _ _ _ _ (hn 1), World.cell?_setCell_other _ _ _ _ (hn 0)]
  · intro p; rw [World.frozen?_setCell, World.frozen?_setCell, World.frozen?_setCell]

set_option maxRecDepth 100000 in
set_option maxHeartbeats 4000000 in
theorem rscale_any (x y z f : Int) (w : World) (p0 : B32 x) (p1 : B32 y) (p2 : B32 z) (q0 : B32 f) :
    Calls Tryz.prog 34 #[.agg #[.int .i32 x, .int .i32 y, .int .i32 z], .int .i32 f] w fun e w' => e = .returned (cut3 (fun i => roundS (sel i x y z * f) 16)) ∧ Below w.heap.size w w' := by
  obtain ⟨W, hW, hB, hN, c0, c1, c2, x0, x1, x2, -, hf⟩ := boxes2 w 25 25 (.int .i32 x) (.int .i32 y) (.int .i32 z) (.int .i32 0) (.int .i32 0) (.int .i32 0)
  have y0 := hf 0
  have y1 := hf 1
  have y2 := hf 2
  clear hf
  have h1 := hid (fun (v : World) => times_any x f 16 v p0 q0)
  have h2 := hid (fun (v : World) => times_any y f 16 v p1 q0)
  have h3 := hid (fun (v : World) => times_any z f 16 v p2 q0)
  have b1 := round16_bd x f p0 q0
  have b2 := round16_bd y f p1 q0
  have b3 := round16_bd z f p2 q0
  have hV : cut3 (fun i => roundS (sel i x y z * f) 16) = cut3 (fun i => sel i (roundS (x * f) 16) (roundS (y * f) 16) (roundS (z * f) 16)) := rfl
  rw [hV]
  clear hV
  generalize roundS (x * f) 16 = r1 at *
  generalize roundS (y * f) 16 = r2 at *
  generalize roundS (z * f) 16 = r3 at *
  have hC := hid (fun (v : World) => cut_any r1 r2 r3 v (by omega) (by omega) (by omega))
  have hV2 : cut3 (fun i => sel i r1 r2 r3) = .tuple #[.agg #[.int .i32 (clampS r1), .int .i32 (clampS r2), .int .i32 (clampS r3)], .int .i64 (cuts (fun i => sel i r1 r2 r3) 3)] := rfl
  generalize clampS r1 = s0 at *
  generalize clampS r2 = s1 at *
  generalize clampS r3 = s2 at *
  generalize cuts (fun i => sel i r1 r2 r3) 3 = cn at *
  replace hV2 := hid hV2
  clear p0 p1 p2 q0 b1 b2 b3
  go_enter Tryz.func34, Tryz.ntmps34
  go_wp2_with fail
  have hst : After W W.drew := (Below.refl _ _).drew
  replace y0 := After.frozenB hst x0 y0
  replace y1 := After.frozenB hst x1 y1
  replace y2 := After.frozenB hst x2 y2
  try replace g0 := After.frozenB hst e0 g0
  try replace g1 := After.frozenB hst e1 g1
  try replace g2 := After.frozenB hst e2 g2
  replace c0 := After.cellB hst c0
  replace c1 := After.cellB hst c1
  replace c2 := After.cellB hst c2
  replace x0 := After.cellB hst x0
  replace x1 := After.cellB hst x1
  replace x2 := After.cellB hst x2
  try replace e0 := After.cellB hst e0
  try replace e1 := After.cellB hst e1
  try replace e2 := After.cellB hst e2
  replace hB := bthen hB hst
  replace hN := Nat.le_trans hN (Below.size hst)
  clear hst
  refine wp_region_K (N := w.heap.size + 2) (X := []) (by kernel_rfl) ?_
  generalize W.drew = U at *
  refine wpAnyK_take 0 rfl (by kernel_rfl) (by kernel_rfl) (by kernel_rfl) (fun _ _ _ _ h => h) ⟨_, Or.inl ⟨by rfl, fun w' hb => by (go_simp; try with_reducible rfl)⟩, _, by (go_simp; try rfl), ?_⟩
  refine wpAnyK_take 1 rfl (by kernel_rfl) (by kernel_rfl) (by kernel_rfl) (fun _ _ _ _ h => h) ⟨_, Or.inl ⟨by rfl, fun w' hb => by (have h0 := hb.cellB (by simp) (by simp) c0; go_simp; try with_reducible rfl)⟩, _, by (go_simp; try rfl), ?_⟩
  refine wpAnyK_take 2 rfl (by kernel_rfl) (by kernel_rfl) (by kernel_rfl) (fun _ _ _ _ h => h) ⟨_, Or.inl ⟨by rfl, fun w' hb => by (go_simp; try with_reducible rfl)⟩, _, by (go_simp; try rfl), ?_⟩
  refine wpAnyK_take 4 rfl (by kernel_rfl) (by kernel_rfl) (by kernel_rfl) (fun _ _ _ _ h => h) ⟨_, Or.inl ⟨by rfl, fun w' hb => by (go_simp; try with_reducible rfl)⟩, _, by (go_simp; try rfl), ?_⟩
  refine wpAnyK_take 5 rfl (by kernel_rfl) (by kernel_rfl) (by kernel_rfl) (fun _ _ _ _ h => h) ⟨_, Or.inl ⟨by rfl, fun w' hb => by (have h0 := hb.cellB (by simp) (by simp) c1; go_simp; try with_reducible rfl)⟩, _, by (go_simp; try rfl), ?_⟩
  refine wpAnyK_take 6 rfl (by kernel_rfl) (by kernel_rfl) (by kernel_rfl) (fun _ _ _ _ h => h) ⟨_, Or.inl ⟨by rfl, fun w' hb => by (go_simp; try with_reducible rfl)⟩, _, by (go_simp; try rfl), ?_⟩
  refine wpAnyK_take 8 rfl (by kernel_rfl) (by kernel_rfl) (by kernel_rfl) (fun _ _ _ _ h => h) ⟨_, Or.inl ⟨by rfl, fun w' hb => by (go_simp; try with_reducible rfl)⟩, _, by (go_simp; try rfl), ?_⟩
  refine wpAnyK_take 9 rfl (by kernel_rfl) (by kernel_rfl) (by kernel_rfl) (fun _ _ _ _ h => h) ⟨_, Or.inl ⟨by rfl, fun w' hb => by (have h0 := hb.cellB (by simp) (by simp) c2; go_simp; try with_reducible rfl)⟩, _, by (go_simp; try rfl), ?_⟩
  refine wpAnyK_take 10 rfl (by kernel_rfl) (by kernel_rfl) (by kernel_rfl) (fun _ _ _ _ h => h) ⟨_, Or.inl ⟨by rfl, fun w' hb => by (go_simp; try with_reducible rfl)⟩, _, by (go_simp; try rfl), ?_⟩
  refine wpAnyK_two 3 16 rfl rfl (by kernel_rfl) (by rfl) (by rfl) (fun K hK => ?_) (fun K hK => ?_)
  · have hbr := True.intro
    go_simp
    refine (h1.out _).mono ?_
    rintro e U ⟨rfl, rfl⟩
    go_wp2_with fail
    refine ⟨Kp.refl _ _ _, ?_⟩
    refine wpAnyK_two 7 16 rfl rfl (by kernel_rfl) (by rfl) (by rfl) (fun K hK => ?_) (fun K hK => ?_)
    · have hbr := True.intro
      go_simp
      refine (h2.out _).mono ?_
      rintro e U ⟨rfl, rfl⟩
      go_wp2_with fail
      refine ⟨Kp.refl _ _ _, ?_⟩
      refine wpAnyK_two 11 16 rfl rfl (by kernel_rfl) (by rfl) (by rfl) (fun K hK => ?_) (fun K hK => ?_)
      · have hbr := True.intro
        go_simp
        refine (h3.out _).mono ?_
        rintro e U ⟨rfl, rfl⟩
        go_wp2_with fail
        refine ⟨Kp.refl _ _ _, ?_⟩
        refine wpAnyK_two 12 16 rfl rfl (by kernel_rfl) (by rfl) (by rfl) (fun K hK => ?_) (fun K hK => ?_)
        · have hbr := True.intro
          go_simp
          refine (hC.out _).mono ?_
          rintro e U ⟨rfl, hst⟩
          rw [hV2.out]
          go_wp2_with fail
          refine ⟨Kp.of hst hN, ?_⟩
          replace y0 := After.frozenB hst x0 y0
          replace y1 := After.frozenB hst x1 y1
          replace y2 := After.frozenB hst x2 y2
          try replace g0 := After.frozenB hst e0 g0
          try replace g1 := After.frozenB hst e1 g1
          try replace g2 := After.frozenB hst e2 g2
          replace c0 := After.cellB hst c0
          replace c1 := After.cellB hst c1
          replace c2 := After.cellB hst c2
          replace x0 := After.cellB hst x0
          replace x1 := After.cellB hst x1
          replace x2 := After.cellB hst x2
          try replace e0 := After.cellB hst e0
          try replace e1 := After.cellB hst e1
          try replace e2 := After.cellB hst e2
          replace hB := bthen hB hst
          replace hN := Nat.le_trans hN (Below.size hst)
          clear hst
          refine wpAnyK_take 13 rfl (by kernel_rfl) (by kernel_rfl) (by kernel_rfl) (fun _ _ _ _ h => h) ⟨_, Or.inl ⟨by rfl, fun w' hb => by (go_simp; try with_reducible rfl)⟩, _, by (go_simp; try rfl), ?_⟩
          refine wpAnyK_take 14 rfl (by kernel_rfl) (by kernel_rfl) (by kernel_rfl) (fun _ _ _ _ h => h) ⟨_, Or.inl ⟨by rfl, fun w' hb => by (go_simp; try with_reducible rfl)⟩, _, by (go_simp; try rfl), ?_⟩
          refine wpAnyK_take 15 rfl (by kernel_rfl) (by kernel_rfl) (by kernel_rfl) (fun _ _ _ _ h => h) ⟨_, Or.inl ⟨by rfl, fun w' hb => by (go_simp; try with_reducible rfl)⟩, _, by (go_simp; try rfl), ?_⟩
          refine wpAnyK_only 16 rfl (by kernel_rfl) (by rfl) (fun K hK => ?_)
          go_simp
          have hNb := hN
          have hst := aalloc U (.cells #[.int .i32 0, .int .i32 0, .int .i32 0] 25)
          refine hK _ _ ?_
          refine ⟨Kp.of hst hN, ?_⟩
          replace y0 := After.frozenB hst x0 y0
          replace y1 := After.frozenB hst x1 y1
          replace y2 := After.frozenB hst x2 y2
          try replace g0 := After.frozenB hst e0 g0
          try replace g1 := After.frozenB hst e1 g1
          try replace g2 := After.frozenB hst e2 g2
          replace c0 := After.cellB hst c0
          replace c1 := After.cellB hst c1
          replace c2 := After.cellB hst c2
          replace x0 := After.cellB hst x0
          replace x1 := After.cellB hst x1
          replace x2 := After.cellB hst x2
          try replace e0 := After.cellB hst e0
          try replace e1 := After.cellB hst e1
          try replace e2 := After.cellB hst e2
          replace hB := bthen hB hst
          replace hN := Nat.le_trans hN (Below.size hst)
          clear hst
          have e0 : (U.alloc (.cells #[.int .i32 0, .int .i32 0, .int .i32 0] 25)).cell? ⟨U.heap.size, 0, none⟩ = some (.int .i32 0) := by simp
          have e1 : (U.alloc (.cells #[.int .i32 0, .int .i32 0, .int .i32 0] 25)).cell? ⟨U.heap.size, 1, none⟩ = some (.int .i32 0) := by simp
          have e2 : (U.alloc (.cells #[.int .i32 0, .int .i32 0, .int .i32 0] 25)).cell? ⟨U.heap.size, 2, none⟩ = some (.int .i32 0) := by simp
          have gg : ∀ j, (U.alloc (.cells #[.int .i32 0, .int .i32 0, .int .i32 0] 25)).frozen? ⟨U.heap.size, j, none⟩ = false := fun j => frozen_of_row _ _ _ _ _ (heap_new _ _ _ rfl)
          have g0 := gg 0
          have g1 := gg 1
          have g2 := gg 2
          clear gg hK
          generalize U.heap.size = b6 at *
          generalize U.alloc (.cells #[.int .i32 0, .int .i32 0, .int .i32 0] 25) = U at *
          refine wpAnyK_only 17 rfl (by kernel_rfl) (by rfl) (fun K hK => ?_)
          go_simp
          refine hK _ _ ?_
          refine ⟨kp3 _ _ _ _ _ _ _ (Or.inr hNb), ?_⟩
          obtain ⟨U2, hU2, e0', e1', e2', hoth, hfz, hbl, -⟩ := store3 U b6 (.int .i32 s0) (.int .i32 s1) (.int .i32 s2) _ _ _ e0 e1 e2
          rw [hU2]
          replace x0 := (hoth _ 0 (by omega)).trans x0
          replace x1 := (hoth _ 1 (by omega)).trans x1
          replace x2 := (hoth _ 2 (by omega)).trans x2
          replace y0 := (hfz _).trans y0
          replace y1 := (hfz _).trans y1
          replace y2 := (hfz _).trans y2
          replace hB := hbl _ _ (by omega) hB
          clear hoth hfz hbl hU2 e0 e1 e2 c0 c1 c2 g0 g1 g2 hN
          refine wpAnyK_take 18 rfl (by kernel_rfl) (by kernel_rfl) (by kernel_rfl) (fun _ _ _ _ h => h) ⟨_, Or.inl ⟨by rfl, fun w' hb => by (go_simp; try with_reducible rfl)⟩, _, by (go_simp; try rfl), ?_⟩
          refine wpAnyK_done (by kernel_rfl) ?_ _
          go_wp2_with fail
          refine bodyPost_ret (v := .tuple #[.agg #[.int .i32 s0, .int .i32 s1, .int .i32 s2], .int .i64 cn]) (by simp [results, Tryz.results34, go_sem, x0, x1, x2]) rfl ⟨by rw [hV2.out], ?_⟩
          exact below3 hB _ _ _ _ (by omega)
        · have hbr := True.intro
          go_simp
          have hNb := hN
          have hst := aalloc U (.cells #[.int .i32 0, .int .i32 0, .int .i32 0] 25)
          refine hK _ _ ?_
          refine ⟨Kp.of hst hN, ?_⟩
          replace y0 := After.frozenB hst x0 y0
          replace y1 := After.frozenB hst x1 y1
          replace y2 := After.frozenB hst x2 y2
          try replace g0 := After.frozenB hst e0 g0
          try replace g1 := After.frozenB hst e1 g1
          try replace g2 := After.frozenB hst e2 g2
          replace c0 := After.cellB hst c0
          replace c1 := After.cellB hst c1
          replace c2 := After.cellB hst c2
          replace x0 := After.cellB hst x0
          replace x1 := After.cellB hst x1
          replace x2 := After.cellB hst x2
          try replace e0 := After.cellB hst e0
          try replace e1 := After.cellB hst e1
          try replace e2 := After.cellB hst e2
          replace hB := bthen hB hst
          replace hN := Nat.le_trans hN (Below.size hst)
          clear hst
          have e0 : (U.alloc (.cells #[.int .i32 0, .int .i32 0, .int .i32 0] 25)).cell? ⟨U.heap.size, 0, none⟩ = some (.int .i32 0) := by simp
          have e1 : (U.alloc (.cells #[.int .i32 0, .int .i32 0, .int .i32 0] 25)).cell? ⟨U.heap.size, 1, none⟩ = some (.int .i32 0) := by simp
          have e2 : (U.alloc (.cells #[.int .i32 0, .int .i32 0, .int .i32 0] 25)).cell? ⟨U.heap.size, 2, none⟩ = some (.int .i32 0) := by simp
          have gg : ∀ j, (U.alloc (.cells #[.int .i32 0, .int .i32 0, .int .i32 0] 25)).frozen? ⟨U.heap.size, j, none⟩ = false := fun j => frozen_of_row _ _ _ _ _ (heap_new _ _ _ rfl)
          have g0 := gg 0
          have g1 := gg 1
          have g2 := gg 2
          clear gg hK
          generalize U.heap.size = b6 at *
          generalize U.alloc (.cells #[.int .i32 0, .int .i32 0, .int .i32 0] 25) = U at *
          refine wpAnyK_only 12 rfl (by kernel_rfl) (by rfl) (fun K hK => ?_)
          go_simp
          refine (hC.out _).mono ?_
          rintro e U ⟨rfl, hst⟩
          rw [hV2.out]
          go_wp2_with fail
          refine ⟨Kp.of hst hN, ?_⟩
          replace y0 := After.frozenB hst x0 y0
          replace y1 := After.frozenB hst x1 y1
          replace y2 := After.frozenB hst x2 y2
          try replace g0 := After.frozenB hst e0 g0
          try replace g1 := After.frozenB hst e1 g1
          try replace g2 := After.frozenB hst e2 g2
          replace c0 := After.cellB hst c0
          replace c1 := After.cellB hst c1
          replace c2 := After.cellB hst c2
          replace x0 := After.cellB hst x0
          replace x1 := After.cellB hst x1
          replace x2 := After.cellB hst x2
          try replace e0 := After.cellB hst e0
          try replace e1 := After.cellB hst e1
          try replace e2 := After.cellB hst e2
          replace hB := bthen hB hst
          replace hN := Nat.le_trans hN (Below.size hst)
          clear hst
          refine wpAnyK_take 13 rfl (by kernel_rfl) (by kernel_rfl) (by kernel_rfl) (fun _ _ _ _ h => h) ⟨_, Or.inl ⟨by rfl, fun w' hb => by (go_simp; try with_reducible rfl)⟩, _, by (go_simp; try rfl), ?_⟩
          refine wpAnyK_take 14 rfl (by kernel_rfl) (by kernel_rfl) (by kernel_rfl) (fun _ _ _ _ h => h) ⟨_, Or.inl ⟨by rfl, fun w' hb => by (go_simp; try with_reducible rfl)⟩, _, by (go_simp; try rfl), ?_⟩
          refine wpAnyK_take 15 rfl (by kernel_rfl) (by kernel_rfl) (by kernel_rfl) (fun _ _ _ _ h => h) ⟨_, Or.inl ⟨by rfl, fun w' hb => by (go_simp; try with_reducible rfl)⟩, _, by (go_simp; try rfl), ?_⟩
          refine wpAnyK_only 17 rfl (by kernel_rfl) (by rfl) (fun K hK => ?_)
          go_simp
          refine hK _ _ ?_
          refine ⟨kp3 _ _ _ _ _ _ _ (Or.inr hNb), ?_⟩
          obtain ⟨U2, hU2, e0', e1', e2', hoth, hfz, hbl, -⟩ := store3 U b6 (.int .i32 s0) (.int .i32 s1) (.int .i32 s2) _ _ _ e0 e1 e2
          rw [hU2]
          replace x0 := (hoth _ 0 (by omega)).trans x0
          replace x1 := (hoth _ 1 (by omega)).trans x1
          replace x2 := (hoth _ 2 (by omega)).trans x2
          replace y0 := (hfz _).trans y0
          replace y1 := (hfz _).trans y1
          replace y2 := (hfz _).trans y2
          replace hB := hbl _ _ (by omega) hB
          clear hoth hfz hbl hU2 e0 e1 e2 c0 c1 c2 g0 g1 g2 hN
          refine wpAnyK_take 18 rfl (by kernel_rfl) (by kernel_rfl) (by kernel_rfl) (fun _ _ _ _ h => h) ⟨_, Or.inl ⟨by rfl, fun w' hb => by (go_simp; try with_reducible rfl)⟩, _, by (go_simp; try rfl), ?_⟩
          refine wpAnyK_done (by kernel_rfl) ?_ _
          go_wp2_with fail
          refine bodyPost_ret (v := .tuple #[.agg #[.int .i32 s0, .int .i32 s1, .int .i32 s2], .int .i64 cn]) (by simp [results, Tryz.results34, go_sem, x0, x1, x2]) rfl ⟨by rw [hV2.out], ?_⟩
          exact below3 hB _ _ _ _ (by omega)
      · have hbr := True.intro
        go_simp
        have hNb := hN
        have hst := aalloc U (.cells #[.int .i32 0, .int .i32 0, .int .i32 0] 25)
        refine hK _ _ ?_
        refine ⟨Kp.of hst hN, ?_⟩
        replace y0 := After.frozenB hst x0 y0
        replace y1 := After.frozenB hst x1 y1
        replace y2 := After.frozenB hst x2 y2
        try replace g0 := After.frozenB hst e0 g0
        try replace g1 := After.frozenB hst e1 g1
        try replace g2 := After.frozenB hst e2 g2
        replace c0 := After.cellB hst c0
        replace c1 := After.cellB hst c1
        replace c2 := After.cellB hst c2
        replace x0 := After.cellB hst x0
        replace x1 := After.cellB hst x1
        replace x2 := After.cellB hst x2
        try replace e0 := After.cellB hst e0
        try replace e1 := After.cellB hst e1
        try replace e2 := After.cellB hst e2
        replace hB := bthen hB hst
        replace hN := Nat.le_trans hN (Below.size hst)
        clear hst
        have e0 : (U.alloc (.cells #[.int .i32 0, .int .i32 0, .int .i32 0] 25)).cell? ⟨U.heap.size, 0, none⟩ = some (.int .i32 0) := by simp
        have e1 : (U.alloc (.cells #[.int .i32 0, .int .i32 0, .int .i32 0] 25)).cell? ⟨U.heap.size, 1, none⟩ = some (.int .i32 0) := by simp
        have e2 : (U.alloc (.cells #[.int .i32 0, .int .i32 0, .int .i32 0] 25)).cell? ⟨U.heap.size, 2, none⟩ = some (.int .i32 0) := by simp
        have gg : ∀ j, (U.alloc (.cells #[.int .i32 0, .int .i32 0, .int .i32 0] 25)).frozen? ⟨U.heap.size, j, none⟩ = false := fun j => frozen_of_row _ _ _ _ _ (heap_new _ _ _ rfl)
        have g0 := gg 0
        have g1 := gg 1
        have g2 := gg 2
        clear gg hK
        generalize U.heap.size = b6 at *
        generalize U.alloc (.cells #[.int .i32 0, .int .i32 0, .int .i32 0] 25) = U at *
        refine wpAnyK_only 11 rfl (by kernel_rfl) (by rfl) (fun K hK => ?_)
        go_simp
        refine (h3.out _).mono ?_
        rintro e U ⟨rfl, rfl⟩
        go_wp2_with fail
        refine ⟨Kp.refl _ _ _, ?_⟩
        refine wpAnyK_only 12 rfl (by kernel_rfl) (by rfl) (fun K hK => ?_)
        go_simp
        refine (hC.out _).mono ?_
        rintro e U ⟨rfl, hst⟩
        rw [hV2.out]
        go_wp2_with fail
        refine ⟨Kp.of hst hN, ?_⟩
        replace y0 := After.frozenB hst x0 y0
        replace y1 := After.frozenB hst x1 y1
        replace y2 := After.frozenB hst x2 y2
        try replace g0 := After.frozenB hst e0 g0
        try replace g1 := After.frozenB hst e1 g1
        try replace g2 := After.frozenB hst e2 g2
        replace c0 := After.cellB hst c0
        replace c1 := After.cellB hst c1
        replace c2 := After.cellB hst c2
        replace x0 := After.cellB hst x0
        replace x1 := After.cellB hst x1
        replace x2 := After.cellB hst x2
        try replace e0 := After.cellB hst e0
        try replace e1 := After.cellB hst e1
        try replace e2 := After.cellB hst e2
        replace hB := bthen hB hst
        replace hN := Nat.le_trans hN (Below.size hst)
        clear hst
        refine wpAnyK_take 13 rfl (by kernel_rfl) (by kernel_rfl) (by kernel_rfl) (fun _ _ _ _ h => h) ⟨_, Or.inl ⟨by rfl, fun w' hb => by (go_simp; try with_reducible rfl)⟩, _, by (go_simp; try rfl), ?_⟩
        refine wpAnyK_take 14 rfl (by kernel_rfl) (by kernel_rfl) (by kernel_rfl) (fun _ _ _ _ h => h) ⟨_, Or.inl ⟨by rfl, fun w' hb => by (go_simp; try with_reducible rfl)⟩, _, by (go_simp; try rfl), ?_⟩
        refine wpAnyK_take 15 rfl (by kernel_rfl) (by kernel_rfl) (by kernel_rfl) (fun _ _ _ _ h => h) ⟨_, Or.inl ⟨by rfl, fun w' hb => by (go_simp; try with_reducible rfl)⟩, _, by (go_simp; try rfl), ?_⟩
        refine wpAnyK_only 17 rfl (by kernel_rfl) (by rfl) (fun K hK => ?_)
        go_simp
        refine hK _ _ ?_
        refine ⟨kp3 _ _ _ _ _ _ _ (Or.inr hNb), ?_⟩
        obtain ⟨U2, hU2, e0', e1', e2', hoth, hfz, hbl, -⟩ := store3 U b6 (.int .i32 s0) (.int .i32 s1) (.int .i32 s2) _ _ _ e0 e1 e2
        rw [hU2]
        replace x0 := (hoth _ 0 (by omega)).trans x0
        replace x1 := (hoth _ 1 (by omega)).trans x1
        replace x2 := (hoth _ 2 (by omega)).trans x2
        replace y0 := (hfz _).trans y0
        replace y1 := (hfz _).trans y1
        replace y2 := (hfz _).trans y2
        replace hB := hbl _ _ (by omega) hB
        clear hoth hfz hbl hU2 e0 e1 e2 c0 c1 c2 g0 g1 g2 hN
        refine wpAnyK_take 18 rfl (by kernel_rfl) (by kernel_rfl) (by kernel_rfl) (fun _ _ _ _ h => h) ⟨_, Or.inl ⟨by rfl, fun w' hb => by (go_simp; try with_reducible rfl)⟩, _, by (go_simp; try rfl), ?_⟩
        refine wpAnyK_done (by kernel_rfl) ?_ _
        go_wp2_with fail
        refine bodyPost_ret (v := .tuple #[.agg #[.int .i32 s0, .int .i32 s1, .int .i32 s2], .int .i64 cn]) (by simp [results, Tryz.results34, go_sem, x0, x1, x2]) rfl ⟨by rw [hV2.out], ?_⟩
        exact below3 hB _ _ _ _ (by omega)
    · have hbr := True.intro
      go_simp
      have hNb := hN
      have hst := aalloc U (.cells #[.int .i32 0, .int .i32 0, .int .i32 0] 25)
      refine hK _ _ ?_
      refine ⟨Kp.of hst hN, ?_⟩
      replace y0 := After.frozenB hst x0 y0
      replace y1 := After.frozenB hst x1 y1
      replace y2 := After.frozenB hst x2 y2
      try replace g0 := After.frozenB hst e0 g0
      try replace g1 := After.frozenB hst e1 g1
      try replace g2 := After.frozenB hst e2 g2
      replace c0 := After.cellB hst c0
      replace c1 := After.cellB hst c1
      replace c2 := After.cellB hst c2
      replace x0 := After.cellB hst x0
      replace x1 := After.cellB hst x1
      replace x2 := After.cellB hst x2
      try replace e0 := After.cellB hst e0
      try replace e1 := After.cellB hst e1
      try replace e2 := After.cellB hst e2
      replace hB := bthen hB hst
      replace hN := Nat.le_trans hN (Below.size hst)
      clear hst
      have e0 : (U.alloc (.cells #[.int .i32 0, .int .i32 0, .int .i32 0] 25)).cell? ⟨U.heap.size, 0, none⟩ = some (.int .i32 0) := by simp
      have e1 : (U.alloc (.cells #[.int .i32 0, .int .i32 0, .int .i32 0] 25)).cell? ⟨U.heap.size, 1, none⟩ = some (.int .i32 0) := by simp
      have e2 : (U.alloc (.cells #[.int .i32 0, .int .i32 0, .int .i32 0] 25)).cell? ⟨U.heap.size, 2, none⟩ = some (.int .i32 0) := by simp
      have gg : ∀ j, (U.alloc (.cells #[.int .i32 0, .int .i32 0, .int .i32 0] 25)).frozen? ⟨U.heap.size, j, none⟩ = false := fun j => frozen_of_row _ _ _ _ _ (heap_new _ _ _ rfl)
      have g0 := gg 0
      have g1 := gg 1
      have g2 := gg 2
      clear gg hK
      generalize U.heap.size = b6 at *
      generalize U.alloc (.cells #[.int .i32 0, .int .i32 0, .int .i32 0] 25) = U at *
      refine wpAnyK_only 7 rfl (by kernel_rfl) (by rfl) (fun K hK => ?_)
      go_simp
      refine (h2.out _).mono ?_
      rintro e U ⟨rfl, rfl⟩
      go_wp2_with fail
      refine ⟨Kp.refl _ _ _, ?_⟩
      refine wpAnyK_only 11 rfl (by kernel_rfl) (by rfl) (fun K hK => ?_)
      go_simp
      refine (h3.out _).mono ?_
      rintro e U ⟨rfl, rfl⟩
      go_wp2_with fail
      refine ⟨Kp.refl _ _ _, ?_⟩
      refine wpAnyK_only 12 rfl (by kernel_rfl) (by rfl) (fun K hK => ?_)
      go_simp
      refine (hC.out _).mono ?_
      rintro e U ⟨rfl, hst⟩
      rw [hV2.out]
      go_wp2_with fail
      refine ⟨Kp.of hst hN, ?_⟩
      replace y0 := After.frozenB hst x0 y0
      replace y1 := After.frozenB hst x1 y1
      replace y2 := After.frozenB hst x2 y2
      try replace g0 := After.frozenB hst e0 g0
      try replace g1 := After.frozenB hst e1 g1
      try replace g2 := After.frozenB hst e2 g2
      replace c0 := After.cellB hst c0
      replace c1 := After.cellB hst c1
      replace c2 := After.cellB hst c2
      replace x0 := After.cellB hst x0
      replace x1 := After.cellB hst x1
      replace x2 := After.cellB hst x2
      try replace e0 := After.cellB hst e0
      try replace e1 := After.cellB hst e1
      try replace e2 := After.cellB hst e2
      replace hB := bthen hB hst
      replace hN := Nat.le_trans hN (Below.size hst)
      clear hst
      refine wpAnyK_take 13 rfl (by kernel_rfl) (by kernel_rfl) (by kernel_rfl) (fun _ _ _ _ h => h) ⟨_, Or.inl ⟨by rfl, fun w' hb => by (go_simp; try with_reducible rfl)⟩, _, by (go_simp; try rfl), ?_⟩
      refine wpAnyK_take 14 rfl (by kernel_rfl) (by kernel_rfl) (by kernel_rfl) (fun _ _ _ _ h => h) ⟨_, Or.inl ⟨by rfl, fun w' hb => by (go_simp; try with_reducible rfl)⟩, _, by (go_simp; try rfl), ?_⟩
      refine wpAnyK_take 15 rfl (by kernel_rfl) (by kernel_rfl) (by kernel_rfl) (fun _ _ _ _ h => h) ⟨_, Or.inl ⟨by rfl, fun w' hb => by (go_simp; try with_reducible rfl)⟩, _, by (go_simp; try rfl), ?_⟩
      refine wpAnyK_only 17 rfl (by kernel_rfl) (by rfl) (fun K hK => ?_)
      go_simp
      refine hK _ _ ?_
      refine ⟨kp3 _ _ _ _ _ _ _ (Or.inr hNb), ?_⟩
      obtain ⟨U2, hU2, e0', e1', e2', hoth, hfz, hbl, -⟩ := store3 U b6 (.int .i32 s0) (.int .i32 s1) (.int .i32 s2) _ _ _ e0 e1 e2
      rw [hU2]
      replace x0 := (hoth _ 0 (by omega)).trans x0
      replace x1 := (hoth _ 1 (by omega)).trans x1
      replace x2 := (hoth _ 2 (by omega)).trans x2
      replace y0 := (hfz _).trans y0
      replace y1 := (hfz _).trans y1
      replace y2 := (hfz _).trans y2
      replace hB := hbl _ _ (by omega) hB
      clear hoth hfz hbl hU2 e0 e1 e2 c0 c1 c2 g0 g1 g2 hN
      refine wpAnyK_take 18 rfl (by kernel_rfl) (by kernel_rfl) (by kernel_rfl) (fun _ _ _ _ h => h) ⟨_, Or.inl ⟨by rfl, fun w' hb => by (go_simp; try with_reducible rfl)⟩, _, by (go_simp; try rfl), ?_⟩
      refine wpAnyK_done (by kernel_rfl) ?_ _
      go_wp2_with fail
      refine bodyPost_ret (v := .tuple #[.agg #[.int .i32 s0, .int .i32 s1, .int .i32 s2], .int .i64 cn]) (by simp [results, Tryz.results34, go_sem, x0, x1, x2]) rfl ⟨by rw [hV2.out], ?_⟩
      exact below3 hB _ _ _ _ (by omega)
  · have hbr := True.intro
    go_simp
    have hNb := hN
    have hst := aalloc U (.cells #[.int .i32 0, .int .i32 0, .int .i32 0] 25)
    refine hK _ _ ?_
    refine ⟨Kp.of hst hN, ?_⟩
    replace y0 := After.frozenB hst x0 y0
    replace y1 := After.frozenB hst x1 y1
    replace y2 := After.frozenB hst x2 y2
    try replace g0 := After.frozenB hst e0 g0
    try replace g1 := After.frozenB hst e1 g1
    try replace g2 := After.frozenB hst e2 g2
    replace c0 := After.cellB hst c0
    replace c1 := After.cellB hst c1
    replace c2 := After.cellB hst c2
    replace x0 := After.cellB hst x0
    replace x1 := After.cellB hst x1
    replace x2 := After.cellB hst x2
    try replace e0 := After.cellB hst e0
    try replace e1 := After.cellB hst e1
    try replace e2 := After.cellB hst e2
    replace hB := bthen hB hst
    replace hN := Nat.le_trans hN (Below.size hst)
    clear hst
    have e0 : (U.alloc (.cells #[.int .i32 0, .int .i32 0, .int .i32 0] 25)).cell? ⟨U.heap.size, 0, none⟩ = some (.int .i32 0) := by simp
    have e1 : (U.alloc (.cells #[.int .i32 0, .int .i32 0, .int .i32 0] 25)).cell? ⟨U.heap.size, 1, none⟩ = some (.int .i32 0) := by simp
    have e2 : (U.alloc (.cells #[.int .i32 0, .int .i32 0, .int .i32 0] 25)).cell? ⟨U.heap.size, 2, none⟩ = some (.int .i32 0) := by simp
    have gg : ∀ j, (U.alloc (.cells #[.int .i32 0, .int .i32 0, .int .i32 0] 25)).frozen? ⟨U.heap.size, j, none⟩ = false := fun j => frozen_of_row _ _ _ _ _ (heap_new _ _ _ rfl)
    have g0 := gg 0
    have g1 := gg 1
    have g2 := gg 2
    clear gg hK
    generalize U.heap.size = b6 at *
    generalize U.alloc (.cells #[.int .i32 0, .int .i32 0, .int .i32 0] 25) = U at *
    refine wpAnyK_only 3 rfl (by kernel_rfl) (by rfl) (fun K hK => ?_)
    go_simp
    refine (h1.out _).mono ?_
    rintro e U ⟨rfl, rfl⟩
    go_wp2_with fail
    refine ⟨Kp.refl _ _ _, ?_⟩
    refine wpAnyK_only 7 rfl (by kernel_rfl) (by rfl) (fun K hK => ?_)
    go_simp
    refine (h2.out _).mono ?_
    rintro e U ⟨rfl, rfl⟩
    go_wp2_with fail
    refine ⟨Kp.refl _ _ _, ?_⟩
    refine wpAnyK_only 11 rfl (by kernel_rfl) (by rfl) (fun K hK => ?_)
    go_simp
    refine (h3.out _).mono ?_
    rintro e U ⟨rfl, rfl⟩
    go_wp2_with fail
    refine ⟨Kp.refl _ _ _, ?_⟩
    refine wpAnyK_only 12 rfl (by kernel_rfl) (by rfl) (fun K hK => ?_)
    go_simp
    refine (hC.out _).mono ?_
    rintro e U ⟨rfl, hst⟩
    rw [hV2.out]
    go_wp2_with fail
    refine ⟨Kp.of hst hN, ?_⟩
    replace y0 := After.frozenB hst x0 y0
    replace y1 := After.frozenB hst x1 y1
    replace y2 := After.frozenB hst x2 y2
    try replace g0 := After.frozenB hst e0 g0
    try replace g1 := After.frozenB hst e1 g1
    try replace g2 := After.frozenB hst e2 g2
    replace c0 := After.cellB hst c0
    replace c1 := After.cellB hst c1
    replace c2 := After.cellB hst c2
    replace x0 := After.cellB hst x0
    replace x1 := After.cellB hst x1
    replace x2 := After.cellB hst x2
    try replace e0 := After.cellB hst e0
    try replace e1 := After.cellB hst e1
    try replace e2 := After.cellB hst e2
    replace hB := bthen hB hst
    replace hN := Nat.le_trans hN (Below.size hst)
    clear hst
    refine wpAnyK_take 13 rfl (by kernel_rfl) (by kernel_rfl) (by kernel_rfl) (fun _ _ _ _ h => h) ⟨_, Or.inl ⟨by rfl, fun w' hb => by (go_simp; try with_reducible rfl)⟩, _, by (go_simp; try rfl), ?_⟩
    refine wpAnyK_take 14 rfl (by kernel_rfl) (by kernel_rfl) (by kernel_rfl) (fun _ _ _ _ h => h) ⟨_, Or.inl ⟨by rfl, fun w' hb => by (go_simp; try with_reducible rfl)⟩, _, by (go_simp; try rfl), ?_⟩
    refine wpAnyK_take 15 rfl (by kernel_rfl) (by kernel_rfl) (by kernel_rfl) (fun _ _ _ _ h => h) ⟨_, Or.inl ⟨by rfl, fun w' hb => by (go_simp; try with_reducible rfl)⟩, _, by (go_simp; try rfl), ?_⟩
    refine wpAnyK_only 17 rfl (by kernel_rfl) (by rfl) (fun K hK => ?_)
    go_simp
    refine hK _ _ ?_
    refine ⟨kp3 _ _ _ _ _ _ _ (Or.inr hNb), ?_⟩
    obtain ⟨U2, hU2, e0', e1', e2', hoth, hfz, hbl, -⟩ := store3 U b6 (.int .i32 s0) (.int .i32 s1) (.int .i32 s2) _ _ _ e0 e1 e2
    rw [hU2]
    replace x0 := (hoth _ 0 (by omega)).trans x0
    replace x1 := (hoth _ 1 (by omega)).trans x1
    replace x2 := (hoth _ 2 (by omega)).trans x2
    replace y0 := (hfz _).trans y0
    replace y1 := (hfz _).trans y1
    replace y2 := (hfz _).trans y2
    replace hB := hbl _ _ (by omega) hB
    clear hoth hfz hbl hU2 e0 e1 e2 c0 c1 c2 g0 g1 g2 hN
    refine wpAnyK_take 18 rfl (by kernel_rfl) (by kernel_rfl) (by kernel_rfl) (fun _ _ _ _ h => h) ⟨_, Or.inl ⟨by rfl, fun w' hb => by (go_simp; try with_reducible rfl)⟩, _, by (go_simp; try rfl), ?_⟩
    refine wpAnyK_done (by kernel_rfl) ?_ _
    go_wp2_with fail
    refine bodyPost_ret (v := .tuple #[.agg #[.int .i32 s0, .int .i32 s1, .int .i32 s2], .int .i64 cn]) (by simp [results, Tryz.results34, go_sem, x0, x1, x2]) rfl ⟨by rw [hV2.out], ?_⟩
    exact below3 hB _ _ _ _ (by omega)

end Go.Proofs.YtpdpcdifnlellaaGreat
