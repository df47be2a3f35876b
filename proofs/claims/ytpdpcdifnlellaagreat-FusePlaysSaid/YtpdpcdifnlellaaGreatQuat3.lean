/- Package quat's reference: Dot, Mul. -/
import Derived.Test.YtpdpcdifnlellaaGreatQuat2
namespace Go.Proofs.YtpdpcdifnlellaaGreat
open Go.ChangeShapes Go.WideShapes Go.ChangeAt Go.RowKit
set_option maxRecDepth 100000
set_option linter.unusedVariables false

theorem round30_bd (X Y : Int) (hX : B32 X) (hY : B32 Y) : -4294967297 ≤ roundS (X * Y) 30 ∧ roundS (X * Y) 30 ≤ 4294967297 := by
  obtain ⟨m1, m2⟩ := mul_bd X Y hX.1 hX.2 hY.1 hY.2
  have hp : pow2 (bnd 30 62) = 1073741824 := by decide +kernel
  unfold roundS overS
  rw [hp, if_neg (by omega)]
  have hq : qn (X * Y).natAbs (1073741824 : Int).natAbs ≤ 4294967297 := by
    unfold qn
    have : (1073741824 : Int).natAbs = 1073741824 := rfl
    rw [this]
    split <;> omega
  split
  · omega
  · split <;> omega
theorem boxes4 (w : World) (T1 T2 : TypeId) (x y z t a b c d : Int) :
    ∃ W, (w.alloc (.cells #[.int .i32 x, .int .i32 y, .int .i32 z, .int .i32 t] T1)).alloc (.cells #[.int .i32 a, .int .i32 b, .int .i32 c, .int .i32 d] T2) = W ∧ Below w.heap.size w W ∧ w.heap.size + 2 ≤ W.heap.size ∧
    Row .i32 T1 W w.heap.size [x, y, z, t] ∧ Row .i32 T2 W (w.heap.size + 1) [a, b, c, d] := by
  refine ⟨_, rfl, ((Below.refl _ _).alloc (Nat.le_refl _) _).alloc (by simp) _, by simp, ?_, ?_⟩
  · unfold Row; rw [Below.heap_alloc _ _ _ (by simp)]; exact heap_new _ _ _ rfl
  · exact heap_new _ _ _ (by simp)
theorem boxes4r (w : World) (T1 T2 T3 : TypeId) (x y z t a b c d : Int) :
    ∃ W, ((w.alloc (.cells #[.int .i32 x, .int .i32 y, .int .i32 z, .int .i32 t] T1)).alloc (.cells #[.int .i32 a, .int .i32 b, .int .i32 c, .int .i32 d] T2)).alloc (.cells #[.int .i32 0, .int .i32 0, .int .i32 0, .int .i32 0] T3) = W ∧ Below w.heap.size w W ∧ w.heap.size + 3 ≤ W.heap.size ∧
    Row .i32 T1 W w.heap.size [x, y, z, t] ∧ Row .i32 T2 W (w.heap.size + 1) [a, b, c, d] ∧ Row .i32 T3 W (w.heap.size + 1 + 1) [0, 0, 0, 0] := by
  refine ⟨_, rfl, (((Below.refl _ _).alloc (Nat.le_refl _) _).alloc (by simp) _).alloc (by simp; omega) _, by simp, ?_, ?_, ?_⟩
  · unfold Row; rw [Below.heap_alloc _ _ _ (by simp; omega), Below.heap_alloc _ _ _ (by simp)]; exact heap_new _ _ _ rfl
  · unfold Row; rw [Below.heap_alloc _ _ _ (by simp)]; exact heap_new _ _ _ (by simp)
  · exact heap_new _ _ _ (by simp)
/-- The products of parts that stand in one place. -/
def qdot (x y z t a b c d : Int) : Int := roundS (x * a) 30 + roundS (y * b) 30 + roundS (z * c) 30 + roundS (t * d) 30
def mulW (x y z t a b c d : Int) : Int := roundS (x * a) 30 - roundS (y * b) 30 - roundS (z * c) 30 - roundS (t * d) 30
def mulX (x y z t a b c d : Int) : Int := roundS (x * b) 30 + roundS (y * a) 30 + roundS (z * d) 30 - roundS (t * c) 30
def mulY (x y z t a b c d : Int) : Int := roundS (x * c) 30 + roundS (z * a) 30 + roundS (t * b) 30 - roundS (y * d) 30
def mulZ (x y z t a b c d : Int) : Int := roundS (x * d) 30 + roundS (t * a) 30 + roundS (y * c) 30 - roundS (z * b) 30
def mulV (x y z t a b c d : Int) : Value := cut4 (mulW x y z t a b c d) (mulX x y z t a b c d) (mulY x y z t a b c d) (mulZ x y z t a b c d)

set_option maxRecDepth 100000 in
set_option maxHeartbeats 8000000 in
theorem rqmul_any (x y z t a b c d : Int) (w : World) (p0 : B32 x) (p1 : B32 y) (p2 : B32 z) (p3 : B32 t) (q0 : B32 a) (q1 : B32 b) (q2 : B32 c) (q3 : B32 d) :
    Calls Tryz.prog 63 #[.agg #[.int .i32 x, .int .i32 y, .int .i32 z, .int .i32 t], .agg #[.int .i32 a, .int .i32 b, .int .i32 c, .int .i32 d]] w fun e w' => e = .returned (mulV x y z t a b c d) ∧ Below w.heap.size w w' := by
  obtain ⟨W, hW, hB, hN, ra, rb, rc⟩ := boxes4r w 23 23 23 x y z t a b c d
  obtain ⟨c0, c1, c2, c3, -, -, -, -⟩ := ra.four
  obtain ⟨d0, d1, d2, d3, -, -, -, -⟩ := rb.four
  obtain ⟨x0, x1, x2, x3, y0, y1, y2, y3⟩ := rc.four
  clear ra rb rc
  have hV : mulV x y z t a b c d = cut4 (roundS (x * a) 30 - roundS (y * b) 30 - roundS (z * c) 30 - roundS (t * d) 30) (roundS (x * b) 30 + roundS (y * a) 30 + roundS (z * d) 30 - roundS (t * c) 30) (roundS (x * c) 30 + roundS (z * a) 30 + roundS (t * b) 30 - roundS (y * d) 30) (roundS (x * d) 30 + roundS (t * a) 30 + roundS (y * c) 30 - roundS (z * b) 30) := rfl
  have h00 := hid (fun (v : World) => qtimes_any x a v p0 q0)
  have h01 := hid (fun (v : World) => qtimes_any x b v p0 q1)
  have h02 := hid (fun (v : World) => qtimes_any x c v p0 q2)
  have h03 := hid (fun (v : World) => qtimes_any x d v p0 q3)
  have h10 := hid (fun (v : World) => qtimes_any y a v p1 q0)
  have h11 := hid (fun (v : World) => qtimes_any y b v p1 q1)
  have h12 := hid (fun (v : World) => qtimes_any y c v p1 q2)
  have h13 := hid (fun (v : World) => qtimes_any y d v p1 q3)
  have h20 := hid (fun (v : World) => qtimes_any z a v p2 q0)
  have h21 := hid (fun (v : World) => qtimes_any z b v p2 q1)
  have h22 := hid (fun (v : World) => qtimes_any z c v p2 q2)
  have h23 := hid (fun (v : World) => qtimes_any z d v p2 q3)
  have h30 := hid (fun (v : World) => qtimes_any t a v p3 q0)
  have h31 := hid (fun (v : World) => qtimes_any t b v p3 q1)
  have h32 := hid (fun (v : World) => qtimes_any t c v p3 q2)
  have h33 := hid (fun (v : World) => qtimes_any t d v p3 q3)
  have b00 := round30_bd x a p0 q0
  have b01 := round30_bd x b p0 q1
  have b02 := round30_bd x c p0 q2
  have b03 := round30_bd x d p0 q3
  have b10 := round30_bd y a p1 q0
  have b11 := round30_bd y b p1 q1
  have b12 := round30_bd y c p1 q2
  have b13 := round30_bd y d p1 q3
  have b20 := round30_bd z a p2 q0
  have b21 := round30_bd z b p2 q1
  have b22 := round30_bd z c p2 q2
  have b23 := round30_bd z d p2 q3
  have b30 := round30_bd t a p3 q0
  have b31 := round30_bd t b p3 q1
  have b32 := round30_bd t c p3 q2
  have b33 := round30_bd t d p3 q3
  rw [hV]
  clear hV
  generalize roundS (x * a) 30 = r00 at *
  generalize roundS (x * b) 30 = r01 at *
  generalize roundS (x * c) 30 = r02 at *
  generalize roundS (x * d) 30 = r03 at *
  generalize roundS (y * a) 30 = r10 at *
  generalize roundS (y * b) 30 = r11 at *
  generalize roundS (y * c) 30 = r12 at *
  generalize roundS (y * d) 30 = r13 at *
  generalize roundS (z * a) 30 = r20 at *
  generalize roundS (z * b) 30 = r21 at *
  generalize roundS (z * c) 30 = r22 at *
  generalize roundS (z * d) 30 = r23 at *
  generalize roundS (t * a) 30 = r30 at *
  generalize roundS (t * b) 30 = r31 at *
  generalize roundS (t * c) 30 = r32 at *
  generalize roundS (t * d) 30 = r33 at *
  have f1 : IntKind.i64.wrap (r00 - r11) = r00 - r11 := by rw [IntKind.wrap_i64]; omega
  have f2 : IntKind.i64.wrap (r00 - r11 - r22) = r00 - r11 - r22 := by rw [IntKind.wrap_i64]; omega
  have f3 : IntKind.i64.wrap (r00 - r11 - r22 - r33) = r00 - r11 - r22 - r33 := by rw [IntKind.wrap_i64]; omega
  have g1 : IntKind.i64.wrap (r01 + r10) = r01 + r10 := by rw [IntKind.wrap_i64]; omega
  have g2 : IntKind.i64.wrap (r01 + r10 + r23) = r01 + r10 + r23 := by rw [IntKind.wrap_i64]; omega
  have g3 : IntKind.i64.wrap (r01 + r10 + r23 - r32) = r01 + r10 + r23 - r32 := by rw [IntKind.wrap_i64]; omega
  have i1 : IntKind.i64.wrap (r02 + r20) = r02 + r20 := by rw [IntKind.wrap_i64]; omega
  have i2 : IntKind.i64.wrap (r02 + r20 + r31) = r02 + r20 + r31 := by rw [IntKind.wrap_i64]; omega
  have i3 : IntKind.i64.wrap (r02 + r20 + r31 - r13) = r02 + r20 + r31 - r13 := by rw [IntKind.wrap_i64]; omega
  have j1 : IntKind.i64.wrap (r03 + r30) = r03 + r30 := by rw [IntKind.wrap_i64]; omega
  have j2 : IntKind.i64.wrap (r03 + r30 + r12) = r03 + r30 + r12 := by rw [IntKind.wrap_i64]; omega
  have j3 : IntKind.i64.wrap (r03 + r30 + r12 - r21) = r03 + r30 + r12 - r21 := by rw [IntKind.wrap_i64]; omega
  have hC := hid (fun (v : World) => rcut4_any (r00 - r11 - r22 - r33) (r01 + r10 + r23 - r32) (r02 + r20 + r31 - r13) (r03 + r30 + r12 - r21) v (by unfold B64; omega) (by unfold B64; omega) (by unfold B64; omega) (by unfold B64; omega))
  have hV2 : cut4 (r00 - r11 - r22 - r33) (r01 + r10 + r23 - r32) (r02 + r20 + r31 - r13) (r03 + r30 + r12 - r21) = .tuple #[.agg #[.int .i32 (clampS (r00 - r11 - r22 - r33)), .int .i32 (clampS (r01 + r10 + r23 - r32)), .int .i32 (clampS (r02 + r20 + r31 - r13)), .int .i32 (clampS (r03 + r30 + r12 - r21))], .int .i64 (cuts (fun i => sel4 i (r00 - r11 - r22 - r33) (r01 + r10 + r23 - r32) (r02 + r20 + r31 - r13) (r03 + r30 + r12 - r21)) 4)] := rfl
  generalize clampS (r00 - r11 - r22 - r33) = s0 at *
  generalize clampS (r01 + r10 + r23 - r32) = s1 at *
  generalize clampS (r02 + r20 + r31 - r13) = s2 at *
  generalize clampS (r03 + r30 + r12 - r21) = s3 at *
  generalize cuts (fun i => sel4 i (r00 - r11 - r22 - r33) (r01 + r10 + r23 - r32) (r02 + r20 + r31 - r13) (r03 + r30 + r12 - r21)) 4 = cn at *
  replace hV2 := hid hV2
  clear p0 p1 p2 p3 q0 q1 q2 q3 b00 b01 b02 b03 b10 b11 b12 b13 b20 b21 b22 b23 b30 b31 b32 b33
  go_enter Tryz.func63, Tryz.ntmps63
  go_wp2_with fail
  have hst : After W W.drew := (Below.refl _ _).drew
  replace y0 := After.frozenB hst x0 y0
  replace y1 := After.frozenB hst x1 y1
  replace y2 := After.frozenB hst x2 y2
  replace y3 := After.frozenB hst x3 y3
  replace c0 := After.cellB hst c0
  replace c1 := After.cellB hst c1
  replace c2 := After.cellB hst c2
  replace c3 := After.cellB hst c3
  replace d0 := After.cellB hst d0
  replace d1 := After.cellB hst d1
  replace d2 := After.cellB hst d2
  replace d3 := After.cellB hst d3
  replace x0 := After.cellB hst x0
  replace x1 := After.cellB hst x1
  replace x2 := After.cellB hst x2
  replace x3 := After.cellB hst x3
  replace hB := bthen hB hst
  replace hN := Nat.le_trans hN (Below.size hst)
  clear hst
  refine wp_region_K (N := w.heap.size + 3) (X := [w.heap.size + 1 + 1]) (by kernel_rfl) ?_
  generalize W.drew = U at *
  refine wpAnyK_take 0 rfl (by kernel_rfl) (by kernel_rfl) (by kernel_rfl) (fun _ _ _ _ h => h) ⟨_, Or.inl ⟨by rfl, fun w' hb => by (go_simp; try with_reducible rfl)⟩, _, by (go_simp; try rfl), ?_⟩
  refine wpAnyK_take 1 rfl (by kernel_rfl) (by kernel_rfl) (by kernel_rfl) (fun _ _ _ _ h => h) ⟨_, Or.inl ⟨by rfl, fun w' hb => by (have h0 := hb.cellB (by simp) (by simp <;> omega) c0; go_simp; try with_reducible rfl)⟩, _, by (go_simp; try rfl), ?_⟩
  refine wpAnyK_take 2 rfl (by kernel_rfl) (by kernel_rfl) (by kernel_rfl) (fun _ _ _ _ h => h) ⟨_, Or.inl ⟨by rfl, fun w' hb => by (go_simp; try with_reducible rfl)⟩, _, by (go_simp; try rfl), ?_⟩
  refine wpAnyK_take 3 rfl (by kernel_rfl) (by kernel_rfl) (by kernel_rfl) (fun _ _ _ _ h => h) ⟨_, Or.inl ⟨by rfl, fun w' hb => by (have h0 := hb.cellB (by simp) (by simp <;> omega) d0; go_simp; try with_reducible rfl)⟩, _, by (go_simp; try rfl), ?_⟩
  refine wpAnyK_take 5 rfl (by kernel_rfl) (by kernel_rfl) (by kernel_rfl) (fun _ _ _ _ h => h) ⟨_, Or.inl ⟨by rfl, fun w' hb => by (go_simp; try with_reducible rfl)⟩, _, by (go_simp; try rfl), ?_⟩
  refine wpAnyK_take 6 rfl (by kernel_rfl) (by kernel_rfl) (by kernel_rfl) (fun _ _ _ _ h => h) ⟨_, Or.inl ⟨by rfl, fun w' hb => by (have h1 := hb.cellB (by simp) (by simp <;> omega) c1; go_simp; try with_reducible rfl)⟩, _, by (go_simp; try rfl), ?_⟩
  refine wpAnyK_take 7 rfl (by kernel_rfl) (by kernel_rfl) (by kernel_rfl) (fun _ _ _ _ h => h) ⟨_, Or.inl ⟨by rfl, fun w' hb => by (go_simp; try with_reducible rfl)⟩, _, by (go_simp; try rfl), ?_⟩
  refine wpAnyK_take 8 rfl (by kernel_rfl) (by kernel_rfl) (by kernel_rfl) (fun _ _ _ _ h => h) ⟨_, Or.inl ⟨by rfl, fun w' hb => by (have h1 := hb.cellB (by simp) (by simp <;> omega) d1; go_simp; try with_reducible rfl)⟩, _, by (go_simp; try rfl), ?_⟩
  refine wpAnyK_take 11 rfl (by kernel_rfl) (by kernel_rfl) (by kernel_rfl) (fun _ _ _ _ h => h) ⟨_, Or.inl ⟨by rfl, fun w' hb => by (go_simp; try with_reducible rfl)⟩, _, by (go_simp; try rfl), ?_⟩
  refine wpAnyK_take 12 rfl (by kernel_rfl) (by kernel_rfl) (by kernel_rfl) (fun _ _ _ _ h => h) ⟨_, Or.inl ⟨by rfl, fun w' hb => by (have h2 := hb.cellB (by simp) (by simp <;> omega) c2; go_simp; try with_reducible rfl)⟩, _, by (go_simp; try rfl), ?_⟩
  refine wpAnyK_take 13 rfl (by kernel_rfl) (by kernel_rfl) (by kernel_rfl) (fun _ _ _ _ h => h) ⟨_, Or.inl ⟨by rfl, fun w' hb => by (go_simp; try with_reducible rfl)⟩, _, by (go_simp; try rfl), ?_⟩
  refine wpAnyK_take 14 rfl (by kernel_rfl) (by kernel_rfl) (by kernel_rfl) (fun _ _ _ _ h => h) ⟨_, Or.inl ⟨by rfl, fun w' hb => by (have h2 := hb.cellB (by simp) (by simp <;> omega) d2; go_simp; try with_reducible rfl)⟩, _, by (go_simp; try rfl), ?_⟩
  refine wpAnyK_take 17 rfl (by kernel_rfl) (by kernel_rfl) (by kernel_rfl) (fun _ _ _ _ h => h) ⟨_, Or.inl ⟨by rfl, fun w' hb => by (go_simp; try with_reducible rfl)⟩, _, by (go_simp; try rfl), ?_⟩
  refine wpAnyK_take 18 rfl (by kernel_rfl) (by kernel_rfl) (by kernel_rfl) (fun _ _ _ _ h => h) ⟨_, Or.inl ⟨by rfl, fun w' hb => by (have h3 := hb.cellB (by simp) (by simp <;> omega) c3; go_simp; try with_reducible rfl)⟩, _, by (go_simp; try rfl), ?_⟩
  refine wpAnyK_take 19 rfl (by kernel_rfl) (by kernel_rfl) (by kernel_rfl) (fun _ _ _ _ h => h) ⟨_, Or.inl ⟨by rfl, fun w' hb => by (go_simp; try with_reducible rfl)⟩, _, by (go_simp; try rfl), ?_⟩
  refine wpAnyK_take 20 rfl (by kernel_rfl) (by kernel_rfl) (by kernel_rfl) (fun _ _ _ _ h => h) ⟨_, Or.inl ⟨by rfl, fun w' hb => by (have h3 := hb.cellB (by simp) (by simp <;> omega) d3; go_simp; try with_reducible rfl)⟩, _, by (go_simp; try rfl), ?_⟩
  refine wpAnyK_only 4 rfl (by kernel_rfl) (by rfl) (fun K hK => ?_)
  go_simp
  refine (h00.out _).mono ?_
  rintro e U ⟨rfl, rfl⟩
  go_wp2_with fail
  refine ⟨Kp.refl _ _ _, ?_⟩
  refine wpAnyK_only 9 rfl (by kernel_rfl) (by rfl) (fun K hK => ?_)
  go_simp
  refine (h11.out _).mono ?_
  rintro e U ⟨rfl, rfl⟩
  go_wp2_with fail
  refine ⟨Kp.refl _ _ _, ?_⟩
  refine wpAnyK_take 10 rfl (by kernel_rfl) (by kernel_rfl) (by kernel_rfl) (fun _ _ _ _ h => h) ⟨_, Or.inl ⟨by rfl, fun w' hb => by (go_simp; try with_reducible rfl)⟩, _, by (go_simp; try rfl), ?_⟩
  refine wpAnyK_only 15 rfl (by kernel_rfl) (by rfl) (fun K hK => ?_)
  go_simp
  refine (h22.out _).mono ?_
  rintro e U ⟨rfl, rfl⟩
  go_wp2_with fail
  refine ⟨Kp.refl _ _ _, ?_⟩
  refine wpAnyK_take 16 rfl (by kernel_rfl) (by kernel_rfl) (by kernel_rfl) (fun _ _ _ _ h => h) ⟨_, Or.inl ⟨by rfl, fun w' hb => by (go_simp; try with_reducible rfl)⟩, _, by (go_simp; try rfl), ?_⟩
  refine wpAnyK_only 21 rfl (by kernel_rfl) (by rfl) (fun K hK => ?_)
  go_simp
  refine (h33.out _).mono ?_
  rintro e U ⟨rfl, rfl⟩
  go_wp2_with fail
  refine ⟨Kp.refl _ _ _, ?_⟩
  refine wpAnyK_take 22 rfl (by kernel_rfl) (by kernel_rfl) (by kernel_rfl) (fun _ _ _ _ h => h) ⟨_, Or.inl ⟨by rfl, fun w' hb => by (go_simp; try with_reducible rfl)⟩, _, by (go_simp; try rfl), ?_⟩
  refine wpAnyK_take 23 rfl (by kernel_rfl) (by kernel_rfl) (by kernel_rfl) (fun _ _ _ _ h => h) ⟨_, Or.inl ⟨by rfl, fun w' hb => by (go_simp; try with_reducible rfl)⟩, _, by (go_simp; try rfl), ?_⟩
  refine wpAnyK_done (by kernel_rfl) ?_ _
  go_wp2_with fail
  have hst : After U U.drew := (Below.refl _ _).drew
  replace y0 := After.frozenB hst x0 y0
  replace y1 := After.frozenB hst x1 y1
  replace y2 := After.frozenB hst x2 y2
  replace y3 := After.frozenB hst x3 y3
  replace c0 := After.cellB hst c0
  replace c1 := After.cellB hst c1
  replace c2 := After.cellB hst c2
  replace c3 := After.cellB hst c3
  replace d0 := After.cellB hst d0
  replace d1 := After.cellB hst d1
  replace d2 := After.cellB hst d2
  replace d3 := After.cellB hst d3
  replace x0 := After.cellB hst x0
  replace x1 := After.cellB hst x1
  replace x2 := After.cellB hst x2
  replace x3 := After.cellB hst x3
  replace hB := bthen hB hst
  replace hN := Nat.le_trans hN (Below.size hst)
  clear hst
  refine wp_region_K (N := w.heap.size + 3) (X := [w.heap.size + 1 + 1]) (by kernel_rfl) ?_
  generalize U.drew = U at *
  refine wpAnyK_take 0 rfl (by kernel_rfl) (by kernel_rfl) (by kernel_rfl) (fun _ _ _ _ h => h) ⟨_, Or.inl ⟨by rfl, fun w' hb => by (go_simp; try with_reducible rfl)⟩, _, by (go_simp; try rfl), ?_⟩
  refine wpAnyK_take 1 rfl (by kernel_rfl) (by kernel_rfl) (by kernel_rfl) (fun _ _ _ _ h => h) ⟨_, Or.inl ⟨by rfl, fun w' hb => by (have h0 := hb.cellB (by simp) (by simp <;> omega) c0; go_simp; try with_reducible rfl)⟩, _, by (go_simp; try rfl), ?_⟩
  refine wpAnyK_take 2 rfl (by kernel_rfl) (by kernel_rfl) (by kernel_rfl) (fun _ _ _ _ h => h) ⟨_, Or.inl ⟨by rfl, fun w' hb => by (go_simp; try with_reducible rfl)⟩, _, by (go_simp; try rfl), ?_⟩
  refine wpAnyK_take 3 rfl (by kernel_rfl) (by kernel_rfl) (by kernel_rfl) (fun _ _ _ _ h => h) ⟨_, Or.inl ⟨by rfl, fun w' hb => by (have h1 := hb.cellB (by simp) (by simp <;> omega) d1; go_simp; try with_reducible rfl)⟩, _, by (go_simp; try rfl), ?_⟩
  refine wpAnyK_take 5 rfl (by kernel_rfl) (by kernel_rfl) (by kernel_rfl) (fun _ _ _ _ h => h) ⟨_, Or.inl ⟨by rfl, fun w' hb => by (go_simp; try with_reducible rfl)⟩, _, by (go_simp; try rfl), ?_⟩
  refine wpAnyK_take 6 rfl (by kernel_rfl) (by kernel_rfl) (by kernel_rfl) (fun _ _ _ _ h => h) ⟨_, Or.inl ⟨by rfl, fun w' hb => by (have h1 := hb.cellB (by simp) (by simp <;> omega) c1; go_simp; try with_reducible rfl)⟩, _, by (go_simp; try rfl), ?_⟩
  refine wpAnyK_take 7 rfl (by kernel_rfl) (by kernel_rfl) (by kernel_rfl) (fun _ _ _ _ h => h) ⟨_, Or.inl ⟨by rfl, fun w' hb => by (go_simp; try with_reducible rfl)⟩, _, by (go_simp; try rfl), ?_⟩
  refine wpAnyK_take 8 rfl (by kernel_rfl) (by kernel_rfl) (by kernel_rfl) (fun _ _ _ _ h => h) ⟨_, Or.inl ⟨by rfl, fun w' hb => by (have h0 := hb.cellB (by simp) (by simp <;> omega) d0; go_simp; try with_reducible rfl)⟩, _, by (go_simp; try rfl), ?_⟩
  refine wpAnyK_take 11 rfl (by kernel_rfl) (by kernel_rfl) (by kernel_rfl) (fun _ _ _ _ h => h) ⟨_, Or.inl ⟨by rfl, fun w' hb => by (go_simp; try with_reducible rfl)⟩, _, by (go_simp; try rfl), ?_⟩
  refine wpAnyK_take 12 rfl (by kernel_rfl) (by kernel_rfl) (by kernel_rfl) (fun _ _ _ _ h => h) ⟨_, Or.inl ⟨by rfl, fun w' hb => by (have h2 := hb.cellB (by simp) (by simp <;> omega) c2; go_simp; try with_reducible rfl)⟩, _, by (go_simp; try rfl), ?_⟩
  refine wpAnyK_take 13 rfl (by kernel_rfl) (by kernel_rfl) (by kernel_rfl) (fun _ _ _ _ h => h) ⟨_, Or.inl ⟨by rfl, fun w' hb => by (go_simp; try with_reducible rfl)⟩, _, by (go_simp; try rfl), ?_⟩
  refine wpAnyK_take 14 rfl (by kernel_rfl) (by kernel_rfl) (by kernel_rfl) (fun _ _ _ _ h => h) ⟨_, Or.inl ⟨by rfl, fun w' hb => by (have h3 := hb.cellB (by simp) (by simp <;> omega) d3; go_simp; try with_reducible rfl)⟩, _, by (go_simp; try rfl), ?_⟩
  refine wpAnyK_take 17 rfl (by kernel_rfl) (by kernel_rfl) (by kernel_rfl) (fun _ _ _ _ h => h) ⟨_, Or.inl ⟨by rfl, fun w' hb => by (go_simp; try with_reducible rfl)⟩, _, by (go_simp; try rfl), ?_⟩
  refine wpAnyK_take 18 rfl (by kernel_rfl) (by kernel_rfl) (by kernel_rfl) (fun _ _ _ _ h => h) ⟨_, Or.inl ⟨by rfl, fun w' hb => by (have h3 := hb.cellB (by simp) (by simp <;> omega) c3; go_simp; try with_reducible rfl)⟩, _, by (go_simp; try rfl), ?_⟩
  refine wpAnyK_take 19 rfl (by kernel_rfl) (by kernel_rfl) (by kernel_rfl) (fun _ _ _ _ h => h) ⟨_, Or.inl ⟨by rfl, fun w' hb => by (go_simp; try with_reducible rfl)⟩, _, by (go_simp; try rfl), ?_⟩
  refine wpAnyK_take 20 rfl (by kernel_rfl) (by kernel_rfl) (by kernel_rfl) (fun _ _ _ _ h => h) ⟨_, Or.inl ⟨by rfl, fun w' hb => by (have h2 := hb.cellB (by simp) (by simp <;> omega) d2; go_simp; try with_reducible rfl)⟩, _, by (go_simp; try rfl), ?_⟩
  refine wpAnyK_only 4 rfl (by kernel_rfl) (by rfl) (fun K hK => ?_)
  go_simp
  refine (h01.out _).mono ?_
  rintro e U ⟨rfl, rfl⟩
  go_wp2_with fail
  refine ⟨Kp.refl _ _ _, ?_⟩
  refine wpAnyK_only 9 rfl (by kernel_rfl) (by rfl) (fun K hK => ?_)
  go_simp
  refine (h10.out _).mono ?_
  rintro e U ⟨rfl, rfl⟩
  go_wp2_with fail
  refine ⟨Kp.refl _ _ _, ?_⟩
  refine wpAnyK_take 10 rfl (by kernel_rfl) (by kernel_rfl) (by kernel_rfl) (fun _ _ _ _ h => h) ⟨_, Or.inl ⟨by rfl, fun w' hb => by (go_simp; try with_reducible rfl)⟩, _, by (go_simp; try rfl), ?_⟩
  refine wpAnyK_only 15 rfl (by kernel_rfl) (by rfl) (fun K hK => ?_)
  go_simp
  refine (h23.out _).mono ?_
  rintro e U ⟨rfl, rfl⟩
  go_wp2_with fail
  refine ⟨Kp.refl _ _ _, ?_⟩
  refine wpAnyK_take 16 rfl (by kernel_rfl) (by kernel_rfl) (by kernel_rfl) (fun _ _ _ _ h => h) ⟨_, Or.inl ⟨by rfl, fun w' hb => by (go_simp; try with_reducible rfl)⟩, _, by (go_simp; try rfl), ?_⟩
  refine wpAnyK_only 21 rfl (by kernel_rfl) (by rfl) (fun K hK => ?_)
  go_simp
  refine (h32.out _).mono ?_
  rintro e U ⟨rfl, rfl⟩
  go_wp2_with fail
  refine ⟨Kp.refl _ _ _, ?_⟩
  refine wpAnyK_take 22 rfl (by kernel_rfl) (by kernel_rfl) (by kernel_rfl) (fun _ _ _ _ h => h) ⟨_, Or.inl ⟨by rfl, fun w' hb => by (go_simp; try with_reducible rfl)⟩, _, by (go_simp; try rfl), ?_⟩
  refine wpAnyK_take 23 rfl (by kernel_rfl) (by kernel_rfl) (by kernel_rfl) (fun _ _ _ _ h => h) ⟨_, Or.inl ⟨by rfl, fun w' hb => by (go_simp; try with_reducible rfl)⟩, _, by (go_simp; try rfl), ?_⟩
  refine wpAnyK_done (by kernel_rfl) ?_ _
  go_wp2_with fail
  have hst : After U U.drew := (Below.refl _ _).drew
  replace y0 := After.frozenB hst x0 y0
  replace y1 := After.frozenB hst x1 y1
  replace y2 := After.frozenB hst x2 y2
  replace y3 := After.frozenB hst x3 y3
  replace c0 := After.cellB hst c0
  replace c1 := After.cellB hst c1
  replace c2 := After.cellB hst c2
  replace c3 := After.cellB hst c3
  replace d0 := After.cellB hst d0
  replace d1 := After.cellB hst d1
  replace d2 := After.cellB hst d2
  replace d3 := After.cellB hst d3
  replace x0 := After.cellB hst x0
  replace x1 := After.cellB hst x1
  replace x2 := After.cellB hst x2
  replace x3 := After.cellB hst x3
  replace hB := bthen hB hst
  replace hN := Nat.le_trans hN (Below.size hst)
  clear hst
  refine wp_region_K (N := w.heap.size + 3) (X := [w.heap.size + 1 + 1]) (by kernel_rfl) ?_
  generalize U.drew = U at *
  refine wpAnyK_take 0 rfl (by kernel_rfl) (by kernel_rfl) (by kernel_rfl) (fun _ _ _ _ h => h) ⟨_, Or.inl ⟨by rfl, fun w' hb => by (go_simp; try with_reducible rfl)⟩, _, by (go_simp; try rfl), ?_⟩
  refine wpAnyK_take 1 rfl (by kernel_rfl) (by kernel_rfl) (by kernel_rfl) (fun _ _ _ _ h => h) ⟨_, Or.inl ⟨by rfl, fun w' hb => by (have h0 := hb.cellB (by simp) (by simp <;> omega) c0; go_simp; try with_reducible rfl)⟩, _, by (go_simp; try rfl), ?_⟩
  refine wpAnyK_take 2 rfl (by kernel_rfl) (by kernel_rfl) (by kernel_rfl) (fun _ _ _ _ h => h) ⟨_, Or.inl ⟨by rfl, fun w' hb => by (go_simp; try with_reducible rfl)⟩, _, by (go_simp; try rfl), ?_⟩
  refine wpAnyK_take 3 rfl (by kernel_rfl) (by kernel_rfl) (by kernel_rfl) (fun _ _ _ _ h => h) ⟨_, Or.inl ⟨by rfl, fun w' hb => by (have h2 := hb.cellB (by simp) (by simp <;> omega) d2; go_simp; try with_reducible rfl)⟩, _, by (go_simp; try rfl), ?_⟩
  refine wpAnyK_take 5 rfl (by kernel_rfl) (by kernel_rfl) (by kernel_rfl) (fun _ _ _ _ h => h) ⟨_, Or.inl ⟨by rfl, fun w' hb => by (go_simp; try with_reducible rfl)⟩, _, by (go_simp; try rfl), ?_⟩
  refine wpAnyK_take 6 rfl (by kernel_rfl) (by kernel_rfl) (by kernel_rfl) (fun _ _ _ _ h => h) ⟨_, Or.inl ⟨by rfl, fun w' hb => by (have h2 := hb.cellB (by simp) (by simp <;> omega) c2; go_simp; try with_reducible rfl)⟩, _, by (go_simp; try rfl), ?_⟩
  refine wpAnyK_take 7 rfl (by kernel_rfl) (by kernel_rfl) (by kernel_rfl) (fun _ _ _ _ h => h) ⟨_, Or.inl ⟨by rfl, fun w' hb => by (go_simp; try with_reducible rfl)⟩, _, by (go_simp; try rfl), ?_⟩
  refine wpAnyK_take 8 rfl (by kernel_rfl) (by kernel_rfl) (by kernel_rfl) (fun _ _ _ _ h => h) ⟨_, Or.inl ⟨by rfl, fun w' hb => by (have h0 := hb.cellB (by simp) (by simp <;> omega) d0; go_simp; try with_reducible rfl)⟩, _, by (go_simp; try rfl), ?_⟩
  refine wpAnyK_take 11 rfl (by kernel_rfl) (by kernel_rfl) (by kernel_rfl) (fun _ _ _ _ h => h) ⟨_, Or.inl ⟨by rfl, fun w' hb => by (go_simp; try with_reducible rfl)⟩, _, by (go_simp; try rfl), ?_⟩
  refine wpAnyK_take 12 rfl (by kernel_rfl) (by kernel_rfl) (by kernel_rfl) (fun _ _ _ _ h => h) ⟨_, Or.inl ⟨by rfl, fun w' hb => by (have h3 := hb.cellB (by simp) (by simp <;> omega) c3; go_simp; try with_reducible rfl)⟩, _, by (go_simp; try rfl), ?_⟩
  refine wpAnyK_take 13 rfl (by kernel_rfl) (by kernel_rfl) (by kernel_rfl) (fun _ _ _ _ h => h) ⟨_, Or.inl ⟨by rfl, fun w' hb => by (go_simp; try with_reducible rfl)⟩, _, by (go_simp; try rfl), ?_⟩
  refine wpAnyK_take 14 rfl (by kernel_rfl) (by kernel_rfl) (by kernel_rfl) (fun _ _ _ _ h => h) ⟨_, Or.inl ⟨by rfl, fun w' hb => by (have h1 := hb.cellB (by simp) (by simp <;> omega) d1; go_simp; try with_reducible rfl)⟩, _, by (go_simp; try rfl), ?_⟩
  refine wpAnyK_take 17 rfl (by kernel_rfl) (by kernel_rfl) (by kernel_rfl) (fun _ _ _ _ h => h) ⟨_, Or.inl ⟨by rfl, fun w' hb => by (go_simp; try with_reducible rfl)⟩, _, by (go_simp; try rfl), ?_⟩
  refine wpAnyK_take 18 rfl (by kernel_rfl) (by kernel_rfl) (by kernel_rfl) (fun _ _ _ _ h => h) ⟨_, Or.inl ⟨by rfl, fun w' hb => by (have h1 := hb.cellB (by simp) (by simp <;> omega) c1; go_simp; try with_reducible rfl)⟩, _, by (go_simp; try rfl), ?_⟩
  refine wpAnyK_take 19 rfl (by kernel_rfl) (by kernel_rfl) (by kernel_rfl) (fun _ _ _ _ h => h) ⟨_, Or.inl ⟨by rfl, fun w' hb => by (go_simp; try with_reducible rfl)⟩, _, by (go_simp; try rfl), ?_⟩
  refine wpAnyK_take 20 rfl (by kernel_rfl) (by kernel_rfl) (by kernel_rfl) (fun _ _ _ _ h => h) ⟨_, Or.inl ⟨by rfl, fun w' hb => by (have h3 := hb.cellB (by simp) (by simp <;> omega) d3; go_simp; try with_reducible rfl)⟩, _, by (go_simp; try rfl), ?_⟩
  refine wpAnyK_only 4 rfl (by kernel_rfl) (by rfl) (fun K hK => ?_)
  go_simp
  refine (h02.out _).mono ?_
  rintro e U ⟨rfl, rfl⟩
  go_wp2_with fail
  refine ⟨Kp.refl _ _ _, ?_⟩
  refine wpAnyK_only 9 rfl (by kernel_rfl) (by rfl) (fun K hK => ?_)
  go_simp
  refine (h20.out _).mono ?_
  rintro e U ⟨rfl, rfl⟩
  go_wp2_with fail
  refine ⟨Kp.refl _ _ _, ?_⟩
  refine wpAnyK_take 10 rfl (by kernel_rfl) (by kernel_rfl) (by kernel_rfl) (fun _ _ _ _ h => h) ⟨_, Or.inl ⟨by rfl, fun w' hb => by (go_simp; try with_reducible rfl)⟩, _, by (go_simp; try rfl), ?_⟩
  refine wpAnyK_only 15 rfl (by kernel_rfl) (by rfl) (fun K hK => ?_)
  go_simp
  refine (h31.out _).mono ?_
  rintro e U ⟨rfl, rfl⟩
  go_wp2_with fail
  refine ⟨Kp.refl _ _ _, ?_⟩
  refine wpAnyK_take 16 rfl (by kernel_rfl) (by kernel_rfl) (by kernel_rfl) (fun _ _ _ _ h => h) ⟨_, Or.inl ⟨by rfl, fun w' hb => by (go_simp; try with_reducible rfl)⟩, _, by (go_simp; try rfl), ?_⟩
  refine wpAnyK_only 21 rfl (by kernel_rfl) (by rfl) (fun K hK => ?_)
  go_simp
  refine (h13.out _).mono ?_
  rintro e U ⟨rfl, rfl⟩
  go_wp2_with fail
  refine ⟨Kp.refl _ _ _, ?_⟩
  refine wpAnyK_take 22 rfl (by kernel_rfl) (by kernel_rfl) (by kernel_rfl) (fun _ _ _ _ h => h) ⟨_, Or.inl ⟨by rfl, fun w' hb => by (go_simp; try with_reducible rfl)⟩, _, by (go_simp; try rfl), ?_⟩
  refine wpAnyK_take 23 rfl (by kernel_rfl) (by kernel_rfl) (by kernel_rfl) (fun _ _ _ _ h => h) ⟨_, Or.inl ⟨by rfl, fun w' hb => by (go_simp; try with_reducible rfl)⟩, _, by (go_simp; try rfl), ?_⟩
  refine wpAnyK_done (by kernel_rfl) ?_ _
  go_wp2_with fail
  have hst : After U U.drew := (Below.refl _ _).drew
  replace y0 := After.frozenB hst x0 y0
  replace y1 := After.frozenB hst x1 y1
  replace y2 := After.frozenB hst x2 y2
  replace y3 := After.frozenB hst x3 y3
  replace c0 := After.cellB hst c0
  replace c1 := After.cellB hst c1
  replace c2 := After.cellB hst c2
  replace c3 := After.cellB hst c3
  replace d0 := After.cellB hst d0
  replace d1 := After.cellB hst d1
  replace d2 := After.cellB hst d2
  replace d3 := After.cellB hst d3
  replace x0 := After.cellB hst x0
  replace x1 := After.cellB hst x1
  replace x2 := After.cellB hst x2
  replace x3 := After.cellB hst x3
  replace hB := bthen hB hst
  replace hN := Nat.le_trans hN (Below.size hst)
  clear hst
  refine wp_region_K (N := w.heap.size + 3) (X := [w.heap.size + 1 + 1]) (by kernel_rfl) ?_
  generalize U.drew = U at *
  refine wpAnyK_take 0 rfl (by kernel_rfl) (by kernel_rfl) (by kernel_rfl) (fun _ _ _ _ h => h) ⟨_, Or.inl ⟨by rfl, fun w' hb => by (go_simp; try with_reducible rfl)⟩, _, by (go_simp; try rfl), ?_⟩
  refine wpAnyK_take 1 rfl (by kernel_rfl) (by kernel_rfl) (by kernel_rfl) (fun _ _ _ _ h => h) ⟨_, Or.inl ⟨by rfl, fun w' hb => by (have h0 := hb.cellB (by simp) (by simp <;> omega) c0; go_simp; try with_reducible rfl)⟩, _, by (go_simp; try rfl), ?_⟩
  refine wpAnyK_take 2 rfl (by kernel_rfl) (by kernel_rfl) (by kernel_rfl) (fun _ _ _ _ h => h) ⟨_, Or.inl ⟨by rfl, fun w' hb => by (go_simp; try with_reducible rfl)⟩, _, by (go_simp; try rfl), ?_⟩
  refine wpAnyK_take 3 rfl (by kernel_rfl) (by kernel_rfl) (by kernel_rfl) (fun _ _ _ _ h => h) ⟨_, Or.inl ⟨by rfl, fun w' hb => by (have h3 := hb.cellB (by simp) (by simp <;> omega) d3; go_simp; try with_reducible rfl)⟩, _, by (go_simp; try rfl), ?_⟩
  refine wpAnyK_take 5 rfl (by kernel_rfl) (by kernel_rfl) (by kernel_rfl) (fun _ _ _ _ h => h) ⟨_, Or.inl ⟨by rfl, fun w' hb => by (go_simp; try with_reducible rfl)⟩, _, by (go_simp; try rfl), ?_⟩
  refine wpAnyK_take 6 rfl (by kernel_rfl) (by kernel_rfl) (by kernel_rfl) (fun _ _ _ _ h => h) ⟨_, Or.inl ⟨by rfl, fun w' hb => by (have h3 := hb.cellB (by simp) (by simp <;> omega) c3; go_simp; try with_reducible rfl)⟩, _, by (go_simp; try rfl), ?_⟩
  refine wpAnyK_take 7 rfl (by kernel_rfl) (by kernel_rfl) (by kernel_rfl) (fun _ _ _ _ h => h) ⟨_, Or.inl ⟨by rfl, fun w' hb => by (go_simp; try with_reducible rfl)⟩, _, by (go_simp; try rfl), ?_⟩
  refine wpAnyK_take 8 rfl (by kernel_rfl) (by kernel_rfl) (by kernel_rfl) (fun _ _ _ _ h => h) ⟨_, Or.inl ⟨by rfl, fun w' hb => by (have h0 := hb.cellB (by simp) (by simp <;> omega) d0; go_simp; try with_reducible rfl)⟩, _, by (go_simp; try rfl), ?_⟩
  refine wpAnyK_take 11 rfl (by kernel_rfl) (by kernel_rfl) (by kernel_rfl) (fun _ _ _ _ h => h) ⟨_, Or.inl ⟨by rfl, fun w' hb => by (go_simp; try with_reducible rfl)⟩, _, by (go_simp; try rfl), ?_⟩
  refine wpAnyK_take 12 rfl (by kernel_rfl) (by kernel_rfl) (by kernel_rfl) (fun _ _ _ _ h => h) ⟨_, Or.inl ⟨by rfl, fun w' hb => by (have h1 := hb.cellB (by simp) (by simp <;> omega) c1; go_simp; try with_reducible rfl)⟩, _, by (go_simp; try rfl), ?_⟩
  refine wpAnyK_take 13 rfl (by kernel_rfl) (by kernel_rfl) (by kernel_rfl) (fun _ _ _ _ h => h) ⟨_, Or.inl ⟨by rfl, fun w' hb => by (go_simp; try with_reducible rfl)⟩, _, by (go_simp; try rfl), ?_⟩
  refine wpAnyK_take 14 rfl (by kernel_rfl) (by kernel_rfl) (by kernel_rfl) (fun _ _ _ _ h => h) ⟨_, Or.inl ⟨by rfl, fun w' hb => by (have h2 := hb.cellB (by simp) (by simp <;> omega) d2; go_simp; try with_reducible rfl)⟩, _, by (go_simp; try rfl), ?_⟩
  refine wpAnyK_take 17 rfl (by kernel_rfl) (by kernel_rfl) (by kernel_rfl) (fun _ _ _ _ h => h) ⟨_, Or.inl ⟨by rfl, fun w' hb => by (go_simp; try with_reducible rfl)⟩, _, by (go_simp; try rfl), ?_⟩
  refine wpAnyK_take 18 rfl (by kernel_rfl) (by kernel_rfl) (by kernel_rfl) (fun _ _ _ _ h => h) ⟨_, Or.inl ⟨by rfl, fun w' hb => by (have h2 := hb.cellB (by simp) (by simp <;> omega) c2; go_simp; try with_reducible rfl)⟩, _, by (go_simp; try rfl), ?_⟩
  refine wpAnyK_take 19 rfl (by kernel_rfl) (by kernel_rfl) (by kernel_rfl) (fun _ _ _ _ h => h) ⟨_, Or.inl ⟨by rfl, fun w' hb => by (go_simp; try with_reducible rfl)⟩, _, by (go_simp; try rfl), ?_⟩
  refine wpAnyK_take 20 rfl (by kernel_rfl) (by kernel_rfl) (by kernel_rfl) (fun _ _ _ _ h => h) ⟨_, Or.inl ⟨by rfl, fun w' hb => by (have h1 := hb.cellB (by simp) (by simp <;> omega) d1; go_simp; try with_reducible rfl)⟩, _, by (go_simp; try rfl), ?_⟩
  refine wpAnyK_only 4 rfl (by kernel_rfl) (by rfl) (fun K hK => ?_)
  go_simp
  refine (h03.out _).mono ?_
  rintro e U ⟨rfl, rfl⟩
  go_wp2_with fail
  refine ⟨Kp.refl _ _ _, ?_⟩
  refine wpAnyK_only 9 rfl (by kernel_rfl) (by rfl) (fun K hK => ?_)
  go_simp
  refine (h30.out _).mono ?_
  rintro e U ⟨rfl, rfl⟩
  go_wp2_with fail
  refine ⟨Kp.refl _ _ _, ?_⟩
  refine wpAnyK_take 10 rfl (by kernel_rfl) (by kernel_rfl) (by kernel_rfl) (fun _ _ _ _ h => h) ⟨_, Or.inl ⟨by rfl, fun w' hb => by (go_simp; try with_reducible rfl)⟩, _, by (go_simp; try rfl), ?_⟩
  refine wpAnyK_only 15 rfl (by kernel_rfl) (by rfl) (fun K hK => ?_)
  go_simp
  refine (h12.out _).mono ?_
  rintro e U ⟨rfl, rfl⟩
  go_wp2_with fail
  refine ⟨Kp.refl _ _ _, ?_⟩
  refine wpAnyK_take 16 rfl (by kernel_rfl) (by kernel_rfl) (by kernel_rfl) (fun _ _ _ _ h => h) ⟨_, Or.inl ⟨by rfl, fun w' hb => by (go_simp; try with_reducible rfl)⟩, _, by (go_simp; try rfl), ?_⟩
  refine wpAnyK_only 21 rfl (by kernel_rfl) (by rfl) (fun K hK => ?_)
  go_simp
  refine (h21.out _).mono ?_
  rintro e U ⟨rfl, rfl⟩
  go_wp2_with fail
  refine ⟨Kp.refl _ _ _, ?_⟩
  refine wpAnyK_take 22 rfl (by kernel_rfl) (by kernel_rfl) (by kernel_rfl) (fun _ _ _ _ h => h) ⟨_, Or.inl ⟨by rfl, fun w' hb => by (go_simp; try with_reducible rfl)⟩, _, by (go_simp; try rfl), ?_⟩
  refine wpAnyK_take 23 rfl (by kernel_rfl) (by kernel_rfl) (by kernel_rfl) (fun _ _ _ _ h => h) ⟨_, Or.inl ⟨by rfl, fun w' hb => by (go_simp; try with_reducible rfl)⟩, _, by (go_simp; try rfl), ?_⟩
  refine wpAnyK_done (by kernel_rfl) ?_ _
  go_wp2_with fail
  refine (hC.out _).mono ?_
  rintro e v1 ⟨rfl, hst⟩
  replace y0 := After.frozenB hst x0 y0
  replace y1 := After.frozenB hst x1 y1
  replace y2 := After.frozenB hst x2 y2
  replace y3 := After.frozenB hst x3 y3
  replace x0 := After.cellB hst x0
  replace x1 := After.cellB hst x1
  replace x2 := After.cellB hst x2
  replace x3 := After.cellB hst x3
  replace hB := bthen hB hst
  clear hst c0 c1 c2 c3 d0 d1 d2 d3 hN
  rw [hV2.out]
  have hst := aalloc v1 (.cells #[.int .i32 s0, .int .i32 s1, .int .i32 s2, .int .i32 s3] 23)
  replace y0 := After.frozenB hst x0 y0
  replace y1 := After.frozenB hst x1 y1
  replace y2 := After.frozenB hst x2 y2
  replace y3 := After.frozenB hst x3 y3
  replace x0 := After.cellB hst x0
  replace x1 := After.cellB hst x1
  replace x2 := After.cellB hst x2
  replace x3 := After.cellB hst x3
  replace hB := bthen hB hst
  clear hst
  go_wp2_with fail
  refine bodyPost_ret (v := .tuple #[.agg #[.int .i32 s0, .int .i32 s1, .int .i32 s2, .int .i32 s3], .int .i64 cn]) (by simp [results, Tryz.results63, go_sem, x0, x1, x2, x3]) rfl ⟨by rw [hV2.out], ?_⟩
  exact below4 hB _ _ _ _ _ (by omega)

end Go.Proofs.YtpdpcdifnlellaaGreat
