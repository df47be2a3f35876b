/- The laws VecOps, VecDots, VecUnit, VecTurned, walked: they return true. -/
import Derived.Test.YticjpdojiiepeaaVec9
namespace Go.Proofs.Yticjpdojiiepeaa
open Go.ChangeShapes Go.WideShapes Go.ChangeAt Go.RowKit
set_option linter.unusedVariables false

theorem b32_of {n : Int} (h : (Lit.int .i32 n).wf = true) : B32 n := by have := bounds_i32 h; unfold B32; omega
theorem cut3_form (n : Nat → Int) : ∃ (s0 s1 s2 : Int) (c : Nat), cut3 n = .tuple #[.agg #[.int .i32 s0, .int .i32 s1, .int .i32 s2], .int .i64 c] := ⟨_, _, _, _, rfl⟩

theorem clamp_form (n : Int) : ∃ (s : Int) (b : Bool), clampV n = .tuple #[.int .i32 s, .bool b] := ⟨_, _, rfl⟩
theorem unit_form (x y z : Int) : ∃ (s0 s1 s2 : Int) (b : Bool), unitT x y z = .tuple #[.agg #[.int .i32 s0, .int .i32 s1, .int .i32 s2], .bool b] := by
  unfold unitT; split
  · exact ⟨_, _, _, _, rfl⟩
  · exact ⟨_, _, _, _, rfl⟩
theorem clampS_b (n : Int) : B32 (clampS n) := by unfold clampS B32; split <;> (try split) <;> omega
theorem clamp_in {n : Int} (h : clampB n = false) : clampS n = n ∧ B32 n := by
  unfold clampB at h
  simp at h
  unfold clampS B32
  rw [if_neg (by omega), if_neg (by omega)]
  omega
theorem clampB_no {n : Int} (h : B32 n) : clampB n = false := by unfold B32 at h; unfold clampB; simp; omega
theorem cuts_none {n : Nat → Int} (h : cuts n 3 = 0) : clampB (n 0) = false ∧ clampB (n 1) = false ∧ clampB (n 2) = false := by
  simp only [cuts] at h
  cases h0 : clampB (n 0) <;> cases h1 : clampB (n 1) <;> cases h2 : clampB (n 2) <;> simp [h0, h1, h2] at h ⊢
theorem cut3_in {n : Nat → Int} (h0 : B32 (n 0)) (h1 : B32 (n 1)) (h2 : B32 (n 2)) : cut3 n = .tuple #[.agg #[.int .i32 (n 0), .int .i32 (n 1), .int .i32 (n 2)], .int .i64 (0 : Nat)] := by
  have e0 := clampB_no h0
  have e1 := clampB_no h1
  have e2 := clampB_no h2
  unfold cut3
  rw [(clamp_in e0).1, (clamp_in e1).1, (clamp_in e2).1]
  simp [cuts, e0, e1, e2]
theorem dot_comm (x y z a b c : Int) : dotN a b c x y z = dotN x y z a b c := by unfold dotN; rw [Int.mul_comm a, Int.mul_comm b, Int.mul_comm c]
theorem cross_anti (x y z a b c : Int) (i : Nat) : crossN a b c x y z i = -crossN x y z a b c i := by
  unfold crossN
  rw [Int.mul_comm (sel ((i + 1) % 3) a b c), Int.mul_comm (sel ((i + 2) % 3) a b c)]; omega
/-- The products of two vectors, and the other way round. -/
theorem cross_cases (x y z a b c : Int) : (∃ v0 v1 v2 : Int, cut3 (crossN x y z a b c) = .tuple #[.agg #[.int .i32 (-v0), .int .i32 (-v1), .int .i32 (-v2)], .int .i64 (0 : Nat)] ∧ cut3 (crossN a b c x y z) = .tuple #[.agg #[.int .i32 v0, .int .i32 v1, .int .i32 v2], .int .i64 (0 : Nat)] ∧ (-2147483647 ≤ v0 ∧ v0 ≤ 2147483647) ∧ (-2147483647 ≤ v1 ∧ v1 ≤ 2147483647) ∧ (-2147483647 ≤ v2 ∧ v2 ≤ 2147483647)) ∨
    ∃ (u0 u1 u2 v0 v1 v2 : Int) (m n : Nat), cut3 (crossN x y z a b c) = .tuple #[.agg #[.int .i32 u0, .int .i32 u1, .int .i32 u2], .int .i64 m] ∧ cut3 (crossN a b c x y z) = .tuple #[.agg #[.int .i32 v0, .int .i32 v1, .int .i32 v2], .int .i64 n] ∧ 0 < m + n ∧ m ≤ 3 ∧ n ≤ 3 := by
  by_cases h : cuts (crossN x y z a b c) 3 + cuts (crossN a b c x y z) 3 = 0
  · left
    obtain ⟨a0, a1, a2⟩ := cuts_none (show cuts (crossN x y z a b c) 3 = 0 by omega)
    obtain ⟨b0, b1, b2⟩ := cuts_none (show cuts (crossN a b c x y z) 3 = 0 by omega)
    have k0 := cross_anti x y z a b c 0
    have k1 := cross_anti x y z a b c 1
    have k2 := cross_anti x y z a b c 2
    have l0 := (clamp_in a0).2
    have l1 := (clamp_in a1).2
    have l2 := (clamp_in a2).2
    have m0 := (clamp_in b0).2
    have m1 := (clamp_in b1).2
    have m2 := (clamp_in b2).2
    refine ⟨_, _, _, ?_, cut3_in m0 m1 m2, ?_, ?_, ?_⟩
    · rw [cut3_in l0 l1 l2, k0, k1, k2, Int.neg_neg, Int.neg_neg, Int.neg_neg]
    all_goals unfold B32 at *; omega
  · right
    refine ⟨_, _, _, _, _, _, _, _, rfl, rfl, by omega, cuts_le _ 3, cuts_le _ 3⟩
/-- A sum, less one of both. -/
theorem back_cases (x y z a b c : Int) (p0 : B32 x) (p1 : B32 y) (p2 : B32 z) : (cut3 (fun i => sel i x y z + sel i a b c) = .tuple #[.agg #[.int .i32 (x + a), .int .i32 (y + b), .int .i32 (z + c)], .int .i64 (0 : Nat)] ∧ B32 (x + a) ∧ B32 (y + b) ∧ B32 (z + c) ∧ cut3 (fun i => sel i (x + a) (y + b) (z + c) - sel i a b c) = .tuple #[.agg #[.int .i32 x, .int .i32 y, .int .i32 z], .int .i64 (0 : Nat)]) ∨
    ∃ (u0 u1 u2 v0 v1 v2 : Int) (m n : Nat), cut3 (fun i => sel i x y z + sel i a b c) = .tuple #[.agg #[.int .i32 u0, .int .i32 u1, .int .i32 u2], .int .i64 m] ∧ 0 < m ∧ m ≤ 3 ∧ B32 u0 ∧ B32 u1 ∧ B32 u2 ∧ cut3 (fun i => sel i u0 u1 u2 - sel i a b c) = .tuple #[.agg #[.int .i32 v0, .int .i32 v1, .int .i32 v2], .int .i64 n] := by
  by_cases h : cuts (fun i => sel i x y z + sel i a b c) 3 = 0
  · left
    obtain ⟨a0, a1, a2⟩ := cuts_none h
    have m0 : B32 (x + a) := (clamp_in a0).2
    have m1 : B32 (y + b) := (clamp_in a1).2
    have m2 : B32 (z + c) := (clamp_in a2).2
    refine ⟨cut3_in m0 m1 m2, m0, m1, m2, ?_⟩
    have hn : (fun i => sel i (x + a) (y + b) (z + c) - sel i a b c) = fun i => sel i x y z := by
      funext i
      unfold sel; split
      · omega
      · split <;> omega
    rw [hn]
    exact cut3_in p0 p1 p2
  · right
    exact ⟨_, _, _, _, _, _, _, _, rfl, by omega, cuts_le _ 3, clampS_b _, clampS_b _, clampS_b _, rfl⟩
theorem cross_one : cut3 (crossN 65536 0 0 0 65536 0) = .tuple #[.agg #[.int .i32 0, .int .i32 0, .int .i32 65536], .int .i64 0] := by
  have e0 : clampS (crossN 65536 0 0 0 65536 0 0) = 0 := by decide +kernel
  have e1 : clampS (crossN 65536 0 0 0 65536 0 1) = 0 := by decide +kernel
  have e2 : clampS (crossN 65536 0 0 0 65536 0 2) = 65536 := by decide +kernel
  have e3 : cuts (crossN 65536 0 0 0 65536 0) 3 = 0 := by decide +kernel
  unfold cut3
  rw [e0, e1, e2, e3]; rfl
theorem unit_one : unitT 0 0 5 = .tuple #[.agg #[.int .i32 0, .int .i32 0, .int .i32 1073741824], .bool true] := by
  have hd : dbl 33 0 0 5 = (0, 0, 1342177280) := by decide +kernel
  have e1 : unitN (lengthS [0, 0, 1342177280] : Nat) 0 = 0 := by decide +kernel
  have e2 : unitN (lengthS [0, 0, 1342177280] : Nat) 1342177280 = 1073741824 := by decide +kernel
  rw [unit_yes (by decide) hd, e1, e2]

set_option maxRecDepth 100000 in
set_option maxHeartbeats 2000000 in
theorem knows09_any (w : World) :
    Calls Try.prog 13 #[] w fun e w' => e = .returned (.bool true) ∧ Below w.heap.size w w' := by
  go_enter Try.func13, Try.ntmps13
  go_wp2_with fail
  refine (vcross_any 65536 0 0 0 65536 0 _ (by unfold B32; omega) (by unfold B32; omega) (by unfold B32; omega) (by unfold B32; omega) (by unfold B32; omega) (by unfold B32; omega)).mono ?_
  rintro e v1 ⟨rfl, hst⟩
  rw [cross_one]
  have hB := hst
  clear hst
  have r1 : Row .i32 23 (v1.alloc (.cells #[.int .i32 0, .int .i32 0, .int .i32 65536] 23)) v1.heap.size [0, 0, 65536] := heap_new _ _ _ rfl
  replace hB := bthen hB (aalloc v1 (.cells #[.int .i32 0, .int .i32 0, .int .i32 65536] 23))
  go_wp2_with fail
  refine (vunit_any 0 0 5 _ (by unfold B32; omega) (by unfold B32; omega) (by unfold B32; omega)).mono ?_
  rintro e v2 ⟨rfl, hst⟩
  rw [unit_one]
  replace r1 := r1.below (bthen hst (aalloc v2 (.cells #[.int .i32 0, .int .i32 0, .int .i32 1073741824] 23)))
  replace hB := bthen hB (bthen hst (aalloc v2 (.cells #[.int .i32 0, .int .i32 0, .int .i32 1073741824] 23)))
  obtain ⟨c0, c1, c2, -, -, -⟩ := r1.three
  clear hst r1
  go_wp2_with fail
  go_ret
  exact ⟨rfl, hB⟩

set_option maxRecDepth 100000 in
set_option maxHeartbeats 4000000 in
theorem law_VecOps (a0_0 a0_1 a0_2 : Int) (a1_0 a1_1 a1_2 : Int) (a2 : Int) (W : World) (w0_0 : (Lit.int .i32 a0_0).wf = true) (w0_1 : (Lit.int .i32 a0_1).wf = true) (w0_2 : (Lit.int .i32 a0_2).wf = true) (w1_0 : (Lit.int .i32 a1_0).wf = true) (w1_1 : (Lit.int .i32 a1_1).wf = true) (w1_2 : (Lit.int .i32 a1_2).wf = true) (w2 : (Lit.int .i32 a2).wf = true) :
    Calls Try.prog 3 #[.agg #[.int .i32 a0_0, .int .i32 a0_1, .int .i32 a0_2], .agg #[.int .i32 a1_0, .int .i32 a1_1, .int .i32 a1_2], .int .i32 a2] W fun e w' => e = .returned (.bool true) ∧ Below W.heap.size W w' := by
  obtain ⟨w, hW, hB, hN, ra, rb⟩ := rows2 W 23 23 a0_0 a0_1 a0_2 a1_0 a1_1 a1_2
  have k1 := hid (fun (v : World) => vadd_any a0_0 a0_1 a0_2 a1_0 a1_1 a1_2 v (b32_of w0_0) (b32_of w0_1) (b32_of w0_2) (b32_of w1_0) (b32_of w1_1) (b32_of w1_2))
  have k2 := hid (fun (v : World) => radd3_any a0_0 a0_1 a0_2 a1_0 a1_1 a1_2 v (b32_of w0_0) (b32_of w0_1) (b32_of w0_2) (b32_of w1_0) (b32_of w1_1) (b32_of w1_2))
  have k3 := hid (fun (v : World) => vsub_any a0_0 a0_1 a0_2 a1_0 a1_1 a1_2 v (b32_of w0_0) (b32_of w0_1) (b32_of w0_2) (b32_of w1_0) (b32_of w1_1) (b32_of w1_2))
  have k4 := hid (fun (v : World) => rsub3_any a0_0 a0_1 a0_2 a1_0 a1_1 a1_2 v (b32_of w0_0) (b32_of w0_1) (b32_of w0_2) (b32_of w1_0) (b32_of w1_1) (b32_of w1_2))
  have k5 := hid (fun (v : World) => vscale_any a0_0 a0_1 a0_2 a2 v (b32_of w0_0) (b32_of w0_1) (b32_of w0_2) (b32_of w2))
  have k6 := hid (fun (v : World) => rscale_any a0_0 a0_1 a0_2 a2 v (b32_of w0_0) (b32_of w0_1) (b32_of w0_2) (b32_of w2))
  obtain ⟨s10, s11, s12, n1, hV1⟩ := cut3_form (fun i => sel i a0_0 a0_1 a0_2 + sel i a1_0 a1_1 a1_2)
  replace hV1 := hid hV1
  obtain ⟨s20, s21, s22, n2, hV2⟩ := cut3_form (fun i => sel i a0_0 a0_1 a0_2 - sel i a1_0 a1_1 a1_2)
  replace hV2 := hid hV2
  obtain ⟨s30, s31, s32, n3, hV3⟩ := cut3_form (fun i => roundS (sel i a0_0 a0_1 a0_2 * a2) 16)
  replace hV3 := hid hV3
  clear w0_0 w0_1 w0_2 w1_0 w1_1 w1_2 w2
  go_enter Try.func3, Try.ntmps3
  obtain ⟨ra0, ra1, ra2, raf0, raf1, raf2⟩ := ra.three
  obtain ⟨rb0, rb1, rb2, rbf0, rbf1, rbf2⟩ := rb.three
  replace ra := hid ra
  replace rb := hid rb
  go_wp2_with fail
  refine (k1.out _).mono ?_
  rintro e v1 ⟨rfl, hst⟩
  rw [hV1.out]
  replace ra := ra.out
  replace rb := rb.out
  clear ra0 raf0 ra1 raf1 ra2 raf2 rb0 rbf0 rb1 rbf1 rb2 rbf2
  clear hW
  replace ra := Row.below ra hst
  replace rb := Row.below rb hst
  replace hB := bthen hB hst
  clear hst
  have hst := aalloc v1 (.cells #[.int .i32 s10, .int .i32 s11, .int .i32 s12] 23)
  have rc : Row .i32 23 (v1.alloc (.cells #[.int .i32 s10, .int .i32 s11, .int .i32 s12] 23)) v1.heap.size [s10, s11, s12] := heap_new _ _ _ rfl
  have lt_ra_rc := Row.lt ra
  have lt_rb_rc := Row.lt rb
  replace ra := Row.below ra hst
  replace rb := Row.below rb hst
  replace hB := bthen hB hst
  clear hst
  obtain ⟨u2, hu2⟩ : ∃ v, v1.alloc (.cells #[.int .i32 s10, .int .i32 s11, .int .i32 s12] 23) = v := ⟨_, rfl⟩
  rw [hu2] at ra rb rc hB
  obtain ⟨b_rc, hb_rc⟩ : ∃ b, v1.heap.size = b := ⟨_, rfl⟩
  rw [hb_rc] at rc lt_ra_rc lt_rb_rc
  obtain ⟨ra0, ra1, ra2, raf0, raf1, raf2⟩ := ra.three
  obtain ⟨rb0, rb1, rb2, rbf0, rbf1, rbf2⟩ := rb.three
  obtain ⟨rc0, rc1, rc2, rcf0, rcf1, rcf2⟩ := rc.three
  replace ra := hid ra
  replace rb := hid rb
  replace rc := hid rc
  go_wp2_with fail
  refine (k2.out _).mono ?_
  rintro e v3 ⟨rfl, hst⟩
  rw [hV1.out]
  replace ra := ra.out
  replace rb := rb.out
  replace rc := rc.out
  clear ra0 raf0 ra1 raf1 ra2 raf2 rb0 rbf0 rb1 rbf1 rb2 rbf2 rc0 rcf0 rc1 rcf1 rc2 rcf2
  clear hu2 hb_rc
  replace ra := Row.below ra hst
  replace rb := Row.below rb hst
  replace rc := Row.below rc hst
  replace hB := bthen hB hst
  clear hst
  have hst := aalloc v3 (.cells #[.int .i32 s10, .int .i32 s11, .int .i32 s12] 23)
  have rd : Row .i32 23 (v3.alloc (.cells #[.int .i32 s10, .int .i32 s11, .int .i32 s12] 23)) v3.heap.size [s10, s11, s12] := heap_new _ _ _ rfl
  have lt_ra_rd := Row.lt ra
  have lt_rb_rd := Row.lt rb
  have lt_rc_rd := Row.lt rc
  replace ra := Row.below ra hst
  replace rb := Row.below rb hst
  replace rc := Row.below rc hst
  replace hB := bthen hB hst
  clear hst
  obtain ⟨u4, hu4⟩ : ∃ v, v3.alloc (.cells #[.int .i32 s10, .int .i32 s11, .int .i32 s12] 23) = v := ⟨_, rfl⟩
  rw [hu4] at ra rb rc rd hB
  obtain ⟨b_rd, hb_rd⟩ : ∃ b, v3.heap.size = b := ⟨_, rfl⟩
  rw [hb_rd] at rd lt_ra_rd lt_rb_rd lt_rc_rd
  obtain ⟨ra0, ra1, ra2, raf0, raf1, raf2⟩ := ra.three
  obtain ⟨rb0, rb1, rb2, rbf0, rbf1, rbf2⟩ := rb.three
  obtain ⟨rc0, rc1, rc2, rcf0, rcf1, rcf2⟩ := rc.three
  obtain ⟨rd0, rd1, rd2, rdf0, rdf1, rdf2⟩ := rd.three
  replace ra := hid ra
  replace rb := hid rb
  replace rc := hid rc
  replace rd := hid rd
  go_wp2_with fail
  refine (k3.out _).mono ?_
  rintro e v5 ⟨rfl, hst⟩
  rw [hV2.out]
  replace ra := ra.out
  replace rb := rb.out
  replace rc := rc.out
  replace rd := rd.out
  clear ra0 raf0 ra1 raf1 ra2 raf2 rb0 rbf0 rb1 rbf1 rb2 rbf2 rc0 rcf0 rc1 rcf1 rc2 rcf2 rd0 rdf0 rd1 rdf1 rd2 rdf2
  clear hu4 hb_rd
  replace ra := Row.below ra hst
  replace rb := Row.below rb hst
  replace rc := Row.below rc hst
  replace rd := Row.below rd hst
  replace hB := bthen hB hst
  clear hst
  have rold := rc
  replace ra := Row.oth3 (g' := b_rc) ra (by omega) (.int .i32 s20) (.int .i32 s21) (.int .i32 s22)
  replace rb := Row.oth3 (g' := b_rc) rb (by omega) (.int .i32 s20) (.int .i32 s21) (.int .i32 s22)
  replace rc := Row.set3 rc s20 s21 s22
  replace rd := Row.oth3 (g' := b_rc) rd (by omega) (.int .i32 s20) (.int .i32 s21) (.int .i32 s22)
  replace hB := below3 hB b_rc (.int .i32 s20) (.int .i32 s21) (.int .i32 s22) (by omega)
  obtain ⟨u6, hu6⟩ : ∃ v, ((v5.setCell ⟨b_rc, 0, none⟩ (.int .i32 s20)).setCell ⟨b_rc, 1, none⟩ (.int .i32 s21)).setCell ⟨b_rc, 2, none⟩ (.int .i32 s22) = v := ⟨_, rfl⟩
  rw [hu6] at ra rb rc rd hB
  obtain ⟨ra0, ra1, ra2, raf0, raf1, raf2⟩ := ra.three
  obtain ⟨rb0, rb1, rb2, rbf0, rbf1, rbf2⟩ := rb.three
  obtain ⟨rc0, rc1, rc2, rcf0, rcf1, rcf2⟩ := rc.three
  obtain ⟨rd0, rd1, rd2, rdf0, rdf1, rdf2⟩ := rd.three
  replace ra := hid ra
  replace rb := hid rb
  replace rc := hid rc
  replace rd := hid rd
  obtain ⟨o0, o1, o2, of0, of1, of2⟩ := rold.three
  replace rold := hid rold
  go_wp2_with fail
  refine (k4.out _).mono ?_
  rintro e v7 ⟨rfl, hst⟩
  rw [hV2.out]
  replace ra := ra.out
  replace rb := rb.out
  replace rc := rc.out
  replace rd := rd.out
  clear ra0 raf0 ra1 raf1 ra2 raf2 rb0 rbf0 rb1 rbf1 rb2 rbf2 rc0 rcf0 rc1 rcf1 rc2 rcf2 rd0 rdf0 rd1 rdf1 rd2 rdf2
  clear rold o0 o1 o2 of0 of1 of2
  clear hu6
  replace ra := Row.below ra hst
  replace rb := Row.below rb hst
  replace rc := Row.below rc hst
  replace rd := Row.below rd hst
  replace hB := bthen hB hst
  clear hst
  have rold := rd
  replace ra := Row.oth3 (g' := b_rd) ra (by omega) (.int .i32 s20) (.int .i32 s21) (.int .i32 s22)
  replace rb := Row.oth3 (g' := b_rd) rb (by omega) (.int .i32 s20) (.int .i32 s21) (.int .i32 s22)
  replace rc := Row.oth3 (g' := b_rd) rc (by omega) (.int .i32 s20) (.int .i32 s21) (.int .i32 s22)
  replace rd := Row.set3 rd s20 s21 s22
  replace hB := below3 hB b_rd (.int .i32 s20) (.int .i32 s21) (.int .i32 s22) (by omega)
  obtain ⟨u8, hu8⟩ : ∃ v, ((v7.setCell ⟨b_rd, 0, none⟩ (.int .i32 s20)).setCell ⟨b_rd, 1, none⟩ (.int .i32 s21)).setCell ⟨b_rd, 2, none⟩ (.int .i32 s22) = v := ⟨_, rfl⟩
  rw [hu8] at ra rb rc rd hB
  obtain ⟨ra0, ra1, ra2, raf0, raf1, raf2⟩ := ra.three
  obtain ⟨rb0, rb1, rb2, rbf0, rbf1, rbf2⟩ := rb.three
  obtain ⟨rc0, rc1, rc2, rcf0, rcf1, rcf2⟩ := rc.three
  obtain ⟨rd0, rd1, rd2, rdf0, rdf1, rdf2⟩ := rd.three
  replace ra := hid ra
  replace rb := hid rb
  replace rc := hid rc
  replace rd := hid rd
  obtain ⟨o0, o1, o2, of0, of1, of2⟩ := rold.three
  replace rold := hid rold
  go_wp2_with fail
  refine (k5.out _).mono ?_
  rintro e v9 ⟨rfl, hst⟩
  rw [hV3.out]
  replace ra := ra.out
  replace rb := rb.out
  replace rc := rc.out
  replace rd := rd.out
  clear ra0 raf0 ra1 raf1 ra2 raf2 rb0 rbf0 rb1 rbf1 rb2 rbf2 rc0 rcf0 rc1 rcf1 rc2 rcf2 rd0 rdf0 rd1 rdf1 rd2 rdf2
  clear rold o0 o1 o2 of0 of1 of2
  clear hu8
  replace ra := Row.below ra hst
  replace rb := Row.below rb hst
  replace rc := Row.below rc hst
  replace rd := Row.below rd hst
  replace hB := bthen hB hst
  clear hst
  have rold := rc
  replace ra := Row.oth3 (g' := b_rc) ra (by omega) (.int .i32 s30) (.int .i32 s31) (.int .i32 s32)
  replace rb := Row.oth3 (g' := b_rc) rb (by omega) (.int .i32 s30) (.int .i32 s31) (.int .i32 s32)
  replace rc := Row.set3 rc s30 s31 s32
  replace rd := Row.oth3 (g' := b_rc) rd (by omega) (.int .i32 s30) (.int .i32 s31) (.int .i32 s32)
  replace hB := below3 hB b_rc (.int .i32 s30) (.int .i32 s31) (.int .i32 s32) (by omega)
  obtain ⟨u10, hu10⟩ : ∃ v, ((v9.setCell ⟨b_rc, 0, none⟩ (.int .i32 s30)).setCell ⟨b_rc, 1, none⟩ (.int .i32 s31)).setCell ⟨b_rc, 2, none⟩ (.int .i32 s32) = v := ⟨_, rfl⟩
  rw [hu10] at ra rb rc rd hB
  obtain ⟨ra0, ra1, ra2, raf0, raf1, raf2⟩ := ra.three
  obtain ⟨rb0, rb1, rb2, rbf0, rbf1, rbf2⟩ := rb.three
  obtain ⟨rc0, rc1, rc2, rcf0, rcf1, rcf2⟩ := rc.three
  obtain ⟨rd0, rd1, rd2, rdf0, rdf1, rdf2⟩ := rd.three
  replace ra := hid ra
  replace rb := hid rb
  replace rc := hid rc
  replace rd := hid rd
  obtain ⟨o0, o1, o2, of0, of1, of2⟩ := rold.three
  replace rold := hid rold
  go_wp2_with fail
  refine (k6.out _).mono ?_
  rintro e v11 ⟨rfl, hst⟩
  rw [hV3.out]
  replace ra := ra.out
  replace rb := rb.out
  replace rc := rc.out
  replace rd := rd.out
  clear ra0 raf0 ra1 raf1 ra2 raf2 rb0 rbf0 rb1 rbf1 rb2 rbf2 rc0 rcf0 rc1 rcf1 rc2 rcf2 rd0 rdf0 rd1 rdf1 rd2 rdf2
  clear rold o0 o1 o2 of0 of1 of2
  clear hu10
  replace ra := Row.below ra hst
  replace rb := Row.below rb hst
  replace rc := Row.below rc hst
  replace rd := Row.below rd hst
  replace hB := bthen hB hst
  clear hst
  have rold := rd
  replace ra := Row.oth3 (g' := b_rd) ra (by omega) (.int .i32 s30) (.int .i32 s31) (.int .i32 s32)
  replace rb := Row.oth3 (g' := b_rd) rb (by omega) (.int .i32 s30) (.int .i32 s31) (.int .i32 s32)
  replace rc := Row.oth3 (g' := b_rd) rc (by omega) (.int .i32 s30) (.int .i32 s31) (.int .i32 s32)
  replace rd := Row.set3 rd s30 s31 s32
  replace hB := below3 hB b_rd (.int .i32 s30) (.int .i32 s31) (.int .i32 s32) (by omega)
  obtain ⟨u12, hu12⟩ : ∃ v, ((v11.setCell ⟨b_rd, 0, none⟩ (.int .i32 s30)).setCell ⟨b_rd, 1, none⟩ (.int .i32 s31)).setCell ⟨b_rd, 2, none⟩ (.int .i32 s32) = v := ⟨_, rfl⟩
  rw [hu12] at ra rb rc rd hB
  obtain ⟨ra0, ra1, ra2, raf0, raf1, raf2⟩ := ra.three
  obtain ⟨rb0, rb1, rb2, rbf0, rbf1, rbf2⟩ := rb.three
  obtain ⟨rc0, rc1, rc2, rcf0, rcf1, rcf2⟩ := rc.three
  obtain ⟨rd0, rd1, rd2, rdf0, rdf1, rdf2⟩ := rd.three
  replace ra := hid ra
  replace rb := hid rb
  replace rc := hid rc
  replace rd := hid rd
  obtain ⟨o0, o1, o2, of0, of1, of2⟩ := rold.three
  replace rold := hid rold
  go_wp2_with fail
  refine (knows09_any _).mono ?_
  rintro e v9 ⟨rfl, hst⟩
  replace hB := bthen hB hst
  go_wp2_with fail
  go_ret
  exact ⟨rfl, hB⟩

set_option maxRecDepth 100000 in
set_option maxHeartbeats 4000000 in
theorem law_VecDots (a0_0 a0_1 a0_2 : Int) (a1_0 a1_1 a1_2 : Int) (W : World) (w0_0 : (Lit.int .i32 a0_0).wf = true) (w0_1 : (Lit.int .i32 a0_1).wf = true) (w0_2 : (Lit.int .i32 a0_2).wf = true) (w1_0 : (Lit.int .i32 a1_0).wf = true) (w1_1 : (Lit.int .i32 a1_1).wf = true) (w1_2 : (Lit.int .i32 a1_2).wf = true) :
    Calls Try.prog 4 #[.agg #[.int .i32 a0_0, .int .i32 a0_1, .int .i32 a0_2], .agg #[.int .i32 a1_0, .int .i32 a1_1, .int .i32 a1_2]] W fun e w' => e = .returned (.bool true) ∧ Below W.heap.size W w' := by
  obtain ⟨w, hW, hB, hN, ra, rb⟩ := rows2 W 23 23 a0_0 a0_1 a0_2 a1_0 a1_1 a1_2
  have k1 := hid (fun (v : World) => vdot_any a0_0 a0_1 a0_2 a1_0 a1_1 a1_2 v (b32_of w0_0) (b32_of w0_1) (b32_of w0_2) (b32_of w1_0) (b32_of w1_1) (b32_of w1_2))
  have k2 := hid (fun (v : World) => rdot_any a0_0 a0_1 a0_2 a1_0 a1_1 a1_2 v (b32_of w0_0) (b32_of w0_1) (b32_of w0_2) (b32_of w1_0) (b32_of w1_1) (b32_of w1_2))
  have k3 := hid (fun (v : World) => vcross_any a0_0 a0_1 a0_2 a1_0 a1_1 a1_2 v (b32_of w0_0) (b32_of w0_1) (b32_of w0_2) (b32_of w1_0) (b32_of w1_1) (b32_of w1_2))
  have k4 := hid (fun (v : World) => rcross_any a0_0 a0_1 a0_2 a1_0 a1_1 a1_2 v (b32_of w0_0) (b32_of w0_1) (b32_of w0_2) (b32_of w1_0) (b32_of w1_1) (b32_of w1_2))
  have k5 := hid (fun (v : World) => vunit_any a0_0 a0_1 a0_2 v (b32_of w0_0) (b32_of w0_1) (b32_of w0_2))
  have k6 := hid (fun (v : World) => runit_any a0_0 a0_1 a0_2 v (b32_of w0_0) (b32_of w0_1) (b32_of w0_2))
  have k7 := hid (fun (v : World) => vlength_any a0_0 a0_1 a0_2 v (b32_of w0_0) (b32_of w0_1) (b32_of w0_2))
  have k8 := hid (fun (v : World) => rvlength_any a0_0 a0_1 a0_2 v (b32_of w0_0) (b32_of w0_1) (b32_of w0_2))
  obtain ⟨d0, d1, hV1⟩ := clamp_form (dotN a0_0 a0_1 a0_2 a1_0 a1_1 a1_2)
  replace hV1 := hid hV1
  obtain ⟨s20, s21, s22, n2, hV2⟩ := cut3_form (crossN a0_0 a0_1 a0_2 a1_0 a1_1 a1_2)
  replace hV2 := hid hV2
  obtain ⟨t0, t1, t2, tb, hV3⟩ := unit_form a0_0 a0_1 a0_2
  replace hV3 := hid hV3
  obtain ⟨LL, hL⟩ : ∃ L, lengthS [a0_0, a0_1, a0_2] = L := ⟨_, rfl⟩
  rw [hL] at k7 k8
  clear hL
  clear w0_0 w0_1 w0_2 w1_0 w1_1 w1_2
  go_enter Try.func4, Try.ntmps4
  obtain ⟨ra0, ra1, ra2, raf0, raf1, raf2⟩ := ra.three
  obtain ⟨rb0, rb1, rb2, rbf0, rbf1, rbf2⟩ := rb.three
  replace ra := hid ra
  replace rb := hid rb
  go_wp2_with fail
  refine (k1.out _).mono ?_
  rintro e v1 ⟨rfl, hst⟩
  rw [hV1.out]
  replace ra := ra.out
  replace rb := rb.out
  clear ra0 raf0 ra1 raf1 ra2 raf2 rb0 rbf0 rb1 rbf1 rb2 rbf2
  clear hW
  replace ra := Row.below ra hst
  replace rb := Row.below rb hst
  replace hB := bthen hB hst
  clear hst
  obtain ⟨ra0, ra1, ra2, raf0, raf1, raf2⟩ := ra.three
  obtain ⟨rb0, rb1, rb2, rbf0, rbf1, rbf2⟩ := rb.three
  replace ra := hid ra
  replace rb := hid rb
  go_wp2_with fail
  refine (k2.out _).mono ?_
  rintro e v2 ⟨rfl, hst⟩
  rw [hV1.out]
  replace ra := ra.out
  replace rb := rb.out
  clear ra0 raf0 ra1 raf1 ra2 raf2 rb0 rbf0 rb1 rbf1 rb2 rbf2
  replace ra := Row.below ra hst
  replace rb := Row.below rb hst
  replace hB := bthen hB hst
  clear hst
  obtain ⟨ra0, ra1, ra2, raf0, raf1, raf2⟩ := ra.three
  obtain ⟨rb0, rb1, rb2, rbf0, rbf1, rbf2⟩ := rb.three
  replace ra := hid ra
  replace rb := hid rb
  go_wp2_with fail
  refine (k3.out _).mono ?_
  rintro e v3 ⟨rfl, hst⟩
  rw [hV2.out]
  replace ra := ra.out
  replace rb := rb.out
  clear ra0 raf0 ra1 raf1 ra2 raf2 rb0 rbf0 rb1 rbf1 rb2 rbf2
  replace ra := Row.below ra hst
  replace rb := Row.below rb hst
  replace hB := bthen hB hst
  clear hst
  have hst := aalloc v3 (.cells #[.int .i32 s20, .int .i32 s21, .int .i32 s22] 23)
  have rc : Row .i32 23 (v3.alloc (.cells #[.int .i32 s20, .int .i32 s21, .int .i32 s22] 23)) v3.heap.size [s20, s21, s22] := heap_new _ _ _ rfl
  have lt_ra_rc := Row.lt ra
  have lt_rb_rc := Row.lt rb
  replace ra := Row.below ra hst
  replace rb := Row.below rb hst
  replace hB := bthen hB hst
  clear hst
  obtain ⟨u4, hu4⟩ : ∃ v, v3.alloc (.cells #[.int .i32 s20, .int .i32 s21, .int .i32 s22] 23) = v := ⟨_, rfl⟩
  rw [hu4] at ra rb rc hB
  obtain ⟨b_rc, hb_rc⟩ : ∃ b, v3.heap.size = b := ⟨_, rfl⟩
  rw [hb_rc] at rc lt_ra_rc lt_rb_rc
  obtain ⟨ra0, ra1, ra2, raf0, raf1, raf2⟩ := ra.three
  obtain ⟨rb0, rb1, rb2, rbf0, rbf1, rbf2⟩ := rb.three
  obtain ⟨rc0, rc1, rc2, rcf0, rcf1, rcf2⟩ := rc.three
  replace ra := hid ra
  replace rb := hid rb
  replace rc := hid rc
  go_wp2_with fail
  refine (k4.out _).mono ?_
  rintro e v5 ⟨rfl, hst⟩
  rw [hV2.out]
  replace ra := ra.out
  replace rb := rb.out
  replace rc := rc.out
  clear ra0 raf0 ra1 raf1 ra2 raf2 rb0 rbf0 rb1 rbf1 rb2 rbf2 rc0 rcf0 rc1 rcf1 rc2 rcf2
  clear hu4 hb_rc
  replace ra := Row.below ra hst
  replace rb := Row.below rb hst
  replace rc := Row.below rc hst
  replace hB := bthen hB hst
  clear hst
  have hst := aalloc v5 (.cells #[.int .i32 s20, .int .i32 s21, .int .i32 s22] 23)
  have rd : Row .i32 23 (v5.alloc (.cells #[.int .i32 s20, .int .i32 s21, .int .i32 s22] 23)) v5.heap.size [s20, s21, s22] := heap_new _ _ _ rfl
  have lt_ra_rd := Row.lt ra
  have lt_rb_rd := Row.lt rb
  have lt_rc_rd := Row.lt rc
  replace ra := Row.below ra hst
  replace rb := Row.below rb hst
  replace rc := Row.below rc hst
  replace hB := bthen hB hst
  clear hst
  obtain ⟨u6, hu6⟩ : ∃ v, v5.alloc (.cells #[.int .i32 s20, .int .i32 s21, .int .i32 s22] 23) = v := ⟨_, rfl⟩
  rw [hu6] at ra rb rc rd hB
  obtain ⟨b_rd, hb_rd⟩ : ∃ b, v5.heap.size = b := ⟨_, rfl⟩
  rw [hb_rd] at rd lt_ra_rd lt_rb_rd lt_rc_rd
  obtain ⟨ra0, ra1, ra2, raf0, raf1, raf2⟩ := ra.three
  obtain ⟨rb0, rb1, rb2, rbf0, rbf1, rbf2⟩ := rb.three
  obtain ⟨rc0, rc1, rc2, rcf0, rcf1, rcf2⟩ := rc.three
  obtain ⟨rd0, rd1, rd2, rdf0, rdf1, rdf2⟩ := rd.three
  replace ra := hid ra
  replace rb := hid rb
  replace rc := hid rc
  replace rd := hid rd
  go_wp2_with fail
  refine (k5.out _).mono ?_
  rintro e v7 ⟨rfl, hst⟩
  rw [hV3.out]
  replace ra := ra.out
  replace rb := rb.out
  replace rc := rc.out
  replace rd := rd.out
  clear ra0 raf0 ra1 raf1 ra2 raf2 rb0 rbf0 rb1 rbf1 rb2 rbf2 rc0 rcf0 rc1 rcf1 rc2 rcf2 rd0 rdf0 rd1 rdf1 rd2 rdf2
  clear hu6 hb_rd
  replace ra := Row.below ra hst
  replace rb := Row.below rb hst
  replace rc := Row.below rc hst
  replace rd := Row.below rd hst
  replace hB := bthen hB hst
  clear hst
  have hst := aalloc v7 (.cells #[.int .i32 t0, .int .i32 t1, .int .i32 t2] 23)
  have re : Row .i32 23 (v7.alloc (.cells #[.int .i32 t0, .int .i32 t1, .int .i32 t2] 23)) v7.heap.size [t0, t1, t2] := heap_new _ _ _ rfl
  have lt_ra_re := Row.lt ra
  have lt_rb_re := Row.lt rb
  have lt_rc_re := Row.lt rc
  have lt_rd_re := Row.lt rd
  replace ra := Row.below ra hst
  replace rb := Row.below rb hst
  replace rc := Row.below rc hst
  replace rd := Row.below rd hst
  replace hB := bthen hB hst
  clear hst
  obtain ⟨u8, hu8⟩ : ∃ v, v7.alloc (.cells #[.int .i32 t0, .int .i32 t1, .int .i32 t2] 23) = v := ⟨_, rfl⟩
  rw [hu8] at ra rb rc rd re hB
  obtain ⟨b_re, hb_re⟩ : ∃ b, v7.heap.size = b := ⟨_, rfl⟩
  rw [hb_re] at re lt_ra_re lt_rb_re lt_rc_re lt_rd_re
  obtain ⟨ra0, ra1, ra2, raf0, raf1, raf2⟩ := ra.three
  obtain ⟨rb0, rb1, rb2, rbf0, rbf1, rbf2⟩ := rb.three
  obtain ⟨rc0, rc1, rc2, rcf0, rcf1, rcf2⟩ := rc.three
  obtain ⟨rd0, rd1, rd2, rdf0, rdf1, rdf2⟩ := rd.three
  obtain ⟨re0, re1, re2, ref0, ref1, ref2⟩ := re.three
  replace ra := hid ra
  replace rb := hid rb
  replace rc := hid rc
  replace rd := hid rd
  replace re := hid re
  go_wp2_with fail
  refine (k6.out _).mono ?_
  rintro e v9 ⟨rfl, hst⟩
  rw [hV3.out]
  replace ra := ra.out
  replace rb := rb.out
  replace rc := rc.out
  replace rd := rd.out
  replace re := re.out
  clear ra0 raf0 ra1 raf1 ra2 raf2 rb0 rbf0 rb1 rbf1 rb2 rbf2 rc0 rcf0 rc1 rcf1 rc2 rcf2 rd0 rdf0 rd1 rdf1 rd2 rdf2 re0 ref0 re1 ref1 re2 ref2
  clear hu8 hb_re
  replace ra := Row.below ra hst
  replace rb := Row.below rb hst
  replace rc := Row.below rc hst
  replace rd := Row.below rd hst
  replace re := Row.below re hst
  replace hB := bthen hB hst
  clear hst
  have hst := aalloc v9 (.cells #[.int .i32 t0, .int .i32 t1, .int .i32 t2] 23)
  have rf : Row .i32 23 (v9.alloc (.cells #[.int .i32 t0, .int .i32 t1, .int .i32 t2] 23)) v9.heap.size [t0, t1, t2] := heap_new _ _ _ rfl
  have lt_ra_rf := Row.lt ra
  have lt_rb_rf := Row.lt rb
  have lt_rc_rf := Row.lt rc
  have lt_rd_rf := Row.lt rd
  have lt_re_rf := Row.lt re
  replace ra := Row.below ra hst
  replace rb := Row.below rb hst
  replace rc := Row.below rc hst
  replace rd := Row.below rd hst
  replace re := Row.below re hst
  replace hB := bthen hB hst
  clear hst
  obtain ⟨u10, hu10⟩ : ∃ v, v9.alloc (.cells #[.int .i32 t0, .int .i32 t1, .int .i32 t2] 23) = v := ⟨_, rfl⟩
  rw [hu10] at ra rb rc rd re rf hB
  obtain ⟨b_rf, hb_rf⟩ : ∃ b, v9.heap.size = b := ⟨_, rfl⟩
  rw [hb_rf] at rf lt_ra_rf lt_rb_rf lt_rc_rf lt_rd_rf lt_re_rf
  have lb_ra := Row.lt ra
  have lb_rc := Row.lt rc
  have lb_rd := Row.lt rd
  have lb_re := Row.lt re
  have lb_rf := Row.lt rf
  obtain ⟨NN, hNN⟩ : ∃ n, u10.heap.size = n := ⟨_, rfl⟩
  have hN2 : NN ≤ u10.heap.size := by omega
  rw [hNN] at lb_ra lb_rc lb_rd lb_re lb_rf
  clear hNN hN
  have hN := hN2
  clear hN2
  obtain ⟨ra0, ra1, ra2, raf0, raf1, raf2⟩ := ra.three
  obtain ⟨rb0, rb1, rb2, rbf0, rbf1, rbf2⟩ := rb.three
  obtain ⟨rc0, rc1, rc2, rcf0, rcf1, rcf2⟩ := rc.three
  obtain ⟨rd0, rd1, rd2, rdf0, rdf1, rdf2⟩ := rd.three
  obtain ⟨re0, re1, re2, ref0, ref1, ref2⟩ := re.three
  obtain ⟨rf0, rf1, rf2, rff0, rff1, rff2⟩ := rf.three
  replace ra := hid ra
  replace rb := hid rb
  replace rc := hid rc
  replace rd := hid rd
  replace re := hid re
  replace rf := hid rf
  go_wp2_with fail
  clear hu10 hb_rf
  have hst : After u10 u10.drew := (Below.refl _ _).drew
  replace ra0 := After.cellB hst ra0
  replace ra1 := After.cellB hst ra1
  replace ra2 := After.cellB hst ra2
  replace rc0 := After.cellB hst rc0
  replace rc1 := After.cellB hst rc1
  replace rc2 := After.cellB hst rc2
  replace rd0 := After.cellB hst rd0
  replace rd1 := After.cellB hst rd1
  replace rd2 := After.cellB hst rd2
  replace re0 := After.cellB hst re0
  replace re1 := After.cellB hst re1
  replace re2 := After.cellB hst re2
  replace rf0 := After.cellB hst rf0
  replace rf1 := After.cellB hst rf1
  replace rf2 := After.cellB hst rf2
  replace hB := bthen hB hst
  replace hN := Nat.le_trans hN (Below.size hst)
  clear hst
  refine wp_region_K (N := NN) (X := []) (by kernel_rfl) ?_
  generalize u10.drew = U at *
  refine wpAnyK_take 0 rfl (by kernel_rfl) (by kernel_rfl) (by kernel_rfl) (fun _ _ _ _ h => h) ⟨_, Or.inl ⟨by rfl, fun w' hb => by (go_simp; try with_reducible rfl)⟩, _, by (go_simp; try rfl), ?_⟩
  refine wpAnyK_take 1 rfl (by kernel_rfl) (by kernel_rfl) (by kernel_rfl) (fun _ _ _ _ h => h) ⟨_, Or.inl ⟨by rfl, fun w' hb => by (go_simp; try with_reducible rfl)⟩, _, by (go_simp; try rfl), ?_⟩
  refine wpAnyK_take 2 rfl (by kernel_rfl) (by kernel_rfl) (by kernel_rfl) (fun _ _ _ _ h => h) ⟨_, Or.inl ⟨by rfl, fun w' hb => by (go_simp; try with_reducible rfl)⟩, _, by (go_simp; try rfl), ?_⟩
  refine wpAnyK_take 3 rfl (by kernel_rfl) (by kernel_rfl) (by kernel_rfl) (fun _ _ _ _ h => h) ⟨_, Or.inl ⟨by rfl, fun w' hb => by (go_simp; try with_reducible rfl)⟩, _, by (go_simp; try rfl), ?_⟩
  refine wpAnyK_take 4 rfl (by kernel_rfl) (by kernel_rfl) (by kernel_rfl) (fun _ _ _ _ h => h) ⟨_, Or.inl ⟨by rfl, fun w' hb => by (go_simp; try with_reducible rfl)⟩, _, by (go_simp; try rfl), ?_⟩
  refine wpAnyK_take 5 rfl (by kernel_rfl) (by kernel_rfl) (by kernel_rfl) (fun _ _ _ _ h => h) ⟨_, Or.inl ⟨by rfl, fun w' hb => by (go_simp; try with_reducible rfl)⟩, _, by (go_simp; try rfl), ?_⟩
  refine wpAnyK_take 6 rfl (by kernel_rfl) (by kernel_rfl) (by kernel_rfl) (fun _ _ _ _ h => h) ⟨_, Or.inl ⟨by rfl, fun w' hb => by (go_simp; try with_reducible rfl)⟩, _, by (go_simp; try rfl), ?_⟩
  refine wpAnyK_take 7 rfl (by kernel_rfl) (by kernel_rfl) (by kernel_rfl) (fun _ _ _ _ h => h) ⟨_, Or.inl ⟨by rfl, fun w' hb => by (go_simp; try with_reducible rfl)⟩, _, by (go_simp; try rfl), ?_⟩
  refine wpAnyK_take 8 rfl (by kernel_rfl) (by kernel_rfl) (by kernel_rfl) (fun _ _ _ _ h => h) ⟨_, Or.inl ⟨by rfl, fun w' hb => by (go_simp; try with_reducible rfl)⟩, _, by (go_simp; try rfl), ?_⟩
  refine wpAnyK_take 9 rfl (by kernel_rfl) (by kernel_rfl) (by kernel_rfl) (fun _ _ _ _ h => h) ⟨_, Or.inl ⟨by rfl, fun w' hb => by (have h0 := hb.cellB lb_rc (by simp) rc0; have h1 := hb.cellB lb_rc (by simp) rc1; have h2 := hb.cellB lb_rc (by simp) rc2; go_simp; try with_reducible rfl)⟩, _, by (go_simp; try rfl), ?_⟩
  refine wpAnyK_take 10 rfl (by kernel_rfl) (by kernel_rfl) (by kernel_rfl) (fun _ _ _ _ h => h) ⟨_, Or.inl ⟨by rfl, fun w' hb => by (have h0 := hb.cellB lb_rd (by simp) rd0; have h1 := hb.cellB lb_rd (by simp) rd1; have h2 := hb.cellB lb_rd (by simp) rd2; go_simp; try with_reducible rfl)⟩, _, by (go_simp; try rfl), ?_⟩
  refine wpAnyK_take 11 rfl (by kernel_rfl) (by kernel_rfl) (by kernel_rfl) (fun _ _ _ _ h => h) ⟨_, Or.inl ⟨by rfl, fun w' hb => by (go_simp; try with_reducible rfl)⟩, _, by (go_simp; try rfl), ?_⟩
  refine wpAnyK_take 12 rfl (by kernel_rfl) (by kernel_rfl) (by kernel_rfl) (fun _ _ _ _ h => h) ⟨_, Or.inl ⟨by rfl, fun w' hb => by (go_simp; try with_reducible rfl)⟩, _, by (go_simp; try rfl), ?_⟩
  refine wpAnyK_take 13 rfl (by kernel_rfl) (by kernel_rfl) (by kernel_rfl) (fun _ _ _ _ h => h) ⟨_, Or.inl ⟨by rfl, fun w' hb => by (go_simp; try with_reducible rfl)⟩, _, by (go_simp; try rfl), ?_⟩
  refine wpAnyK_take 14 rfl (by kernel_rfl) (by kernel_rfl) (by kernel_rfl) (fun _ _ _ _ h => h) ⟨_, Or.inl ⟨by rfl, fun w' hb => by (go_simp; try with_reducible rfl)⟩, _, by (go_simp; try rfl), ?_⟩
  refine wpAnyK_take 15 rfl (by kernel_rfl) (by kernel_rfl) (by kernel_rfl) (fun _ _ _ _ h => h) ⟨_, Or.inl ⟨by rfl, fun w' hb => by (go_simp; try with_reducible rfl)⟩, _, by (go_simp; try rfl), ?_⟩
  refine wpAnyK_take 16 rfl (by kernel_rfl) (by kernel_rfl) (by kernel_rfl) (fun _ _ _ _ h => h) ⟨_, Or.inl ⟨by rfl, fun w' hb => by (go_simp; try with_reducible rfl)⟩, _, by (go_simp; try rfl), ?_⟩
  refine wpAnyK_take 17 rfl (by kernel_rfl) (by kernel_rfl) (by kernel_rfl) (fun _ _ _ _ h => h) ⟨_, Or.inl ⟨by rfl, fun w' hb => by (go_simp; try with_reducible rfl)⟩, _, by (go_simp; try rfl), ?_⟩
  refine wpAnyK_take 18 rfl (by kernel_rfl) (by kernel_rfl) (by kernel_rfl) (fun _ _ _ _ h => h) ⟨_, Or.inl ⟨by rfl, fun w' hb => by (go_simp; try with_reducible rfl)⟩, _, by (go_simp; try rfl), ?_⟩
  refine wpAnyK_take 19 rfl (by kernel_rfl) (by kernel_rfl) (by kernel_rfl) (fun _ _ _ _ h => h) ⟨_, Or.inl ⟨by rfl, fun w' hb => by (have h0 := hb.cellB lb_ra (by simp) ra0; have h1 := hb.cellB lb_ra (by simp) ra1; have h2 := hb.cellB lb_ra (by simp) ra2; go_simp; try with_reducible rfl)⟩, _, by (go_simp; try rfl), ?_⟩
  refine wpAnyK_take 21 rfl (by kernel_rfl) (by kernel_rfl) (by kernel_rfl) (fun _ _ _ _ h => h) ⟨_, Or.inl ⟨by rfl, fun w' hb => by (have h0 := hb.cellB lb_ra (by simp) ra0; have h1 := hb.cellB lb_ra (by simp) ra1; have h2 := hb.cellB lb_ra (by simp) ra2; go_simp; try with_reducible rfl)⟩, _, by (go_simp; try rfl), ?_⟩
  refine wpAnyK_only 20 rfl (by kernel_rfl) (by rfl) (fun K hK => ?_)
  go_simp
  refine (k7.out _).mono ?_
  rintro e U ⟨rfl, hst⟩
  go_wp2_with fail
  refine ⟨Kp.of hst hN, ?_⟩
  replace ra0 := After.cellB hst ra0
  replace ra1 := After.cellB hst ra1
  replace ra2 := After.cellB hst ra2
  replace rc0 := After.cellB hst rc0
  replace rc1 := After.cellB hst rc1
  replace rc2 := After.cellB hst rc2
  replace rd0 := After.cellB hst rd0
  replace rd1 := After.cellB hst rd1
  replace rd2 := After.cellB hst rd2
  replace re0 := After.cellB hst re0
  replace re1 := After.cellB hst re1
  replace re2 := After.cellB hst re2
  replace rf0 := After.cellB hst rf0
  replace rf1 := After.cellB hst rf1
  replace rf2 := After.cellB hst rf2
  replace hB := bthen hB hst
  replace hN := Nat.le_trans hN (Below.size hst)
  clear hst
  refine wpAnyK_only 22 rfl (by kernel_rfl) (by rfl) (fun K hK => ?_)
  go_simp
  refine (k8.out _).mono ?_
  rintro e U ⟨rfl, hst⟩
  go_wp2_with fail
  refine ⟨Kp.of hst hN, ?_⟩
  replace ra0 := After.cellB hst ra0
  replace ra1 := After.cellB hst ra1
  replace ra2 := After.cellB hst ra2
  replace rc0 := After.cellB hst rc0
  replace rc1 := After.cellB hst rc1
  replace rc2 := After.cellB hst rc2
  replace rd0 := After.cellB hst rd0
  replace rd1 := After.cellB hst rd1
  replace rd2 := After.cellB hst rd2
  replace re0 := After.cellB hst re0
  replace re1 := After.cellB hst re1
  replace re2 := After.cellB hst re2
  replace rf0 := After.cellB hst rf0
  replace rf1 := After.cellB hst rf1
  replace rf2 := After.cellB hst rf2
  replace hB := bthen hB hst
  replace hN := Nat.le_trans hN (Below.size hst)
  clear hst
  refine wpAnyK_take 23 rfl (by kernel_rfl) (by kernel_rfl) (by kernel_rfl) (fun _ _ _ _ h => h) ⟨_, Or.inl ⟨by rfl, fun w' hb => by (go_simp; try with_reducible rfl)⟩, _, by (go_simp; try rfl), ?_⟩
  refine wpAnyK_take 24 rfl (by kernel_rfl) (by kernel_rfl) (by kernel_rfl) (fun _ _ _ _ h => h) ⟨_, Or.inl ⟨by rfl, fun w' hb => by (go_simp; try with_reducible rfl)⟩, _, by (go_simp; try rfl), ?_⟩
  refine wpAnyK_take 25 rfl (by kernel_rfl) (by kernel_rfl) (by kernel_rfl) (fun _ _ _ _ h => h) ⟨_, Or.inl ⟨by rfl, fun w' hb => by (go_simp; try with_reducible rfl)⟩, _, by (go_simp; try rfl), ?_⟩
  refine wpAnyK_take 26 rfl (by kernel_rfl) (by kernel_rfl) (by kernel_rfl) (fun _ _ _ _ h => h) ⟨_, Or.inl ⟨by rfl, fun w' hb => by (have h0 := hb.cellB lb_re (by simp) re0; have h1 := hb.cellB lb_re (by simp) re1; have h2 := hb.cellB lb_re (by simp) re2; go_simp; try with_reducible rfl)⟩, _, by (go_simp; try rfl), ?_⟩
  refine wpAnyK_take 27 rfl (by kernel_rfl) (by kernel_rfl) (by kernel_rfl) (fun _ _ _ _ h => h) ⟨_, Or.inl ⟨by rfl, fun w' hb => by (have h0 := hb.cellB lb_rf (by simp) rf0; have h1 := hb.cellB lb_rf (by simp) rf1; have h2 := hb.cellB lb_rf (by simp) rf2; go_simp; try with_reducible rfl)⟩, _, by (go_simp; try rfl), ?_⟩
  refine wpAnyK_take 28 rfl (by kernel_rfl) (by kernel_rfl) (by kernel_rfl) (fun _ _ _ _ h => h) ⟨_, Or.inl ⟨by rfl, fun w' hb => by (go_simp; try with_reducible rfl)⟩, _, by (go_simp; try rfl), ?_⟩
  refine wpAnyK_take 29 rfl (by kernel_rfl) (by kernel_rfl) (by kernel_rfl) (fun _ _ _ _ h => h) ⟨_, Or.inl ⟨by rfl, fun w' hb => by (go_simp; try with_reducible rfl)⟩, _, by (go_simp; try rfl), ?_⟩
  refine wpAnyK_take 30 rfl (by kernel_rfl) (by kernel_rfl) (by kernel_rfl) (fun _ _ _ _ h => h) ⟨_, Or.inl ⟨by rfl, fun w' hb => by (go_simp; try with_reducible rfl)⟩, _, by (go_simp; try rfl), ?_⟩
  refine wpAnyK_take 31 rfl (by kernel_rfl) (by kernel_rfl) (by kernel_rfl) (fun _ _ _ _ h => h) ⟨_, Or.inl ⟨by rfl, fun w' hb => by (go_simp; try with_reducible rfl)⟩, _, by (go_simp; try rfl), ?_⟩
  refine wpAnyK_take 32 rfl (by kernel_rfl) (by kernel_rfl) (by kernel_rfl) (fun _ _ _ _ h => h) ⟨_, Or.inl ⟨by rfl, fun w' hb => by (go_simp; try with_reducible rfl)⟩, _, by (go_simp; try rfl), ?_⟩
  refine wpAnyK_take 33 rfl (by kernel_rfl) (by kernel_rfl) (by kernel_rfl) (fun _ _ _ _ h => h) ⟨_, Or.inl ⟨by rfl, fun w' hb => by (go_simp; try with_reducible rfl)⟩, _, by (go_simp; try rfl), ?_⟩
  refine wpAnyK_take 34 rfl (by kernel_rfl) (by kernel_rfl) (by kernel_rfl) (fun _ _ _ _ h => h) ⟨_, Or.inl ⟨by rfl, fun w' hb => by (go_simp; try with_reducible rfl)⟩, _, by (go_simp; try rfl), ?_⟩
  refine wpAnyK_take 35 rfl (by kernel_rfl) (by kernel_rfl) (by kernel_rfl) (fun _ _ _ _ h => h) ⟨_, Or.inl ⟨by rfl, fun w' hb => by (go_simp; try with_reducible rfl)⟩, _, by (go_simp; try rfl), ?_⟩
  refine wpAnyK_only 36 rfl (by kernel_rfl) (by rfl) (fun K hK => ?_)
  go_simp
  refine (knows09_any _).mono ?_
  rintro e U ⟨rfl, hst⟩
  go_wp2_with fail
  refine ⟨Kp.of hst hN, ?_⟩
  replace ra0 := After.cellB hst ra0
  replace ra1 := After.cellB hst ra1
  replace ra2 := After.cellB hst ra2
  replace rc0 := After.cellB hst rc0
  replace rc1 := After.cellB hst rc1
  replace rc2 := After.cellB hst rc2
  replace rd0 := After.cellB hst rd0
  replace rd1 := After.cellB hst rd1
  replace rd2 := After.cellB hst rd2
  replace re0 := After.cellB hst re0
  replace re1 := After.cellB hst re1
  replace re2 := After.cellB hst re2
  replace rf0 := After.cellB hst rf0
  replace rf1 := After.cellB hst rf1
  replace rf2 := After.cellB hst rf2
  replace hB := bthen hB hst
  replace hN := Nat.le_trans hN (Below.size hst)
  clear hst
  refine wpAnyK_take 37 rfl (by kernel_rfl) (by kernel_rfl) (by kernel_rfl) (fun _ _ _ _ h => h) ⟨_, Or.inl ⟨by rfl, fun w' hb => by (go_simp; try with_reducible rfl)⟩, _, by (go_simp; try rfl), ?_⟩
  refine wpAnyK_take 38 rfl (by kernel_rfl) (by kernel_rfl) (by kernel_rfl) (fun _ _ _ _ h => h) ⟨_, Or.inl ⟨by rfl, fun w' hb => by (go_simp; try with_reducible rfl)⟩, _, by (go_simp; try rfl), ?_⟩
  refine wpAnyK_done (by kernel_rfl) ?_ _
  go_wp2_with fail
  go_ret
  exact ⟨rfl, hB⟩


end Go.Proofs.Yticjpdojiiepeaa
