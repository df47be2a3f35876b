/- The law VecTurned, walked: it returns true. -/
import Derived.Test.YticjpdojiiepeaaLaw09
namespace Go.Proofs.Yticjpdojiiepeaa
open Go.ChangeShapes Go.WideShapes Go.ChangeAt Go.RowKit
set_option linter.unusedVariables false

set_option maxRecDepth 100000 in
set_option maxHeartbeats 4000000 in
theorem law_VecTurned (a0_0 a0_1 a0_2 : Int) (a1_0 a1_1 a1_2 : Int) (W : World) (w0_0 : (Lit.int .i32 a0_0).wf = true) (w0_1 : (Lit.int .i32 a0_1).wf = true) (w0_2 : (Lit.int .i32 a0_2).wf = true) (w1_0 : (Lit.int .i32 a1_0).wf = true) (w1_1 : (Lit.int .i32 a1_1).wf = true) (w1_2 : (Lit.int .i32 a1_2).wf = true) :
    Calls Try.prog 6 #[.agg #[.int .i32 a0_0, .int .i32 a0_1, .int .i32 a0_2], .agg #[.int .i32 a1_0, .int .i32 a1_1, .int .i32 a1_2]] W fun e w' => e = .returned (.bool true) ∧ Below W.heap.size W w' := by
  have hx := cross_cases a0_0 a0_1 a0_2 a1_0 a1_1 a1_2
  have hy := back_cases a0_0 a0_1 a0_2 a1_0 a1_1 a1_2 (b32_of w0_0) (b32_of w0_1) (b32_of w0_2)
  rcases hx with hx | hx
  · rcases hy with hy | hy
    · obtain ⟨w, hW, hB, hN, ra, rb⟩ := rows2 W 23 23 a0_0 a0_1 a0_2 a1_0 a1_1 a1_2
      have k1 := hid (fun (v : World) => vdot_any a0_0 a0_1 a0_2 a1_0 a1_1 a1_2 v (b32_of w0_0) (b32_of w0_1) (b32_of w0_2) (b32_of w1_0) (b32_of w1_1) (b32_of w1_2))
      have k2 := hid (fun (v : World) => vdot_any a1_0 a1_1 a1_2 a0_0 a0_1 a0_2 v (b32_of w1_0) (b32_of w1_1) (b32_of w1_2) (b32_of w0_0) (b32_of w0_1) (b32_of w0_2))
      have k3 := hid (fun (v : World) => vcross_any a0_0 a0_1 a0_2 a1_0 a1_1 a1_2 v (b32_of w0_0) (b32_of w0_1) (b32_of w0_2) (b32_of w1_0) (b32_of w1_1) (b32_of w1_2))
      have k4 := hid (fun (v : World) => vcross_any a1_0 a1_1 a1_2 a0_0 a0_1 a0_2 v (b32_of w1_0) (b32_of w1_1) (b32_of w1_2) (b32_of w0_0) (b32_of w0_1) (b32_of w0_2))
      have k5 := hid (fun (v : World) => vadd_any a0_0 a0_1 a0_2 a1_0 a1_1 a1_2 v (b32_of w0_0) (b32_of w0_1) (b32_of w0_2) (b32_of w1_0) (b32_of w1_1) (b32_of w1_2))
      obtain ⟨q0, q1, q2, hV3, hV4, ⟨l0, m0⟩, ⟨l1, m1⟩, l2, m2⟩ := hx
      obtain ⟨hV5, f0, f1, f2, hV6⟩ := hy
      have k6 := hid (fun (v : World) => vsub_any (a0_0 + a1_0) (a0_1 + a1_1) (a0_2 + a1_2) a1_0 a1_1 a1_2 v f0 f1 f2 (b32_of w1_0) (b32_of w1_1) (b32_of w1_2))
      obtain ⟨d0, d1, hV1⟩ := clamp_form (dotN a0_0 a0_1 a0_2 a1_0 a1_1 a1_2)
      replace hV1 := hid hV1
      have hV2 := hid (dot_comm a0_0 a0_1 a0_2 a1_0 a1_1 a1_2)
      replace hV3 := hid hV3
      replace hV4 := hid hV4
      replace hV5 := hid hV5
      replace hV6 := hid hV6
      have bd0 := b32_of w0_0
      have be0 := b32_of w1_0
      have bd1 := b32_of w0_1
      have be1 := b32_of w1_1
      have bd2 := b32_of w0_2
      have be2 := b32_of w1_2
      unfold B32 at bd0 bd1 bd2 be0 be1 be2 f0 f1 f2
      clear w0_0 w0_1 w0_2 w1_0 w1_1 w1_2
      go_enter Try.func6, Try.ntmps6
      obtain ⟨ra0, ra1, ra2, raf0, raf1, raf2⟩ := ra.three
      obtain ⟨rb0, rb1, rb2, rbf0, rbf1, rbf2⟩ := rb.three
      replace ra := hid ra
      replace rb := hid rb
      go_wp2_with fail
      refine (k1.out _).mono ?_
      rintro e v1 ⟨rfl, hst⟩
      rw [hV1.out]
      replace ra := ra.out
      replace rb := rb.out
      clear ra0 raf0 ra1 raf1 ra2 raf2 rb0 rbf0 rb1 rbf1 rb2 rbf2
      clear hW
      replace ra := Row.below ra hst
      replace rb := Row.below rb hst
      replace hB := bthen hB hst
      clear hst
      obtain ⟨ra0, ra1, ra2, raf0, raf1, raf2⟩ := ra.three
      obtain ⟨rb0, rb1, rb2, rbf0, rbf1, rbf2⟩ := rb.three
      replace ra := hid ra
      replace rb := hid rb
      go_wp2_with fail
      refine (k2.out _).mono ?_
      rintro e v2 ⟨rfl, hst⟩
      rw [hV2.out, hV1.out]
      replace ra := ra.out
      replace rb := rb.out
      clear ra0 raf0 ra1 raf1 ra2 raf2 rb0 rbf0 rb1 rbf1 rb2 rbf2
      replace ra := Row.below ra hst
      replace rb := Row.below rb hst
      replace hB := bthen hB hst
      clear hst
      obtain ⟨ra0, ra1, ra2, raf0, raf1, raf2⟩ := ra.three
      obtain ⟨rb0, rb1, rb2, rbf0, rbf1, rbf2⟩ := rb.three
      replace ra := hid ra
      replace rb := hid rb
      go_wp2_with fail
      refine (k3.out _).mono ?_
      rintro e v3 ⟨rfl, hst⟩
      rw [hV3.out]
      replace ra := ra.out
      replace rb := rb.out
      clear ra0 raf0 ra1 raf1 ra2 raf2 rb0 rbf0 rb1 rbf1 rb2 rbf2
      replace ra := Row.below ra hst
      replace rb := Row.below rb hst
      replace hB := bthen hB hst
      clear hst
      have hst := aalloc v3 (.cells #[.int .i32 (-q0), .int .i32 (-q1), .int .i32 (-q2)] 23)
      have rc : Row .i32 23 (v3.alloc (.cells #[.int .i32 (-q0), .int .i32 (-q1), .int .i32 (-q2)] 23)) v3.heap.size [(-q0), (-q1), (-q2)] := heap_new _ _ _ rfl
      have lt_ra_rc := Row.lt ra
      have lt_rb_rc := Row.lt rb
      replace ra := Row.below ra hst
      replace rb := Row.below rb hst
      replace hB := bthen hB hst
      clear hst
      obtain ⟨u4, hu4⟩ : ∃ v, v3.alloc (.cells #[.int .i32 (-q0), .int .i32 (-q1), .int .i32 (-q2)] 23) = v := ⟨_, rfl⟩
      rw [hu4] at ra rb rc hB
      obtain ⟨b_rc, hb_rc⟩ : ∃ b, v3.heap.size = b := ⟨_, rfl⟩
      rw [hb_rc] at rc lt_ra_rc lt_rb_rc
      obtain ⟨ra0, ra1, ra2, raf0, raf1, raf2⟩ := ra.three
      obtain ⟨rb0, rb1, rb2, rbf0, rbf1, rbf2⟩ := rb.three
      obtain ⟨rc0, rc1, rc2, rcf0, rcf1, rcf2⟩ := rc.three
      replace ra := hid ra
      replace rb := hid rb
      replace rc := hid rc
      go_wp2_with fail
      refine (k4.out _).mono ?_
      rintro e v5 ⟨rfl, hst⟩
      rw [hV4.out]
      replace ra := ra.out
      replace rb := rb.out
      replace rc := rc.out
      clear ra0 raf0 ra1 raf1 ra2 raf2 rb0 rbf0 rb1 rbf1 rb2 rbf2 rc0 rcf0 rc1 rcf1 rc2 rcf2
      clear hu4 hb_rc
      replace ra := Row.below ra hst
      replace rb := Row.below rb hst
      replace rc := Row.below rc hst
      replace hB := bthen hB hst
      clear hst
      have hst := aalloc v5 (.cells #[.int .i32 q0, .int .i32 q1, .int .i32 q2] 23)
      have rd : Row .i32 23 (v5.alloc (.cells #[.int .i32 q0, .int .i32 q1, .int .i32 q2] 23)) v5.heap.size [q0, q1, q2] := heap_new _ _ _ rfl
      have lt_ra_rd := Row.lt ra
      have lt_rb_rd := Row.lt rb
      have lt_rc_rd := Row.lt rc
      replace ra := Row.below ra hst
      replace rb := Row.below rb hst
      replace rc := Row.below rc hst
      replace hB := bthen hB hst
      clear hst
      obtain ⟨u6, hu6⟩ : ∃ v, v5.alloc (.cells #[.int .i32 q0, .int .i32 q1, .int .i32 q2] 23) = v := ⟨_, rfl⟩
      rw [hu6] at ra rb rc rd hB
      obtain ⟨b_rd, hb_rd⟩ : ∃ b, v5.heap.size = b := ⟨_, rfl⟩
      rw [hb_rd] at rd lt_ra_rd lt_rb_rd lt_rc_rd
      obtain ⟨ra0, ra1, ra2, raf0, raf1, raf2⟩ := ra.three
      obtain ⟨rb0, rb1, rb2, rbf0, rbf1, rbf2⟩ := rb.three
      obtain ⟨rc0, rc1, rc2, rcf0, rcf1, rcf2⟩ := rc.three
      obtain ⟨rd0, rd1, rd2, rdf0, rdf1, rdf2⟩ := rd.three
      replace ra := hid ra
      replace rb := hid rb
      replace rc := hid rc
      replace rd := hid rd
      go_wp2_with fail
      refine (k5.out _).mono ?_
      rintro e v7 ⟨rfl, hst⟩
      rw [hV5.out]
      replace ra := ra.out
      replace rb := rb.out
      replace rc := rc.out
      replace rd := rd.out
      clear ra0 raf0 ra1 raf1 ra2 raf2 rb0 rbf0 rb1 rbf1 rb2 rbf2 rc0 rcf0 rc1 rcf1 rc2 rcf2 rd0 rdf0 rd1 rdf1 rd2 rdf2
      clear hu6 hb_rd
      replace ra := Row.below ra hst
      replace rb := Row.below rb hst
      replace rc := Row.below rc hst
      replace rd := Row.below rd hst
      replace hB := bthen hB hst
      clear hst
      have hst := aalloc v7 (.cells #[.int .i32 (a0_0 + a1_0), .int .i32 (a0_1 + a1_1), .int .i32 (a0_2 + a1_2)] 23)
      have re : Row .i32 23 (v7.alloc (.cells #[.int .i32 (a0_0 + a1_0), .int .i32 (a0_1 + a1_1), .int .i32 (a0_2 + a1_2)] 23)) v7.heap.size [(a0_0 + a1_0), (a0_1 + a1_1), (a0_2 + a1_2)] := heap_new _ _ _ rfl
      have lt_ra_re := Row.lt ra
      have lt_rb_re := Row.lt rb
      have lt_rc_re := Row.lt rc
      have lt_rd_re := Row.lt rd
      replace ra := Row.below ra hst
      replace rb := Row.below rb hst
      replace rc := Row.below rc hst
      replace rd := Row.below rd hst
      replace hB := bthen hB hst
      clear hst
      obtain ⟨u8, hu8⟩ : ∃ v, v7.alloc (.cells #[.int .i32 (a0_0 + a1_0), .int .i32 (a0_1 + a1_1), .int .i32 (a0_2 + a1_2)] 23) = v := ⟨_, rfl⟩
      rw [hu8] at ra rb rc rd re hB
      obtain ⟨b_re, hb_re⟩ : ∃ b, v7.heap.size = b := ⟨_, rfl⟩
      rw [hb_re] at re lt_ra_re lt_rb_re lt_rc_re lt_rd_re
      obtain ⟨ra0, ra1, ra2, raf0, raf1, raf2⟩ := ra.three
      obtain ⟨rb0, rb1, rb2, rbf0, rbf1, rbf2⟩ := rb.three
      obtain ⟨rc0, rc1, rc2, rcf0, rcf1, rcf2⟩ := rc.three
      obtain ⟨rd0, rd1, rd2, rdf0, rdf1, rdf2⟩ := rd.three
      obtain ⟨re0, re1, re2, ref0, ref1, ref2⟩ := re.three
      replace ra := hid ra
      replace rb := hid rb
      replace rc := hid rc
      replace rd := hid rd
      replace re := hid re
      go_wp2_with fail
      refine (k6.out _).mono ?_
      rintro e v9 ⟨rfl, hst⟩
      rw [hV6.out]
      replace ra := ra.out
      replace rb := rb.out
      replace rc := rc.out
      replace rd := rd.out
      replace re := re.out
      clear ra0 raf0 ra1 raf1 ra2 raf2 rb0 rbf0 rb1 rbf1 rb2 rbf2 rc0 rcf0 rc1 rcf1 rc2 rcf2 rd0 rdf0 rd1 rdf1 rd2 rdf2 re0 ref0 re1 ref1 re2 ref2
      clear hu8 hb_re
      replace ra := Row.below ra hst
      replace rb := Row.below rb hst
      replace rc := Row.below rc hst
      replace rd := Row.below rd hst
      replace re := Row.below re hst
      replace hB := bthen hB hst
      clear hst
      have hst := aalloc v9 (.cells #[.int .i32 a0_0, .int .i32 a0_1, .int .i32 a0_2] 23)
      have rf : Row .i32 23 (v9.alloc (.cells #[.int .i32 a0_0, .int .i32 a0_1, .int .i32 a0_2] 23)) v9.heap.size [a0_0, a0_1, a0_2] := heap_new _ _ _ rfl
      have lt_ra_rf := Row.lt ra
      have lt_rb_rf := Row.lt rb
      have lt_rc_rf := Row.lt rc
      have lt_rd_rf := Row.lt rd
      have lt_re_rf := Row.lt re
      replace ra := Row.below ra hst
      replace rb := Row.below rb hst
      replace rc := Row.below rc hst
      replace rd := Row.below rd hst
      replace re := Row.below re hst
      replace hB := bthen hB hst
      clear hst
      obtain ⟨u10, hu10⟩ : ∃ v, v9.alloc (.cells #[.int .i32 a0_0, .int .i32 a0_1, .int .i32 a0_2] 23) = v := ⟨_, rfl⟩
      rw [hu10] at ra rb rc rd re rf hB
      obtain ⟨b_rf, hb_rf⟩ : ∃ b, v9.heap.size = b := ⟨_, rfl⟩
      rw [hb_rf] at rf lt_ra_rf lt_rb_rf lt_rc_rf lt_rd_rf lt_re_rf
      obtain ⟨ra0, ra1, ra2, raf0, raf1, raf2⟩ := ra.three
      obtain ⟨rb0, rb1, rb2, rbf0, rbf1, rbf2⟩ := rb.three
      obtain ⟨rc0, rc1, rc2, rcf0, rcf1, rcf2⟩ := rc.three
      obtain ⟨rd0, rd1, rd2, rdf0, rdf1, rdf2⟩ := rd.three
      obtain ⟨re0, re1, re2, ref0, ref1, ref2⟩ := re.three
      obtain ⟨rf0, rf1, rf2, rff0, rff1, rff2⟩ := rf.three
      replace ra := hid ra
      replace rb := hid rb
      replace rc := hid rc
      replace rd := hid rd
      replace re := hid re
      replace rf := hid rf
      go_wp2_with fail
      refine (knows09_any _).mono ?_
      rintro e v9 ⟨rfl, hst⟩
      replace hB := bthen hB hst
      go_wp2_with fail
      go_ret
      exact ⟨rfl, hB⟩
    · obtain ⟨w, hW, hB, hN, ra, rb⟩ := rows2 W 23 23 a0_0 a0_1 a0_2 a1_0 a1_1 a1_2
      have k1 := hid (fun (v : World) => vdot_any a0_0 a0_1 a0_2 a1_0 a1_1 a1_2 v (b32_of w0_0) (b32_of w0_1) (b32_of w0_2) (b32_of w1_0) (b32_of w1_1) (b32_of w1_2))
      have k2 := hid (fun (v : World) => vdot_any a1_0 a1_1 a1_2 a0_0 a0_1 a0_2 v (b32_of w1_0) (b32_of w1_1) (b32_of w1_2) (b32_of w0_0) (b32_of w0_1) (b32_of w0_2))
      have k3 := hid (fun (v : World) => vcross_any a0_0 a0_1 a0_2 a1_0 a1_1 a1_2 v (b32_of w0_0) (b32_of w0_1) (b32_of w0_2) (b32_of w1_0) (b32_of w1_1) (b32_of w1_2))
      have k4 := hid (fun (v : World) => vcross_any a1_0 a1_1 a1_2 a0_0 a0_1 a0_2 v (b32_of w1_0) (b32_of w1_1) (b32_of w1_2) (b32_of w0_0) (b32_of w0_1) (b32_of w0_2))
      have k5 := hid (fun (v : World) => vadd_any a0_0 a0_1 a0_2 a1_0 a1_1 a1_2 v (b32_of w0_0) (b32_of w0_1) (b32_of w0_2) (b32_of w1_0) (b32_of w1_1) (b32_of w1_2))
      obtain ⟨q0, q1, q2, hV3, hV4, ⟨l0, m0⟩, ⟨l1, m1⟩, l2, m2⟩ := hx
      obtain ⟨e0, e1, e2, g0, g1, g2, mm, nn, hV5, hmm, hmm3, f0, f1, f2, hV6⟩ := hy
      have k6 := hid (fun (v : World) => vsub_any e0 e1 e2 a1_0 a1_1 a1_2 v f0 f1 f2 (b32_of w1_0) (b32_of w1_1) (b32_of w1_2))
      obtain ⟨d0, d1, hV1⟩ := clamp_form (dotN a0_0 a0_1 a0_2 a1_0 a1_1 a1_2)
      replace hV1 := hid hV1
      have hV2 := hid (dot_comm a0_0 a0_1 a0_2 a1_0 a1_1 a1_2)
      replace hV3 := hid hV3
      replace hV4 := hid hV4
      replace hV5 := hid hV5
      replace hV6 := hid hV6
      have bd0 := b32_of w0_0
      have be0 := b32_of w1_0
      have bd1 := b32_of w0_1
      have be1 := b32_of w1_1
      have bd2 := b32_of w0_2
      have be2 := b32_of w1_2
      unfold B32 at bd0 bd1 bd2 be0 be1 be2 f0 f1 f2
      clear w0_0 w0_1 w0_2 w1_0 w1_1 w1_2
      go_enter Try.func6, Try.ntmps6
      obtain ⟨ra0, ra1, ra2, raf0, raf1, raf2⟩ := ra.three
      obtain ⟨rb0, rb1, rb2, rbf0, rbf1, rbf2⟩ := rb.three
      replace ra := hid ra
      replace rb := hid rb
      go_wp2_with fail
      refine (k1.out _).mono ?_
      rintro e v1 ⟨rfl, hst⟩
      rw [hV1.out]
      replace ra := ra.out
      replace rb := rb.out
      clear ra0 raf0 ra1 raf1 ra2 raf2 rb0 rbf0 rb1 rbf1 rb2 rbf2
      clear hW
      replace ra := Row.below ra hst
      replace rb := Row.below rb hst
      replace hB := bthen hB hst
      clear hst
      obtain ⟨ra0, ra1, ra2, raf0, raf1, raf2⟩ := ra.three
      obtain ⟨rb0, rb1, rb2, rbf0, rbf1, rbf2⟩ := rb.three
      replace ra := hid ra
      replace rb := hid rb
      go_wp2_with fail
      refine (k2.out _).mono ?_
      rintro e v2 ⟨rfl, hst⟩
      rw [hV2.out, hV1.out]
      replace ra := ra.out
      replace rb := rb.out
      clear ra0 raf0 ra1 raf1 ra2 raf2 rb0 rbf0 rb1 rbf1 rb2 rbf2
      replace ra := Row.below ra hst
      replace rb := Row.below rb hst
      replace hB := bthen hB hst
      clear hst
      obtain ⟨ra0, ra1, ra2, raf0, raf1, raf2⟩ := ra.three
      obtain ⟨rb0, rb1, rb2, rbf0, rbf1, rbf2⟩ := rb.three
      replace ra := hid ra
      replace rb := hid rb
      go_wp2_with fail
      refine (k3.out _).mono ?_
      rintro e v3 ⟨rfl, hst⟩
      rw [hV3.out]
      replace ra := ra.out
      replace rb := rb.out
      clear ra0 raf0 ra1 raf1 ra2 raf2 rb0 rbf0 rb1 rbf1 rb2 rbf2
      replace ra := Row.below ra hst
      replace rb := Row.below rb hst
      replace hB := bthen hB hst
      clear hst
      have hst := aalloc v3 (.cells #[.int .i32 (-q0), .int .i32 (-q1), .int .i32 (-q2)] 23)
      have rc : Row .i32 23 (v3.alloc (.cells #[.int .i32 (-q0), .int .i32 (-q1), .int .i32 (-q2)] 23)) v3.heap.size [(-q0), (-q1), (-q2)] := heap_new _ _ _ rfl
      have lt_ra_rc := Row.lt ra
      have lt_rb_rc := Row.lt rb
      replace ra := Row.below ra hst
      replace rb := Row.below rb hst
      replace hB := bthen hB hst
      clear hst
      obtain ⟨u4, hu4⟩ : ∃ v, v3.alloc (.cells #[.int .i32 (-q0), .int .i32 (-q1), .int .i32 (-q2)] 23) = v := ⟨_, rfl⟩
      rw [hu4] at ra rb rc hB
      obtain ⟨b_rc, hb_rc⟩ : ∃ b, v3.heap.size = b := ⟨_, rfl⟩
      rw [hb_rc] at rc lt_ra_rc lt_rb_rc
      obtain ⟨ra0, ra1, ra2, raf0, raf1, raf2⟩ := ra.three
      obtain ⟨rb0, rb1, rb2, rbf0, rbf1, rbf2⟩ := rb.three
      obtain ⟨rc0, rc1, rc2, rcf0, rcf1, rcf2⟩ := rc.three
      replace ra := hid ra
      replace rb := hid rb
      replace rc := hid rc
      go_wp2_with fail
      refine (k4.out _).mono ?_
      rintro e v5 ⟨rfl, hst⟩
      rw [hV4.out]
      replace ra := ra.out
      replace rb := rb.out
      replace rc := rc.out
      clear ra0 raf0 ra1 raf1 ra2 raf2 rb0 rbf0 rb1 rbf1 rb2 rbf2 rc0 rcf0 rc1 rcf1 rc2 rcf2
      clear hu4 hb_rc
      replace ra := Row.below ra hst
      replace rb := Row.below rb hst
      replace rc := Row.below rc hst
      replace hB := bthen hB hst
      clear hst
      have hst := aalloc v5 (.cells #[.int .i32 q0, .int .i32 q1, .int .i32 q2] 23)
      have rd : Row .i32 23 (v5.alloc (.cells #[.int .i32 q0, .int .i32 q1, .int .i32 q2] 23)) v5.heap.size [q0, q1, q2] := heap_new _ _ _ rfl
      have lt_ra_rd := Row.lt ra
      have lt_rb_rd := Row.lt rb
      have lt_rc_rd := Row.lt rc
      replace ra := Row.below ra hst
      replace rb := Row.below rb hst
      replace rc := Row.below rc hst
      replace hB := bthen hB hst
      clear hst
      obtain ⟨u6, hu6⟩ : ∃ v, v5.alloc (.cells #[.int .i32 q0, .int .i32 q1, .int .i32 q2] 23) = v := ⟨_, rfl⟩
      rw [hu6] at ra rb rc rd hB
      obtain ⟨b_rd, hb_rd⟩ : ∃ b, v5.heap.size = b := ⟨_, rfl⟩
      rw [hb_rd] at rd lt_ra_rd lt_rb_rd lt_rc_rd
      obtain ⟨ra0, ra1, ra2, raf0, raf1, raf2⟩ := ra.three
      obtain ⟨rb0, rb1, rb2, rbf0, rbf1, rbf2⟩ := rb.three
      obtain ⟨rc0, rc1, rc2, rcf0, rcf1, rcf2⟩ := rc.three
      obtain ⟨rd0, rd1, rd2, rdf0, rdf1, rdf2⟩ := rd.three
      replace ra := hid ra
      replace rb := hid rb
      replace rc := hid rc
      replace rd := hid rd
      go_wp2_with fail
      refine (k5.out _).mono ?_
      rintro e v7 ⟨rfl, hst⟩
      rw [hV5.out]
      replace ra := ra.out
      replace rb := rb.out
      replace rc := rc.out
      replace rd := rd.out
      clear ra0 raf0 ra1 raf1 ra2 raf2 rb0 rbf0 rb1 rbf1 rb2 rbf2 rc0 rcf0 rc1 rcf1 rc2 rcf2 rd0 rdf0 rd1 rdf1 rd2 rdf2
      clear hu6 hb_rd
      replace ra := Row.below ra hst
      replace rb := Row.below rb hst
      replace rc := Row.below rc hst
      replace rd := Row.below rd hst
      replace hB := bthen hB hst
      clear hst
      have hst := aalloc v7 (.cells #[.int .i32 e0, .int .i32 e1, .int .i32 e2] 23)
      have re : Row .i32 23 (v7.alloc (.cells #[.int .i32 e0, .int .i32 e1, .int .i32 e2] 23)) v7.heap.size [e0, e1, e2] := heap_new _ _ _ rfl
      have lt_ra_re := Row.lt ra
      have lt_rb_re := Row.lt rb
      have lt_rc_re := Row.lt rc
      have lt_rd_re := Row.lt rd
      replace ra := Row.below ra hst
      replace rb := Row.below rb hst
      replace rc := Row.below rc hst
      replace rd := Row.below rd hst
      replace hB := bthen hB hst
      clear hst
      obtain ⟨u8, hu8⟩ : ∃ v, v7.alloc (.cells #[.int .i32 e0, .int .i32 e1, .int .i32 e2] 23) = v := ⟨_, rfl⟩
      rw [hu8] at ra rb rc rd re hB
      obtain ⟨b_re, hb_re⟩ : ∃ b, v7.heap.size = b := ⟨_, rfl⟩
      rw [hb_re] at re lt_ra_re lt_rb_re lt_rc_re lt_rd_re
      obtain ⟨ra0, ra1, ra2, raf0, raf1, raf2⟩ := ra.three
      obtain ⟨rb0, rb1, rb2, rbf0, rbf1, rbf2⟩ := rb.three
      obtain ⟨rc0, rc1, rc2, rcf0, rcf1, rcf2⟩ := rc.three
      obtain ⟨rd0, rd1, rd2, rdf0, rdf1, rdf2⟩ := rd.three
      obtain ⟨re0, re1, re2, ref0, ref1, ref2⟩ := re.three
      replace ra := hid ra
      replace rb := hid rb
      replace rc := hid rc
      replace rd := hid rd
      replace re := hid re
      go_wp2_with fail
      refine (k6.out _).mono ?_
      rintro e v9 ⟨rfl, hst⟩
      rw [hV6.out]
      replace ra := ra.out
      replace rb := rb.out
      replace rc := rc.out
      replace rd := rd.out
      replace re := re.out
      clear ra0 raf0 ra1 raf1 ra2 raf2 rb0 rbf0 rb1 rbf1 rb2 rbf2 rc0 rcf0 rc1 rcf1 rc2 rcf2 rd0 rdf0 rd1 rdf1 rd2 rdf2 re0 ref0 re1 ref1 re2 ref2
      clear hu8 hb_re
      replace ra := Row.below ra hst
      replace rb := Row.below rb hst
      replace rc := Row.below rc hst
      replace rd := Row.below rd hst
      replace re := Row.below re hst
      replace hB := bthen hB hst
      clear hst
      have hst := aalloc v9 (.cells #[.int .i32 g0, .int .i32 g1, .int .i32 g2] 23)
      have rf : Row .i32 23 (v9.alloc (.cells #[.int .i32 g0, .int .i32 g1, .int .i32 g2] 23)) v9.heap.size [g0, g1, g2] := heap_new _ _ _ rfl
      have lt_ra_rf := Row.lt ra
      have lt_rb_rf := Row.lt rb
      have lt_rc_rf := Row.lt rc
      have lt_rd_rf := Row.lt rd
      have lt_re_rf := Row.lt re
      replace ra := Row.below ra hst
      replace rb := Row.below rb hst
      replace rc := Row.below rc hst
      replace rd := Row.below rd hst
      replace re := Row.below re hst
      replace hB := bthen hB hst
      clear hst
      obtain ⟨u10, hu10⟩ : ∃ v, v9.alloc (.cells #[.int .i32 g0, .int .i32 g1, .int .i32 g2] 23) = v := ⟨_, rfl⟩
      rw [hu10] at ra rb rc rd re rf hB
      obtain ⟨b_rf, hb_rf⟩ : ∃ b, v9.heap.size = b := ⟨_, rfl⟩
      rw [hb_rf] at rf lt_ra_rf lt_rb_rf lt_rc_rf lt_rd_rf lt_re_rf
      obtain ⟨ra0, ra1, ra2, raf0, raf1, raf2⟩ := ra.three
      obtain ⟨rb0, rb1, rb2, rbf0, rbf1, rbf2⟩ := rb.three
      obtain ⟨rc0, rc1, rc2, rcf0, rcf1, rcf2⟩ := rc.three
      obtain ⟨rd0, rd1, rd2, rdf0, rdf1, rdf2⟩ := rd.three
      obtain ⟨re0, re1, re2, ref0, ref1, ref2⟩ := re.three
      obtain ⟨rf0, rf1, rf2, rff0, rff1, rff2⟩ := rf.three
      replace ra := hid ra
      replace rb := hid rb
      replace rc := hid rc
      replace rd := hid rd
      replace re := hid re
      replace rf := hid rf
      go_wp2_with fail
      refine (knows09_any _).mono ?_
      rintro e v9 ⟨rfl, hst⟩
      replace hB := bthen hB hst
      go_wp2_with fail
      go_ret
      exact ⟨rfl, hB⟩
  · rcases hy with hy | hy
    · obtain ⟨w, hW, hB, hN, ra, rb⟩ := rows2 W 23 23 a0_0 a0_1 a0_2 a1_0 a1_1 a1_2
      have k1 := hid (fun (v : World) => vdot_any a0_0 a0_1 a0_2 a1_0 a1_1 a1_2 v (b32_of w0_0) (b32_of w0_1) (b32_of w0_2) (b32_of w1_0) (b32_of w1_1) (b32_of w1_2))
      have k2 := hid (fun (v : World) => vdot_any a1_0 a1_1 a1_2 a0_0 a0_1 a0_2 v (b32_of w1_0) (b32_of w1_1) (b32_of w1_2) (b32_of w0_0) (b32_of w0_1) (b32_of w0_2))
      have k3 := hid (fun (v : World) => vcross_any a0_0 a0_1 a0_2 a1_0 a1_1 a1_2 v (b32_of w0_0) (b32_of w0_1) (b32_of w0_2) (b32_of w1_0) (b32_of w1_1) (b32_of w1_2))
      have k4 := hid (fun (v : World) => vcross_any a1_0 a1_1 a1_2 a0_0 a0_1 a0_2 v (b32_of w1_0) (b32_of w1_1) (b32_of w1_2) (b32_of w0_0) (b32_of w0_1) (b32_of w0_2))
      have k5 := hid (fun (v : World) => vadd_any a0_0 a0_1 a0_2 a1_0 a1_1 a1_2 v (b32_of w0_0) (b32_of w0_1) (b32_of w0_2) (b32_of w1_0) (b32_of w1_1) (b32_of w1_2))
      obtain ⟨j0, j1, j2, q0, q1, q2, m, n, hV3, hV4, hmn, hm, hn⟩ := hx
      obtain ⟨hV5, f0, f1, f2, hV6⟩ := hy
      have k6 := hid (fun (v : World) => vsub_any (a0_0 + a1_0) (a0_1 + a1_1) (a0_2 + a1_2) a1_0 a1_1 a1_2 v f0 f1 f2 (b32_of w1_0) (b32_of w1_1) (b32_of w1_2))
      obtain ⟨d0, d1, hV1⟩ := clamp_form (dotN a0_0 a0_1 a0_2 a1_0 a1_1 a1_2)
      replace hV1 := hid hV1
      have hV2 := hid (dot_comm a0_0 a0_1 a0_2 a1_0 a1_1 a1_2)
      replace hV3 := hid hV3
      replace hV4 := hid hV4
      replace hV5 := hid hV5
      replace hV6 := hid hV6
      have bd0 := b32_of w0_0
      have be0 := b32_of w1_0
      have bd1 := b32_of w0_1
      have be1 := b32_of w1_1
      have bd2 := b32_of w0_2
      have be2 := b32_of w1_2
      unfold B32 at bd0 bd1 bd2 be0 be1 be2 f0 f1 f2
      clear w0_0 w0_1 w0_2 w1_0 w1_1 w1_2
      go_enter Try.func6, Try.ntmps6
      obtain ⟨ra0, ra1, ra2, raf0, raf1, raf2⟩ := ra.three
      obtain ⟨rb0, rb1, rb2, rbf0, rbf1, rbf2⟩ := rb.three
      replace ra := hid ra
      replace rb := hid rb
      go_wp2_with fail
      refine (k1.out _).mono ?_
      rintro e v1 ⟨rfl, hst⟩
      rw [hV1.out]
      replace ra := ra.out
      replace rb := rb.out
      clear ra0 raf0 ra1 raf1 ra2 raf2 rb0 rbf0 rb1 rbf1 rb2 rbf2
      clear hW
      replace ra := Row.below ra hst
      replace rb := Row.below rb hst
      replace hB := bthen hB hst
      clear hst
      obtain ⟨ra0, ra1, ra2, raf0, raf1, raf2⟩ := ra.three
      obtain ⟨rb0, rb1, rb2, rbf0, rbf1, rbf2⟩ := rb.three
      replace ra := hid ra
      replace rb := hid rb
      go_wp2_with fail
      refine (k2.out _).mono ?_
      rintro e v2 ⟨rfl, hst⟩
      rw [hV2.out, hV1.out]
      replace ra := ra.out
      replace rb := rb.out
      clear ra0 raf0 ra1 raf1 ra2 raf2 rb0 rbf0 rb1 rbf1 rb2 rbf2
      replace ra := Row.below ra hst
      replace rb := Row.below rb hst
      replace hB := bthen hB hst
      clear hst
      obtain ⟨ra0, ra1, ra2, raf0, raf1, raf2⟩ := ra.three
      obtain ⟨rb0, rb1, rb2, rbf0, rbf1, rbf2⟩ := rb.three
      replace ra := hid ra
      replace rb := hid rb
      go_wp2_with fail
      refine (k3.out _).mono ?_
      rintro e v3 ⟨rfl, hst⟩
      rw [hV3.out]
      replace ra := ra.out
      replace rb := rb.out
      clear ra0 raf0 ra1 raf1 ra2 raf2 rb0 rbf0 rb1 rbf1 rb2 rbf2
      replace ra := Row.below ra hst
      replace rb := Row.below rb hst
      replace hB := bthen hB hst
      clear hst
      have hst := aalloc v3 (.cells #[.int .i32 j0, .int .i32 j1, .int .i32 j2] 23)
      have rc : Row .i32 23 (v3.alloc (.cells #[.int .i32 j0, .int .i32 j1, .int .i32 j2] 23)) v3.heap.size [j0, j1, j2] := heap_new _ _ _ rfl
      have lt_ra_rc := Row.lt ra
      have lt_rb_rc := Row.lt rb
      replace ra := Row.below ra hst
      replace rb := Row.below rb hst
      replace hB := bthen hB hst
      clear hst
      obtain ⟨u4, hu4⟩ : ∃ v, v3.alloc (.cells #[.int .i32 j0, .int .i32 j1, .int .i32 j2] 23) = v := ⟨_, rfl⟩
      rw [hu4] at ra rb rc hB
      obtain ⟨b_rc, hb_rc⟩ : ∃ b, v3.heap.size = b := ⟨_, rfl⟩
      rw [hb_rc] at rc lt_ra_rc lt_rb_rc
      obtain ⟨ra0, ra1, ra2, raf0, raf1, raf2⟩ := ra.three
      obtain ⟨rb0, rb1, rb2, rbf0, rbf1, rbf2⟩ := rb.three
      obtain ⟨rc0, rc1, rc2, rcf0, rcf1, rcf2⟩ := rc.three
      replace ra := hid ra
      replace rb := hid rb
      replace rc := hid rc
      go_wp2_with fail
      refine (k4.out _).mono ?_
      rintro e v5 ⟨rfl, hst⟩
      rw [hV4.out]
      replace ra := ra.out
      replace rb := rb.out
      replace rc := rc.out
      clear ra0 raf0 ra1 raf1 ra2 raf2 rb0 rbf0 rb1 rbf1 rb2 rbf2 rc0 rcf0 rc1 rcf1 rc2 rcf2
      clear hu4 hb_rc
      replace ra := Row.below ra hst
      replace rb := Row.below rb hst
      replace rc := Row.below rc hst
      replace hB := bthen hB hst
      clear hst
      have hst := aalloc v5 (.cells #[.int .i32 q0, .int .i32 q1, .int .i32 q2] 23)
      have rd : Row .i32 23 (v5.alloc (.cells #[.int .i32 q0, .int .i32 q1, .int .i32 q2] 23)) v5.heap.size [q0, q1, q2] := heap_new _ _ _ rfl
      have lt_ra_rd := Row.lt ra
      have lt_rb_rd := Row.lt rb
      have lt_rc_rd := Row.lt rc
      replace ra := Row.below ra hst
      replace rb := Row.below rb hst
      replace rc := Row.below rc hst
      replace hB := bthen hB hst
      clear hst
      obtain ⟨u6, hu6⟩ : ∃ v, v5.alloc (.cells #[.int .i32 q0, .int .i32 q1, .int .i32 q2] 23) = v := ⟨_, rfl⟩
      rw [hu6] at ra rb rc rd hB
      obtain ⟨b_rd, hb_rd⟩ : ∃ b, v5.heap.size = b := ⟨_, rfl⟩
      rw [hb_rd] at rd lt_ra_rd lt_rb_rd lt_rc_rd
      obtain ⟨ra0, ra1, ra2, raf0, raf1, raf2⟩ := ra.three
      obtain ⟨rb0, rb1, rb2, rbf0, rbf1, rbf2⟩ := rb.three
      obtain ⟨rc0, rc1, rc2, rcf0, rcf1, rcf2⟩ := rc.three
      obtain ⟨rd0, rd1, rd2, rdf0, rdf1, rdf2⟩ := rd.three
      replace ra := hid ra
      replace rb := hid rb
      replace rc := hid rc
      replace rd := hid rd
      go_wp2_with fail
      refine (k5.out _).mono ?_
      rintro e v7 ⟨rfl, hst⟩
      rw [hV5.out]
      replace ra := ra.out
      replace rb := rb.out
      replace rc := rc.out
      replace rd := rd.out
      clear ra0 raf0 ra1 raf1 ra2 raf2 rb0 rbf0 rb1 rbf1 rb2 rbf2 rc0 rcf0 rc1 rcf1 rc2 rcf2 rd0 rdf0 rd1 rdf1 rd2 rdf2
      clear hu6 hb_rd
      replace ra := Row.below ra hst
      replace rb := Row.below rb hst
      replace rc := Row.below rc hst
      replace rd := Row.below rd hst
      replace hB := bthen hB hst
      clear hst
      have hst := aalloc v7 (.cells #[.int .i32 (a0_0 + a1_0), .int .i32 (a0_1 + a1_1), .int .i32 (a0_2 + a1_2)] 23)
      have re : Row .i32 23 (v7.alloc (.cells #[.int .i32 (a0_0 + a1_0), .int .i32 (a0_1 + a1_1), .int .i32 (a0_2 + a1_2)] 23)) v7.heap.size [(a0_0 + a1_0), (a0_1 + a1_1), (a0_2 + a1_2)] := heap_new _ _ _ rfl
      have lt_ra_re := Row.lt ra
      have lt_rb_re := Row.lt rb
      have lt_rc_re := Row.lt rc
      have lt_rd_re := Row.lt rd
      replace ra := Row.below ra hst
      replace rb := Row.below rb hst
      replace rc := Row.below rc hst
      replace rd := Row.below rd hst
      replace hB := bthen hB hst
      clear hst
      obtain ⟨u8, hu8⟩ : ∃ v, v7.alloc (.cells #[.int .i32 (a0_0 + a1_0), .int .i32 (a0_1 + a1_1), .int .i32 (a0_2 + a1_2)] 23) = v := ⟨_, rfl⟩
      rw [hu8] at ra rb rc rd re hB
      obtain ⟨b_re, hb_re⟩ : ∃ b, v7.heap.size = b := ⟨_, rfl⟩
      rw [hb_re] at re lt_ra_re lt_rb_re lt_rc_re lt_rd_re
      obtain ⟨ra0, ra1, ra2, raf0, raf1, raf2⟩ := ra.three
      obtain ⟨rb0, rb1, rb2, rbf0, rbf1, rbf2⟩ := rb.three
      obtain ⟨rc0, rc1, rc2, rcf0, rcf1, rcf2⟩ := rc.three
      obtain ⟨rd0, rd1, rd2, rdf0, rdf1, rdf2⟩ := rd.three
      obtain ⟨re0, re1, re2, ref0, ref1, ref2⟩ := re.three
      replace ra := hid ra
      replace rb := hid rb
      replace rc := hid rc
      replace rd := hid rd
      replace re := hid re
      go_wp2_with fail
      refine (k6.out _).mono ?_
      rintro e v9 ⟨rfl, hst⟩
      rw [hV6.out]
      replace ra := ra.out
      replace rb := rb.out
      replace rc := rc.out
      replace rd := rd.out
      replace re := re.out
      clear ra0 raf0 ra1 raf1 ra2 raf2 rb0 rbf0 rb1 rbf1 rb2 rbf2 rc0 rcf0 rc1 rcf1 rc2 rcf2 rd0 rdf0 rd1 rdf1 rd2 rdf2 re0 ref0 re1 ref1 re2 ref2
      clear hu8 hb_re
      replace ra := Row.below ra hst
      replace rb := Row.below rb hst
      replace rc := Row.below rc hst
      replace rd := Row.below rd hst
      replace re := Row.below re hst
      replace hB := bthen hB hst
      clear hst
      have hst := aalloc v9 (.cells #[.int .i32 a0_0, .int .i32 a0_1, .int .i32 a0_2] 23)
      have rf : Row .i32 23 (v9.alloc (.cells #[.int .i32 a0_0, .int .i32 a0_1, .int .i32 a0_2] 23)) v9.heap.size [a0_0, a0_1, a0_2] := heap_new _ _ _ rfl
      have lt_ra_rf := Row.lt ra
      have lt_rb_rf := Row.lt rb
      have lt_rc_rf := Row.lt rc
      have lt_rd_rf := Row.lt rd
      have lt_re_rf := Row.lt re
      replace ra := Row.below ra hst
      replace rb := Row.below rb hst
      replace rc := Row.below rc hst
      replace rd := Row.below rd hst
      replace re := Row.below re hst
      replace hB := bthen hB hst
      clear hst
      obtain ⟨u10, hu10⟩ : ∃ v, v9.alloc (.cells #[.int .i32 a0_0, .int .i32 a0_1, .int .i32 a0_2] 23) = v := ⟨_, rfl⟩
      rw [hu10] at ra rb rc rd re rf hB
      obtain ⟨b_rf, hb_rf⟩ : ∃ b, v9.heap.size = b := ⟨_, rfl⟩
      rw [hb_rf] at rf lt_ra_rf lt_rb_rf lt_rc_rf lt_rd_rf lt_re_rf
      obtain ⟨ra0, ra1, ra2, raf0, raf1, raf2⟩ := ra.three
      obtain ⟨rb0, rb1, rb2, rbf0, rbf1, rbf2⟩ := rb.three
      obtain ⟨rc0, rc1, rc2, rcf0, rcf1, rcf2⟩ := rc.three
      obtain ⟨rd0, rd1, rd2, rdf0, rdf1, rdf2⟩ := rd.three
      obtain ⟨re0, re1, re2, ref0, ref1, ref2⟩ := re.three
      obtain ⟨rf0, rf1, rf2, rff0, rff1, rff2⟩ := rf.three
      replace ra := hid ra
      replace rb := hid rb
      replace rc := hid rc
      replace rd := hid rd
      replace re := hid re
      replace rf := hid rf
      go_wp2_with fail
      refine (knows09_any _).mono ?_
      rintro e v9 ⟨rfl, hst⟩
      replace hB := bthen hB hst
      go_wp2_with fail
      go_ret
      exact ⟨rfl, hB⟩
    · obtain ⟨w, hW, hB, hN, ra, rb⟩ := rows2 W 23 23 a0_0 a0_1 a0_2 a1_0 a1_1 a1_2
      have k1 := hid (fun (v : World) => vdot_any a0_0 a0_1 a0_2 a1_0 a1_1 a1_2 v (b32_of w0_0) (b32_of w0_1) (b32_of w0_2) (b32_of w1_0) (b32_of w1_1) (b32_of w1_2))
      have k2 := hid (fun (v : World) => vdot_any a1_0 a1_1 a1_2 a0_0 a0_1 a0_2 v (b32_of w1_0) (b32_of w1_1) (b32_of w1_2) (b32_of w0_0) (b32_of w0_1) (b32_of w0_2))
      have k3 := hid (fun (v : World) => vcross_any a0_0 a0_1 a0_2 a1_0 a1_1 a1_2 v (b32_of w0_0) (b32_of w0_1) (b32_of w0_2) (b32_of w1_0) (b32_of w1_1) (b32_of w1_2))
      have k4 := hid (fun (v : World) => vcross_any a1_0 a1_1 a1_2 a0_0 a0_1 a0_2 v (b32_of w1_0) (b32_of w1_1) (b32_of w1_2) (b32_of w0_0) (b32_of w0_1) (b32_of w0_2))
      have k5 := hid (fun (v : World) => vadd_any a0_0 a0_1 a0_2 a1_0 a1_1 a1_2 v (b32_of w0_0) (b32_of w0_1) (b32_of w0_2) (b32_of w1_0) (b32_of w1_1) (b32_of w1_2))
      obtain ⟨j0, j1, j2, q0, q1, q2, m, n, hV3, hV4, hmn, hm, hn⟩ := hx
      obtain ⟨e0, e1, e2, g0, g1, g2, mm, nn, hV5, hmm, hmm3, f0, f1, f2, hV6⟩ := hy
      have k6 := hid (fun (v : World) => vsub_any e0 e1 e2 a1_0 a1_1 a1_2 v f0 f1 f2 (b32_of w1_0) (b32_of w1_1) (b32_of w1_2))
      obtain ⟨d0, d1, hV1⟩ := clamp_form (dotN a0_0 a0_1 a0_2 a1_0 a1_1 a1_2)
      replace hV1 := hid hV1
      have hV2 := hid (dot_comm a0_0 a0_1 a0_2 a1_0 a1_1 a1_2)
      replace hV3 := hid hV3
      replace hV4 := hid hV4
      replace hV5 := hid hV5
      replace hV6 := hid hV6
      have bd0 := b32_of w0_0
      have be0 := b32_of w1_0
      have bd1 := b32_of w0_1
      have be1 := b32_of w1_1
      have bd2 := b32_of w0_2
      have be2 := b32_of w1_2
      unfold B32 at bd0 bd1 bd2 be0 be1 be2 f0 f1 f2
      clear w0_0 w0_1 w0_2 w1_0 w1_1 w1_2
      go_enter Try.func6, Try.ntmps6
      obtain ⟨ra0, ra1, ra2, raf0, raf1, raf2⟩ := ra.three
      obtain ⟨rb0, rb1, rb2, rbf0, rbf1, rbf2⟩ := rb.three
      replace ra := hid ra
      replace rb := hid rb
      go_wp2_with fail
      refine (k1.out _).mono ?_
      rintro e v1 ⟨rfl, hst⟩
      rw [hV1.out]
      replace ra := ra.out
      replace rb := rb.out
      clear ra0 raf0 ra1 raf1 ra2 raf2 rb0 rbf0 rb1 rbf1 rb2 rbf2
      clear hW
      replace ra := Row.below ra hst
      replace rb := Row.below rb hst
      replace hB := bthen hB hst
      clear hst
      obtain ⟨ra0, ra1, ra2, raf0, raf1, raf2⟩ := ra.three
      obtain ⟨rb0, rb1, rb2, rbf0, rbf1, rbf2⟩ := rb.three
      replace ra := hid ra
      replace rb := hid rb
      go_wp2_with fail
      refine (k2.out _).mono ?_
      rintro e v2 ⟨rfl, hst⟩
      rw [hV2.out, hV1.out]
      replace ra := ra.out
      replace rb := rb.out
      clear ra0 raf0 ra1 raf1 ra2 raf2 rb0 rbf0 rb1 rbf1 rb2 rbf2
      replace ra := Row.below ra hst
      replace rb := Row.below rb hst
      replace hB := bthen hB hst
      clear hst
      obtain ⟨ra0, ra1, ra2, raf0, raf1, raf2⟩ := ra.three
      obtain ⟨rb0, rb1, rb2, rbf0, rbf1, rbf2⟩ := rb.three
      replace ra := hid ra
      replace rb := hid rb
      go_wp2_with fail
      refine (k3.out _).mono ?_
      rintro e v3 ⟨rfl, hst⟩
      rw [hV3.out]
      replace ra := ra.out
      replace rb := rb.out
      clear ra0 raf0 ra1 raf1 ra2 raf2 rb0 rbf0 rb1 rbf1 rb2 rbf2
      replace ra := Row.below ra hst
      replace rb := Row.below rb hst
      replace hB := bthen hB hst
      clear hst
      have hst := aalloc v3 (.cells #[.int .i32 j0, .int .i32 j1, .int .i32 j2] 23)
      have rc : Row .i32 23 (v3.alloc (.cells #[.int .i32 j0, .int .i32 j1, .int .i32 j2] 23)) v3.heap.size [j0, j1, j2] := heap_new _ _ _ rfl
      have lt_ra_rc := Row.lt ra
      have lt_rb_rc := Row.lt rb
      replace ra := Row.below ra hst
      replace rb := Row.below rb hst
      replace hB := bthen hB hst
      clear hst
      obtain ⟨u4, hu4⟩ : ∃ v, v3.alloc (.cells #[.int .i32 j0, .int .i32 j1, .int .i32 j2] 23) = v := ⟨_, rfl⟩
      rw [hu4] at ra rb rc hB
      obtain ⟨b_rc, hb_rc⟩ : ∃ b, v3.heap.size = b := ⟨_, rfl⟩
      rw [hb_rc] at rc lt_ra_rc lt_rb_rc
      obtain ⟨ra0, ra1, ra2, raf0, raf1, raf2⟩ := ra.three
      obtain ⟨rb0, rb1, rb2, rbf0, rbf1, rbf2⟩ := rb.three
      obtain ⟨rc0, rc1, rc2, rcf0, rcf1, rcf2⟩ := rc.three
      replace ra := hid ra
      replace rb := hid rb
      replace rc := hid rc
      go_wp2_with fail
      refine (k4.out _).mono ?_
      rintro e v5 ⟨rfl, hst⟩
      rw [hV4.out]
      replace ra := ra.out
      replace rb := rb.out
      replace rc := rc.out
      clear ra0 raf0 ra1 raf1 ra2 raf2 rb0 rbf0 rb1 rbf1 rb2 rbf2 rc0 rcf0 rc1 rcf1 rc2 rcf2
      clear hu4 hb_rc
      replace ra := Row.below ra hst
      replace rb := Row.below rb hst
      replace rc := Row.below rc hst
      replace hB := bthen hB hst
      clear hst
      have hst := aalloc v5 (.cells #[.int .i32 q0, .int .i32 q1, .int .i32 q2] 23)
      have rd : Row .i32 23 (v5.alloc (.cells #[.int .i32 q0, .int .i32 q1, .int .i32 q2] 23)) v5.heap.size [q0, q1, q2] := heap_new _ _ _ rfl
      have lt_ra_rd := Row.lt ra
      have lt_rb_rd := Row.lt rb
      have lt_rc_rd := Row.lt rc
      replace ra := Row.below ra hst
      replace rb := Row.below rb hst
      replace rc := Row.below rc hst
      replace hB := bthen hB hst
      clear hst
      obtain ⟨u6, hu6⟩ : ∃ v, v5.alloc (.cells #[.int .i32 q0, .int .i32 q1, .int .i32 q2] 23) = v := ⟨_, rfl⟩
      rw [hu6] at ra rb rc rd hB
      obtain ⟨b_rd, hb_rd⟩ : ∃ b, v5.heap.size = b := ⟨_, rfl⟩
      rw [hb_rd] at rd lt_ra_rd lt_rb_rd lt_rc_rd
      obtain ⟨ra0, ra1, ra2, raf0, raf1, raf2⟩ := ra.three
      obtain ⟨rb0, rb1, rb2, rbf0, rbf1, rbf2⟩ := rb.three
      obtain ⟨rc0, rc1, rc2, rcf0, rcf1, rcf2⟩ := rc.three
      obtain ⟨rd0, rd1, rd2, rdf0, rdf1, rdf2⟩ := rd.three
      replace ra := hid ra
      replace rb := hid rb
      replace rc := hid rc
      replace rd := hid rd
      go_wp2_with fail
      refine (k5.out _).mono ?_
      rintro e v7 ⟨rfl, hst⟩
      rw [hV5.out]
      replace ra := ra.out
      replace rb := rb.out
      replace rc := rc.out
      replace rd := rd.out
      clear ra0 raf0 ra1 raf1 ra2 raf2 rb0 rbf0 rb1 rbf1 rb2 rbf2 rc0 rcf0 rc1 rcf1 rc2 rcf2 rd0 rdf0 rd1 rdf1 rd2 rdf2
      clear hu6 hb_rd
      replace ra := Row.below ra hst
      replace rb := Row.below rb hst
      replace rc := Row.below rc hst
      replace rd := Row.below rd hst
      replace hB := bthen hB hst
      clear hst
      have hst := aalloc v7 (.cells #[.int .i32 e0, .int .i32 e1, .int .i32 e2] 23)
      have re : Row .i32 23 (v7.alloc (.cells #[.int .i32 e0, .int .i32 e1, .int .i32 e2] 23)) v7.heap.size [e0, e1, e2] := heap_new _ _ _ rfl
      have lt_ra_re := Row.lt ra
      have lt_rb_re := Row.lt rb
      have lt_rc_re := Row.lt rc
      have lt_rd_re := Row.lt rd
      replace ra := Row.below ra hst
      replace rb := Row.below rb hst
      replace rc := Row.below rc hst
      replace rd := Row.below rd hst
      replace hB := bthen hB hst
      clear hst
      obtain ⟨u8, hu8⟩ : ∃ v, v7.alloc (.cells #[.int .i32 e0, .int .i32 e1, .int .i32 e2] 23) = v := ⟨_, rfl⟩
      rw [hu8] at ra rb rc rd re hB
      obtain ⟨b_re, hb_re⟩ : ∃ b, v7.heap.size = b := ⟨_, rfl⟩
      rw [hb_re] at re lt_ra_re lt_rb_re lt_rc_re lt_rd_re
      obtain ⟨ra0, ra1, ra2, raf0, raf1, raf2⟩ := ra.three
      obtain ⟨rb0, rb1, rb2, rbf0, rbf1, rbf2⟩ := rb.three
      obtain ⟨rc0, rc1, rc2, rcf0, rcf1, rcf2⟩ := rc.three
      obtain ⟨rd0, rd1, rd2, rdf0, rdf1, rdf2⟩ := rd.three
      obtain ⟨re0, re1, re2, ref0, ref1, ref2⟩ := re.three
      replace ra := hid ra
      replace rb := hid rb
      replace rc := hid rc
      replace rd := hid rd
      replace re := hid re
      go_wp2_with fail
      refine (k6.out _).mono ?_
      rintro e v9 ⟨rfl, hst⟩
      rw [hV6.out]
      replace ra := ra.out
      replace rb := rb.out
      replace rc := rc.out
      replace rd := rd.out
      replace re := re.out
      clear ra0 raf0 ra1 raf1 ra2 raf2 rb0 rbf0 rb1 rbf1 rb2 rbf2 rc0 rcf0 rc1 rcf1 rc2 rcf2 rd0 rdf0 rd1 rdf1 rd2 rdf2 re0 ref0 re1 ref1 re2 ref2
      clear hu8 hb_re
      replace ra := Row.below ra hst
      replace rb := Row.below rb hst
      replace rc := Row.below rc hst
      replace rd := Row.below rd hst
      replace re := Row.below re hst
      replace hB := bthen hB hst
      clear hst
      have hst := aalloc v9 (.cells #[.int .i32 g0, .int .i32 g1, .int .i32 g2] 23)
      have rf : Row .i32 23 (v9.alloc (.cells #[.int .i32 g0, .int .i32 g1, .int .i32 g2] 23)) v9.heap.size [g0, g1, g2] := heap_new _ _ _ rfl
      have lt_ra_rf := Row.lt ra
      have lt_rb_rf := Row.lt rb
      have lt_rc_rf := Row.lt rc
      have lt_rd_rf := Row.lt rd
      have lt_re_rf := Row.lt re
      replace ra := Row.below ra hst
      replace rb := Row.below rb hst
      replace rc := Row.below rc hst
      replace rd := Row.below rd hst
      replace re := Row.below re hst
      replace hB := bthen hB hst
      clear hst
      obtain ⟨u10, hu10⟩ : ∃ v, v9.alloc (.cells #[.int .i32 g0, .int .i32 g1, .int .i32 g2] 23) = v := ⟨_, rfl⟩
      rw [hu10] at ra rb rc rd re rf hB
      obtain ⟨b_rf, hb_rf⟩ : ∃ b, v9.heap.size = b := ⟨_, rfl⟩
      rw [hb_rf] at rf lt_ra_rf lt_rb_rf lt_rc_rf lt_rd_rf lt_re_rf
      obtain ⟨ra0, ra1, ra2, raf0, raf1, raf2⟩ := ra.three
      obtain ⟨rb0, rb1, rb2, rbf0, rbf1, rbf2⟩ := rb.three
      obtain ⟨rc0, rc1, rc2, rcf0, rcf1, rcf2⟩ := rc.three
      obtain ⟨rd0, rd1, rd2, rdf0, rdf1, rdf2⟩ := rd.three
      obtain ⟨re0, re1, re2, ref0, ref1, ref2⟩ := re.three
      obtain ⟨rf0, rf1, rf2, rff0, rff1, rff2⟩ := rf.three
      replace ra := hid ra
      replace rb := hid rb
      replace rc := hid rc
      replace rd := hid rd
      replace re := hid re
      replace rf := hid rf
      go_wp2_with fail
      refine (knows09_any _).mono ?_
      rintro e v9 ⟨rfl, hst⟩
      replace hB := bthen hB hst
      go_wp2_with fail
      go_ret
      exact ⟨rfl, hB⟩


end Go.Proofs.Yticjpdojiiepeaa
