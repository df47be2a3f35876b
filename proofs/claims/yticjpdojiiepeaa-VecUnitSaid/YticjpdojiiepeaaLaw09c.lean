/- The law VecUnit, walked: it returns true. -/
import Derived.Test.YticjpdojiiepeaaLaw09
import Derived.Test.YticjpdojiiepeaaVecMath
namespace Go.Proofs.Yticjpdojiiepeaa
open Go.ChangeShapes Go.WideShapes Go.ChangeAt Go.RowKit
set_option linter.unusedVariables false

theorem rows1 (w : World) (T1 : TypeId) (x y z : Int) : ∃ W, w.alloc (.cells #[.int .i32 x, .int .i32 y, .int .i32 z] T1) = W ∧ Below w.heap.size w W ∧ w.heap.size + 1 ≤ W.heap.size ∧ Row .i32 T1 W w.heap.size [x, y, z] :=
  ⟨_, rfl, (Below.refl _ _).alloc (Nat.le_refl _) _, by simp, heap_new _ _ _ rfl⟩

set_option maxRecDepth 100000 in
set_option maxHeartbeats 4000000 in
theorem law_VecUnit (a0_0 a0_1 a0_2 : Int) (W : World) (w0_0 : (Lit.int .i32 a0_0).wf = true) (w0_1 : (Lit.int .i32 a0_1).wf = true) (w0_2 : (Lit.int .i32 a0_2).wf = true) :
    Calls Try.prog 5 #[.agg #[.int .i32 a0_0, .int .i32 a0_1, .int .i32 a0_2]] W fun e w' => e = .returned (.bool true) ∧ Below W.heap.size W w' := by
  have p0 := b32_of w0_0
  have p1 := b32_of w0_1
  have p2 := b32_of w0_2
  clear w0_0 w0_1 w0_2
  by_cases hz : a0_0 = 0 ∧ a0_1 = 0 ∧ a0_2 = 0
  · obtain ⟨rfl, rfl, rfl⟩ := hz
    have k1 := hid (fun (v : World) => vunit_any 0 0 0 v p0 p1 p2)
    have hV1 := hid (unit_no (x := 0) (y := 0) (z := 0) ⟨rfl, rfl, rfl⟩)
    clear p0 p1 p2
    obtain ⟨w, hW, hB, hN, ra⟩ := rows1 W 23 0 0 0
    go_enter Try.func5, Try.ntmps5
    obtain ⟨ra0, ra1, ra2, raf0, raf1, raf2⟩ := ra.three
    replace ra := hid ra
    go_wp2_with fail
    refine (k1.out _).mono ?_
    rintro e v1 ⟨rfl, hst⟩
    rw [hV1.out]
    replace ra := ra.out
    clear ra0 raf0 ra1 raf1 ra2 raf2
    clear hW
    replace ra := Row.below ra hst
    replace hB := bthen hB hst
    clear hst
    have hst := aalloc v1 (.cells #[.int .i32 0, .int .i32 0, .int .i32 0] 23)
    have rc : Row .i32 23 (v1.alloc (.cells #[.int .i32 0, .int .i32 0, .int .i32 0] 23)) v1.heap.size [0, 0, 0] := heap_new _ _ _ rfl
    have lt_ra_rc := Row.lt ra
    replace ra := Row.below ra hst
    replace hB := bthen hB hst
    clear hst
    obtain ⟨u2, hu2⟩ : ∃ v, v1.alloc (.cells #[.int .i32 0, .int .i32 0, .int .i32 0] 23) = v := ⟨_, rfl⟩
    rw [hu2] at ra rc hB
    obtain ⟨b_rc, hb_rc⟩ : ∃ b, v1.heap.size = b := ⟨_, rfl⟩
    rw [hb_rc] at rc lt_ra_rc
    have rold := rc
    replace ra := Row.oth3 (g' := b_rc) ra (by omega) (.int .i32 0) (.int .i32 0) (.int .i32 0)
    replace rc := Row.set3 rc 0 0 0
    replace hB := below3 hB b_rc (.int .i32 0) (.int .i32 0) (.int .i32 0) (by omega)
    obtain ⟨u3, hu3⟩ : ∃ v, ((u2.setCell ⟨b_rc, 0, none⟩ (.int .i32 0)).setCell ⟨b_rc, 1, none⟩ (.int .i32 0)).setCell ⟨b_rc, 2, none⟩ (.int .i32 0) = v := ⟨_, rfl⟩
    rw [hu3] at ra rc hB
    obtain ⟨ra0, ra1, ra2, raf0, raf1, raf2⟩ := ra.three
    obtain ⟨rc0, rc1, rc2, rcf0, rcf1, rcf2⟩ := rc.three
    replace ra := hid ra
    replace rc := hid rc
    obtain ⟨o0, o1, o2, of0, of1, of2⟩ := rold.three
    replace rold := hid rold
    go_wp2_with fail
    refine (knows09_any _).mono ?_
    rintro e v9 ⟨rfl, hst⟩
    replace hB := bthen hB hst
    go_wp2_with fail
    go_ret
    exact ⟨rfl, hB⟩
  obtain ⟨qu, qv, qt, hV1, b0, b1, b2, s1, s2, g1, g2, g3, g4⟩ := unit_all a0_0 a0_1 a0_2 hz p0 p1 p2
  have k1 := hid (fun (v : World) => vunit_any a0_0 a0_1 a0_2 v p0 p1 p2)
  have hwf := hid (wf3 b0 b1 b2)
  obtain ⟨N, hN3⟩ : ∃ N, sqs [qu, qv, qt] 0 = N := ⟨_, rfl⟩
  have hsq := (sqs_three qu qv qt b0 b1 b2).1
  rw [hN3] at hsq
  rw [← hsq] at s1 s2
  clear hsq
  replace hV1 := hid hV1
  replace hN3 := hid hN3
  have hx : (a0_0 = 0 ∧ qu = 0) ∨ (a0_0 < 0 ∧ qu < 0) ∨ (a0_0 < 0 ∧ qu = 0) ∨ (0 < a0_0 ∧ qu = 0) ∨ (0 < a0_0 ∧ 0 < qu) := by omega
  have hy : (a0_0 = a0_1 ∧ qu = qv) ∨ ¬ a0_0 = a0_1 := by omega
  clear g1 g2 g3 g4 hz p0 p1 p2 b0 b1 b2
  rcases hx with ⟨rfl, rfl⟩ | ⟨hx1, hx2⟩ | ⟨hx1, rfl⟩ | ⟨hx1, rfl⟩ | ⟨hx1, hx2⟩
  · rcases hy with ⟨rfl, rfl⟩ | hy
    · obtain ⟨w, hW, hB, hN, ra⟩ := rows1 W 23 0 0 a0_2
      go_enter Try.func5, Try.ntmps5
      obtain ⟨ra0, ra1, ra2, raf0, raf1, raf2⟩ := ra.three
      replace ra := hid ra
      go_wp2_with fail
      refine (k1.out _).mono ?_
      rintro e v1 ⟨rfl, hst⟩
      rw [hV1.out]
      replace ra := ra.out
      clear ra0 raf0 ra1 raf1 ra2 raf2
      clear hW
      replace ra := Row.below ra hst
      replace hB := bthen hB hst
      clear hst
      have hst := aalloc v1 (.cells #[.int .i32 0, .int .i32 0, .int .i32 qt] 23)
      have rc : Row .i32 23 (v1.alloc (.cells #[.int .i32 0, .int .i32 0, .int .i32 qt] 23)) v1.heap.size [0, 0, qt] := heap_new _ _ _ rfl
      have lt_ra_rc := Row.lt ra
      replace ra := Row.below ra hst
      replace hB := bthen hB hst
      clear hst
      obtain ⟨u2, hu2⟩ : ∃ v, v1.alloc (.cells #[.int .i32 0, .int .i32 0, .int .i32 qt] 23) = v := ⟨_, rfl⟩
      rw [hu2] at ra rc hB
      obtain ⟨b_rc, hb_rc⟩ : ∃ b, v1.heap.size = b := ⟨_, rfl⟩
      rw [hb_rc] at rc lt_ra_rc
      have hs := sl_lit3 .i32 21 u2 0 0 qt
      have hst0 := aalloc u2 (.cells #[.int .i32 0, .int .i32 0, .int .i32 qt] 21)
      replace hs := hid hs
      obtain ⟨ra0, ra1, ra2, raf0, raf1, raf2⟩ := ra.three
      obtain ⟨rc0, rc1, rc2, rcf0, rcf1, rcf2⟩ := rc.three
      replace ra := hid ra
      replace rc := hid rc
      go_wp2_with fail
      refine (rsquares_any _ 3 [0, 0, qt] _ (by show 3 ≤ 1000; omega) hs.out.2.2.2.2 hwf.out).mono ?_
      rintro e v7 ⟨rfl, mk, rfl⟩
      rw [hN3.out]
      replace ra := ra.out
      replace rc := rc.out
      clear ra0 raf0 ra1 raf1 ra2 raf2 rc0 rcf0 rc1 rcf1 rc2 rcf2
      clear hu2 hb_rc
      replace ra := (ra.below hst0).drewN mk
      replace rc := (rc.below hst0).drewN mk
      replace hB := bdrewN (bthen hB hst0) mk
      clear hs
      obtain ⟨ra0, ra1, ra2, raf0, raf1, raf2⟩ := ra.three
      obtain ⟨rc0, rc1, rc2, rcf0, rcf1, rcf2⟩ := rc.three
      replace ra := hid ra
      replace rc := hid rc
      go_wp2_with fail
      go_ret
      exact ⟨rfl, hB⟩
    · obtain ⟨w, hW, hB, hN, ra⟩ := rows1 W 23 0 a0_1 a0_2
      go_enter Try.func5, Try.ntmps5
      obtain ⟨ra0, ra1, ra2, raf0, raf1, raf2⟩ := ra.three
      replace ra := hid ra
      go_wp2_with fail
      refine (k1.out _).mono ?_
      rintro e v1 ⟨rfl, hst⟩
      rw [hV1.out]
      replace ra := ra.out
      clear ra0 raf0 ra1 raf1 ra2 raf2
      clear hW
      replace ra := Row.below ra hst
      replace hB := bthen hB hst
      clear hst
      have hst := aalloc v1 (.cells #[.int .i32 0, .int .i32 qv, .int .i32 qt] 23)
      have rc : Row .i32 23 (v1.alloc (.cells #[.int .i32 0, .int .i32 qv, .int .i32 qt] 23)) v1.heap.size [0, qv, qt] := heap_new _ _ _ rfl
      have lt_ra_rc := Row.lt ra
      replace ra := Row.below ra hst
      replace hB := bthen hB hst
      clear hst
      obtain ⟨u2, hu2⟩ : ∃ v, v1.alloc (.cells #[.int .i32 0, .int .i32 qv, .int .i32 qt] 23) = v := ⟨_, rfl⟩
      rw [hu2] at ra rc hB
      obtain ⟨b_rc, hb_rc⟩ : ∃ b, v1.heap.size = b := ⟨_, rfl⟩
      rw [hb_rc] at rc lt_ra_rc
      have hs := sl_lit3 .i32 21 u2 0 qv qt
      have hst0 := aalloc u2 (.cells #[.int .i32 0, .int .i32 qv, .int .i32 qt] 21)
      replace hs := hid hs
      obtain ⟨ra0, ra1, ra2, raf0, raf1, raf2⟩ := ra.three
      obtain ⟨rc0, rc1, rc2, rcf0, rcf1, rcf2⟩ := rc.three
      replace ra := hid ra
      replace rc := hid rc
      go_wp2_with fail
      refine (rsquares_any _ 3 [0, qv, qt] _ (by show 3 ≤ 1000; omega) hs.out.2.2.2.2 hwf.out).mono ?_
      rintro e v7 ⟨rfl, mk, rfl⟩
      rw [hN3.out]
      replace ra := ra.out
      replace rc := rc.out
      clear ra0 raf0 ra1 raf1 ra2 raf2 rc0 rcf0 rc1 rcf1 rc2 rcf2
      clear hu2 hb_rc
      replace ra := (ra.below hst0).drewN mk
      replace rc := (rc.below hst0).drewN mk
      replace hB := bdrewN (bthen hB hst0) mk
      clear hs
      obtain ⟨ra0, ra1, ra2, raf0, raf1, raf2⟩ := ra.three
      obtain ⟨rc0, rc1, rc2, rcf0, rcf1, rcf2⟩ := rc.three
      replace ra := hid ra
      replace rc := hid rc
      go_wp2_with fail
      go_ret
      exact ⟨rfl, hB⟩
  · rcases hy with ⟨rfl, rfl⟩ | hy
    · obtain ⟨w, hW, hB, hN, ra⟩ := rows1 W 23 a0_0 a0_0 a0_2
      go_enter Try.func5, Try.ntmps5
      obtain ⟨ra0, ra1, ra2, raf0, raf1, raf2⟩ := ra.three
      replace ra := hid ra
      go_wp2_with fail
      refine (k1.out _).mono ?_
      rintro e v1 ⟨rfl, hst⟩
      rw [hV1.out]
      replace ra := ra.out
      clear ra0 raf0 ra1 raf1 ra2 raf2
      clear hW
      replace ra := Row.below ra hst
      replace hB := bthen hB hst
      clear hst
      have hst := aalloc v1 (.cells #[.int .i32 qu, .int .i32 qu, .int .i32 qt] 23)
      have rc : Row .i32 23 (v1.alloc (.cells #[.int .i32 qu, .int .i32 qu, .int .i32 qt] 23)) v1.heap.size [qu, qu, qt] := heap_new _ _ _ rfl
      have lt_ra_rc := Row.lt ra
      replace ra := Row.below ra hst
      replace hB := bthen hB hst
      clear hst
      obtain ⟨u2, hu2⟩ : ∃ v, v1.alloc (.cells #[.int .i32 qu, .int .i32 qu, .int .i32 qt] 23) = v := ⟨_, rfl⟩
      rw [hu2] at ra rc hB
      obtain ⟨b_rc, hb_rc⟩ : ∃ b, v1.heap.size = b := ⟨_, rfl⟩
      rw [hb_rc] at rc lt_ra_rc
      have hs := sl_lit3 .i32 21 u2 qu qu qt
      have hst0 := aalloc u2 (.cells #[.int .i32 qu, .int .i32 qu, .int .i32 qt] 21)
      replace hs := hid hs
      obtain ⟨ra0, ra1, ra2, raf0, raf1, raf2⟩ := ra.three
      obtain ⟨rc0, rc1, rc2, rcf0, rcf1, rcf2⟩ := rc.three
      replace ra := hid ra
      replace rc := hid rc
      go_wp2_with fail
      refine (rsquares_any _ 3 [qu, qu, qt] _ (by show 3 ≤ 1000; omega) hs.out.2.2.2.2 hwf.out).mono ?_
      rintro e v7 ⟨rfl, mk, rfl⟩
      rw [hN3.out]
      replace ra := ra.out
      replace rc := rc.out
      clear ra0 raf0 ra1 raf1 ra2 raf2 rc0 rcf0 rc1 rcf1 rc2 rcf2
      clear hu2 hb_rc
      replace ra := (ra.below hst0).drewN mk
      replace rc := (rc.below hst0).drewN mk
      replace hB := bdrewN (bthen hB hst0) mk
      clear hs
      obtain ⟨ra0, ra1, ra2, raf0, raf1, raf2⟩ := ra.three
      obtain ⟨rc0, rc1, rc2, rcf0, rcf1, rcf2⟩ := rc.three
      replace ra := hid ra
      replace rc := hid rc
      go_wp2_with fail
      go_ret
      exact ⟨rfl, hB⟩
    · obtain ⟨w, hW, hB, hN, ra⟩ := rows1 W 23 a0_0 a0_1 a0_2
      go_enter Try.func5, Try.ntmps5
      obtain ⟨ra0, ra1, ra2, raf0, raf1, raf2⟩ := ra.three
      replace ra := hid ra
      go_wp2_with fail
      refine (k1.out _).mono ?_
      rintro e v1 ⟨rfl, hst⟩
      rw [hV1.out]
      replace ra := ra.out
      clear ra0 raf0 ra1 raf1 ra2 raf2
      clear hW
      replace ra := Row.below ra hst
      replace hB := bthen hB hst
      clear hst
      have hst := aalloc v1 (.cells #[.int .i32 qu, .int .i32 qv, .int .i32 qt] 23)
      have rc : Row .i32 23 (v1.alloc (.cells #[.int .i32 qu, .int .i32 qv, .int .i32 qt] 23)) v1.heap.size [qu, qv, qt] := heap_new _ _ _ rfl
      have lt_ra_rc := Row.lt ra
      replace ra := Row.below ra hst
      replace hB := bthen hB hst
      clear hst
      obtain ⟨u2, hu2⟩ : ∃ v, v1.alloc (.cells #[.int .i32 qu, .int .i32 qv, .int .i32 qt] 23) = v := ⟨_, rfl⟩
      rw [hu2] at ra rc hB
      obtain ⟨b_rc, hb_rc⟩ : ∃ b, v1.heap.size = b := ⟨_, rfl⟩
      rw [hb_rc] at rc lt_ra_rc
      have hs := sl_lit3 .i32 21 u2 qu qv qt
      have hst0 := aalloc u2 (.cells #[.int .i32 qu, .int .i32 qv, .int .i32 qt] 21)
      replace hs := hid hs
      obtain ⟨ra0, ra1, ra2, raf0, raf1, raf2⟩ := ra.three
      obtain ⟨rc0, rc1, rc2, rcf0, rcf1, rcf2⟩ := rc.three
      replace ra := hid ra
      replace rc := hid rc
      go_wp2_with fail
      refine (rsquares_any _ 3 [qu, qv, qt] _ (by show 3 ≤ 1000; omega) hs.out.2.2.2.2 hwf.out).mono ?_
      rintro e v7 ⟨rfl, mk, rfl⟩
      rw [hN3.out]
      replace ra := ra.out
      replace rc := rc.out
      clear ra0 raf0 ra1 raf1 ra2 raf2 rc0 rcf0 rc1 rcf1 rc2 rcf2
      clear hu2 hb_rc
      replace ra := (ra.below hst0).drewN mk
      replace rc := (rc.below hst0).drewN mk
      replace hB := bdrewN (bthen hB hst0) mk
      clear hs
      obtain ⟨ra0, ra1, ra2, raf0, raf1, raf2⟩ := ra.three
      obtain ⟨rc0, rc1, rc2, rcf0, rcf1, rcf2⟩ := rc.three
      replace ra := hid ra
      replace rc := hid rc
      go_wp2_with fail
      go_ret
      exact ⟨rfl, hB⟩
  · rcases hy with ⟨rfl, rfl⟩ | hy
    · obtain ⟨w, hW, hB, hN, ra⟩ := rows1 W 23 a0_0 a0_0 a0_2
      go_enter Try.func5, Try.ntmps5
      obtain ⟨ra0, ra1, ra2, raf0, raf1, raf2⟩ := ra.three
      replace ra := hid ra
      go_wp2_with fail
      refine (k1.out _).mono ?_
      rintro e v1 ⟨rfl, hst⟩
      rw [hV1.out]
      replace ra := ra.out
      clear ra0 raf0 ra1 raf1 ra2 raf2
      clear hW
      replace ra := Row.below ra hst
      replace hB := bthen hB hst
      clear hst
      have hst := aalloc v1 (.cells #[.int .i32 0, .int .i32 0, .int .i32 qt] 23)
      have rc : Row .i32 23 (v1.alloc (.cells #[.int .i32 0, .int .i32 0, .int .i32 qt] 23)) v1.heap.size [0, 0, qt] := heap_new _ _ _ rfl
      have lt_ra_rc := Row.lt ra
      replace ra := Row.below ra hst
      replace hB := bthen hB hst
      clear hst
      obtain ⟨u2, hu2⟩ : ∃ v, v1.alloc (.cells #[.int .i32 0, .int .i32 0, .int .i32 qt] 23) = v := ⟨_, rfl⟩
      rw [hu2] at ra rc hB
      obtain ⟨b_rc, hb_rc⟩ : ∃ b, v1.heap.size = b := ⟨_, rfl⟩
      rw [hb_rc] at rc lt_ra_rc
      have hs := sl_lit3 .i32 21 u2 0 0 qt
      have hst0 := aalloc u2 (.cells #[.int .i32 0, .int .i32 0, .int .i32 qt] 21)
      replace hs := hid hs
      obtain ⟨ra0, ra1, ra2, raf0, raf1, raf2⟩ := ra.three
      obtain ⟨rc0, rc1, rc2, rcf0, rcf1, rcf2⟩ := rc.three
      replace ra := hid ra
      replace rc := hid rc
      go_wp2_with fail
      refine (rsquares_any _ 3 [0, 0, qt] _ (by show 3 ≤ 1000; omega) hs.out.2.2.2.2 hwf.out).mono ?_
      rintro e v7 ⟨rfl, mk, rfl⟩
      rw [hN3.out]
      replace ra := ra.out
      replace rc := rc.out
      clear ra0 raf0 ra1 raf1 ra2 raf2 rc0 rcf0 rc1 rcf1 rc2 rcf2
      clear hu2 hb_rc
      replace ra := (ra.below hst0).drewN mk
      replace rc := (rc.below hst0).drewN mk
      replace hB := bdrewN (bthen hB hst0) mk
      clear hs
      obtain ⟨ra0, ra1, ra2, raf0, raf1, raf2⟩ := ra.three
      obtain ⟨rc0, rc1, rc2, rcf0, rcf1, rcf2⟩ := rc.three
      replace ra := hid ra
      replace rc := hid rc
      go_wp2_with fail
      go_ret
      exact ⟨rfl, hB⟩
    · obtain ⟨w, hW, hB, hN, ra⟩ := rows1 W 23 a0_0 a0_1 a0_2
      go_enter Try.func5, Try.ntmps5
      obtain ⟨ra0, ra1, ra2, raf0, raf1, raf2⟩ := ra.three
      replace ra := hid ra
      go_wp2_with fail
      refine (k1.out _).mono ?_
      rintro e v1 ⟨rfl, hst⟩
      rw [hV1.out]
      replace ra := ra.out
      clear ra0 raf0 ra1 raf1 ra2 raf2
      clear hW
      replace ra := Row.below ra hst
      replace hB := bthen hB hst
      clear hst
      have hst := aalloc v1 (.cells #[.int .i32 0, .int .i32 qv, .int .i32 qt] 23)
      have rc : Row .i32 23 (v1.alloc (.cells #[.int .i32 0, .int .i32 qv, .int .i32 qt] 23)) v1.heap.size [0, qv, qt] := heap_new _ _ _ rfl
      have lt_ra_rc := Row.lt ra
      replace ra := Row.below ra hst
      replace hB := bthen hB hst
      clear hst
      obtain ⟨u2, hu2⟩ : ∃ v, v1.alloc (.cells #[.int .i32 0, .int .i32 qv, .int .i32 qt] 23) = v := ⟨_, rfl⟩
      rw [hu2] at ra rc hB
      obtain ⟨b_rc, hb_rc⟩ : ∃ b, v1.heap.size = b := ⟨_, rfl⟩
      rw [hb_rc] at rc lt_ra_rc
      have hs := sl_lit3 .i32 21 u2 0 qv qt
      have hst0 := aalloc u2 (.cells #[.int .i32 0, .int .i32 qv, .int .i32 qt] 21)
      replace hs := hid hs
      obtain ⟨ra0, ra1, ra2, raf0, raf1, raf2⟩ := ra.three
      obtain ⟨rc0, rc1, rc2, rcf0, rcf1, rcf2⟩ := rc.three
      replace ra := hid ra
      replace rc := hid rc
      go_wp2_with fail
      refine (rsquares_any _ 3 [0, qv, qt] _ (by show 3 ≤ 1000; omega) hs.out.2.2.2.2 hwf.out).mono ?_
      rintro e v7 ⟨rfl, mk, rfl⟩
      rw [hN3.out]
      replace ra := ra.out
      replace rc := rc.out
      clear ra0 raf0 ra1 raf1 ra2 raf2 rc0 rcf0 rc1 rcf1 rc2 rcf2
      clear hu2 hb_rc
      replace ra := (ra.below hst0).drewN mk
      replace rc := (rc.below hst0).drewN mk
      replace hB := bdrewN (bthen hB hst0) mk
      clear hs
      obtain ⟨ra0, ra1, ra2, raf0, raf1, raf2⟩ := ra.three
      obtain ⟨rc0, rc1, rc2, rcf0, rcf1, rcf2⟩ := rc.three
      replace ra := hid ra
      replace rc := hid rc
      go_wp2_with fail
      go_ret
      exact ⟨rfl, hB⟩
  · rcases hy with ⟨rfl, rfl⟩ | hy
    · obtain ⟨w, hW, hB, hN, ra⟩ := rows1 W 23 a0_0 a0_0 a0_2
      go_enter Try.func5, Try.ntmps5
      obtain ⟨ra0, ra1, ra2, raf0, raf1, raf2⟩ := ra.three
      replace ra := hid ra
      go_wp2_with fail
      refine (k1.out _).mono ?_
      rintro e v1 ⟨rfl, hst⟩
      rw [hV1.out]
      replace ra := ra.out
      clear ra0 raf0 ra1 raf1 ra2 raf2
      clear hW
      replace ra := Row.below ra hst
      replace hB := bthen hB hst
      clear hst
      have hst := aalloc v1 (.cells #[.int .i32 0, .int .i32 0, .int .i32 qt] 23)
      have rc : Row .i32 23 (v1.alloc (.cells #[.int .i32 0, .int .i32 0, .int .i32 qt] 23)) v1.heap.size [0, 0, qt] := heap_new _ _ _ rfl
      have lt_ra_rc := Row.lt ra
      replace ra := Row.below ra hst
      replace hB := bthen hB hst
      clear hst
      obtain ⟨u2, hu2⟩ : ∃ v, v1.alloc (.cells #[.int .i32 0, .int .i32 0, .int .i32 qt] 23) = v := ⟨_, rfl⟩
      rw [hu2] at ra rc hB
      obtain ⟨b_rc, hb_rc⟩ : ∃ b, v1.heap.size = b := ⟨_, rfl⟩
      rw [hb_rc] at rc lt_ra_rc
      have hs := sl_lit3 .i32 21 u2 0 0 qt
      have hst0 := aalloc u2 (.cells #[.int .i32 0, .int .i32 0, .int .i32 qt] 21)
      replace hs := hid hs
      obtain ⟨ra0, ra1, ra2, raf0, raf1, raf2⟩ := ra.three
      obtain ⟨rc0, rc1, rc2, rcf0, rcf1, rcf2⟩ := rc.three
      replace ra := hid ra
      replace rc := hid rc
      go_wp2_with fail
      refine (rsquares_any _ 3 [0, 0, qt] _ (by show 3 ≤ 1000; omega) hs.out.2.2.2.2 hwf.out).mono ?_
      rintro e v7 ⟨rfl, mk, rfl⟩
      rw [hN3.out]
      replace ra := ra.out
      replace rc := rc.out
      clear ra0 raf0 ra1 raf1 ra2 raf2 rc0 rcf0 rc1 rcf1 rc2 rcf2
      clear hu2 hb_rc
      replace ra := (ra.below hst0).drewN mk
      replace rc := (rc.below hst0).drewN mk
      replace hB := bdrewN (bthen hB hst0) mk
      clear hs
      obtain ⟨ra0, ra1, ra2, raf0, raf1, raf2⟩ := ra.three
      obtain ⟨rc0, rc1, rc2, rcf0, rcf1, rcf2⟩ := rc.three
      replace ra := hid ra
      replace rc := hid rc
      go_wp2_with fail
      go_ret
      exact ⟨rfl, hB⟩
    · obtain ⟨w, hW, hB, hN, ra⟩ := rows1 W 23 a0_0 a0_1 a0_2
      go_enter Try.func5, Try.ntmps5
      obtain ⟨ra0, ra1, ra2, raf0, raf1, raf2⟩ := ra.three
      replace ra := hid ra
      go_wp2_with fail
      refine (k1.out _).mono ?_
      rintro e v1 ⟨rfl, hst⟩
      rw [hV1.out]
      replace ra := ra.out
      clear ra0 raf0 ra1 raf1 ra2 raf2
      clear hW
      replace ra := Row.below ra hst
      replace hB := bthen hB hst
      clear hst
      have hst := aalloc v1 (.cells #[.int .i32 0, .int .i32 qv, .int .i32 qt] 23)
      have rc : Row .i32 23 (v1.alloc (.cells #[.int .i32 0, .int .i32 qv, .int .i32 qt] 23)) v1.heap.size [0, qv, qt] := heap_new _ _ _ rfl
      have lt_ra_rc := Row.lt ra
      replace ra := Row.below ra hst
      replace hB := bthen hB hst
      clear hst
      obtain ⟨u2, hu2⟩ : ∃ v, v1.alloc (.cells #[.int .i32 0, .int .i32 qv, .int .i32 qt] 23) = v := ⟨_, rfl⟩
      rw [hu2] at ra rc hB
      obtain ⟨b_rc, hb_rc⟩ : ∃ b, v1.heap.size = b := ⟨_, rfl⟩
      rw [hb_rc] at rc lt_ra_rc
      have hs := sl_lit3 .i32 21 u2 0 qv qt
      have hst0 := aalloc u2 (.cells #[.int .i32 0, .int .i32 qv, .int .i32 qt] 21)
      replace hs := hid hs
      obtain ⟨ra0, ra1, ra2, raf0, raf1, raf2⟩ := ra.three
      obtain ⟨rc0, rc1, rc2, rcf0, rcf1, rcf2⟩ := rc.three
      replace ra := hid ra
      replace rc := hid rc
      go_wp2_with fail
      refine (rsquares_any _ 3 [0, qv, qt] _ (by show 3 ≤ 1000; omega) hs.out.2.2.2.2 hwf.out).mono ?_
      rintro e v7 ⟨rfl, mk, rfl⟩
      rw [hN3.out]
      replace ra := ra.out
      replace rc := rc.out
      clear ra0 raf0 ra1 raf1 ra2 raf2 rc0 rcf0 rc1 rcf1 rc2 rcf2
      clear hu2 hb_rc
      replace ra := (ra.below hst0).drewN mk
      replace rc := (rc.below hst0).drewN mk
      replace hB := bdrewN (bthen hB hst0) mk
      clear hs
      obtain ⟨ra0, ra1, ra2, raf0, raf1, raf2⟩ := ra.three
      obtain ⟨rc0, rc1, rc2, rcf0, rcf1, rcf2⟩ := rc.three
      replace ra := hid ra
      replace rc := hid rc
      go_wp2_with fail
      go_ret
      exact ⟨rfl, hB⟩
  · rcases hy with ⟨rfl, rfl⟩ | hy
    · obtain ⟨w, hW, hB, hN, ra⟩ := rows1 W 23 a0_0 a0_0 a0_2
      go_enter Try.func5, Try.ntmps5
      obtain ⟨ra0, ra1, ra2, raf0, raf1, raf2⟩ := ra.three
      replace ra := hid ra
      go_wp2_with fail
      refine (k1.out _).mono ?_
      rintro e v1 ⟨rfl, hst⟩
      rw [hV1.out]
      replace ra := ra.out
      clear ra0 raf0 ra1 raf1 ra2 raf2
      clear hW
      replace ra := Row.below ra hst
      replace hB := bthen hB hst
      clear hst
      have hst := aalloc v1 (.cells #[.int .i32 qu, .int .i32 qu, .int .i32 qt] 23)
      have rc : Row .i32 23 (v1.alloc (.cells #[.int .i32 qu, .int .i32 qu, .int .i32 qt] 23)) v1.heap.size [qu, qu, qt] := heap_new _ _ _ rfl
      have lt_ra_rc := Row.lt ra
      replace ra := Row.below ra hst
      replace hB := bthen hB hst
      clear hst
      obtain ⟨u2, hu2⟩ : ∃ v, v1.alloc (.cells #[.int .i32 qu, .int .i32 qu, .int .i32 qt] 23) = v := ⟨_, rfl⟩
      rw [hu2] at ra rc hB
      obtain ⟨b_rc, hb_rc⟩ : ∃ b, v1.heap.size = b := ⟨_, rfl⟩
      rw [hb_rc] at rc lt_ra_rc
      have hs := sl_lit3 .i32 21 u2 qu qu qt
      have hst0 := aalloc u2 (.cells #[.int .i32 qu, .int .i32 qu, .int .i32 qt] 21)
      replace hs := hid hs
      obtain ⟨ra0, ra1, ra2, raf0, raf1, raf2⟩ := ra.three
      obtain ⟨rc0, rc1, rc2, rcf0, rcf1, rcf2⟩ := rc.three
      replace ra := hid ra
      replace rc := hid rc
      go_wp2_with fail
      refine (rsquares_any _ 3 [qu, qu, qt] _ (by show 3 ≤ 1000; omega) hs.out.2.2.2.2 hwf.out).mono ?_
      rintro e v7 ⟨rfl, mk, rfl⟩
      rw [hN3.out]
      replace ra := ra.out
      replace rc := rc.out
      clear ra0 raf0 ra1 raf1 ra2 raf2 rc0 rcf0 rc1 rcf1 rc2 rcf2
      clear hu2 hb_rc
      replace ra := (ra.below hst0).drewN mk
      replace rc := (rc.below hst0).drewN mk
      replace hB := bdrewN (bthen hB hst0) mk
      clear hs
      obtain ⟨ra0, ra1, ra2, raf0, raf1, raf2⟩ := ra.three
      obtain ⟨rc0, rc1, rc2, rcf0, rcf1, rcf2⟩ := rc.three
      replace ra := hid ra
      replace rc := hid rc
      go_wp2_with fail
      go_ret
      exact ⟨rfl, hB⟩
    · obtain ⟨w, hW, hB, hN, ra⟩ := rows1 W 23 a0_0 a0_1 a0_2
      go_enter Try.func5, Try.ntmps5
      obtain ⟨ra0, ra1, ra2, raf0, raf1, raf2⟩ := ra.three
      replace ra := hid ra
      go_wp2_with fail
      refine (k1.out _).mono ?_
      rintro e v1 ⟨rfl, hst⟩
      rw [hV1.out]
      replace ra := ra.out
      clear ra0 raf0 ra1 raf1 ra2 raf2
      clear hW
      replace ra := Row.below ra hst
      replace hB := bthen hB hst
      clear hst
      have hst := aalloc v1 (.cells #[.int .i32 qu, .int .i32 qv, .int .i32 qt] 23)
      have rc : Row .i32 23 (v1.alloc (.cells #[.int .i32 qu, .int .i32 qv, .int .i32 qt] 23)) v1.heap.size [qu, qv, qt] := heap_new _ _ _ rfl
      have lt_ra_rc := Row.lt ra
      replace ra := Row.below ra hst
      replace hB := bthen hB hst
      clear hst
      obtain ⟨u2, hu2⟩ : ∃ v, v1.alloc (.cells #[.int .i32 qu, .int .i32 qv, .int .i32 qt] 23) = v := ⟨_, rfl⟩
      rw [hu2] at ra rc hB
      obtain ⟨b_rc, hb_rc⟩ : ∃ b, v1.heap.size = b := ⟨_, rfl⟩
      rw [hb_rc] at rc lt_ra_rc
      have hs := sl_lit3 .i32 21 u2 qu qv qt
      have hst0 := aalloc u2 (.cells #[.int .i32 qu, .int .i32 qv, .int .i32 qt] 21)
      replace hs := hid hs
      obtain ⟨ra0, ra1, ra2, raf0, raf1, raf2⟩ := ra.three
      obtain ⟨rc0, rc1, rc2, rcf0, rcf1, rcf2⟩ := rc.three
      replace ra := hid ra
      replace rc := hid rc
      go_wp2_with fail
      refine (rsquares_any _ 3 [qu, qv, qt] _ (by show 3 ≤ 1000; omega) hs.out.2.2.2.2 hwf.out).mono ?_
      rintro e v7 ⟨rfl, mk, rfl⟩
      rw [hN3.out]
      replace ra := ra.out
      replace rc := rc.out
      clear ra0 raf0 ra1 raf1 ra2 raf2 rc0 rcf0 rc1 rcf1 rc2 rcf2
      clear hu2 hb_rc
      replace ra := (ra.below hst0).drewN mk
      replace rc := (rc.below hst0).drewN mk
      replace hB := bdrewN (bthen hB hst0) mk
      clear hs
      obtain ⟨ra0, ra1, ra2, raf0, raf1, raf2⟩ := ra.three
      obtain ⟨rc0, rc1, rc2, rcf0, rcf1, rcf2⟩ := rc.three
      replace ra := hid ra
      replace rc := hid rc
      go_wp2_with fail
      go_ret
      exact ⟨rfl, hB⟩

end Go.Proofs.Yticjpdojiiepeaa
