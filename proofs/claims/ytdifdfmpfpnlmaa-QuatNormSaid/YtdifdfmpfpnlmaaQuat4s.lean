/- Package quat: Dot. -/
import Derived.Test.YtdifdfmpfpnlmaaQuat3
import Derived.Test.YtdifdfmpfpnlmaaSeg
import Derived.Test.YtdifdfmpfpnlmaaRegionK3
import Derived.Deep.DeepCutAuto
namespace Go.Proofs.Ytdifdfmpfpnlmaa
open Go.ChangeShapes Go.WideShapes Go.ChangeAt Go.RowKit
set_option linter.unusedVariables false

def qsum (x y z t a b c d : Int) : Nat → Int
  | 0 => 0
  | k + 1 => qsum x y z t a b c d k + roundS (sel4 k x y z t * sel4 k a b c d) 30
theorem qsum_all (x y z t a b c d : Int) : qsum x y z t a b c d 4 = qdot x y z t a b c d := by
  have h : qsum x y z t a b c d 4 = 0 + roundS (x * a) 30 + roundS (y * b) 30 + roundS (z * c) 30 + roundS (t * d) 30 := rfl
  rw [h]; unfold qdot; omega
theorem qsum_b (x y z t a b c d : Int) (p0 : B32 x) (p1 : B32 y) (p2 : B32 z) (p3 : B32 t) (q0 : B32 a) (q1 : B32 b) (q2 : B32 c) (q3 : B32 d) : ∀ k : Nat, -(4294967297 * (k : Int)) ≤ qsum x y z t a b c d k ∧ qsum x y z t a b c d k ≤ 4294967297 * (k : Int)
  | 0 => by simp [qsum]
  | k + 1 => by
    have ih := qsum_b x y z t a b c d p0 p1 p2 p3 q0 q1 q2 q3 k
    have h := round30_bd _ _ (sel4_b k p0 p1 p2 p3) (sel4_b k q0 q1 q2 q3)
    simp only [qsum]
    omega

set_option maxRecDepth 100000 in
set_option maxHeartbeats 8000000 in
theorem qdot_any (x y z t a b c d : Int) (w : World) (p0 : B32 x) (p1 : B32 y) (p2 : B32 z) (p3 : B32 t) (q0 : B32 a) (q1 : B32 b) (q2 : B32 c) (q3 : B32 d) :
    Calls Try.prog 9 #[.agg #[.int .i32 x, .int .i32 y, .int .i32 z, .int .i32 t], .agg #[.int .i32 a, .int .i32 b, .int .i32 c, .int .i32 d]] w fun e w' => e = .returned (.int .i64 (qdot x y z t a b c d)) ∧ Below w.heap.size w w' := by
  obtain ⟨W, hW, hB, hN, ra, rb⟩ := boxes4 w 23 23 x y z t a b c d
  obtain ⟨c0, c1, c2, c3, -, -, -, -⟩ := ra.four
  obtain ⟨d0, d1, d2, d3, -, -, -, -⟩ := rb.four
  clear ra rb
  go_enter Try.func9, Try.ntmps9
  go_wp2_with fail
  apply wp_region_seg (w := W) (S := [.q [], .q [], .q [], .q [], .al 6, .al 7, .st 4 [], .st 5 []]) (E := [.q0 _, .c0 _, .q0 _, .c0 _, .al _ 6, .al _ 7, .s0 4 (.cells #[.int .i32 x, .int .i32 y, .int .i32 z, .int .i32 t] 39), .s0 5 (.cells #[.int .i32 a, .int .i32 b, .int .i32 c, .int .i32 d] 39)]) (by kernel_rfl) rfl (by kernel_rfl) rfl
  · intro th hge hne
    refine Seg.step _ rfl (Or.inl ⟨by rfl, fun U hU => vp_quiet (by (have h0 := hU.1.cellB c0; have h1 := hU.1.cellB c1; have h2 := hU.1.cellB c2; have h3 := hU.1.cellB c3; go_simp <;> exact rfl))⟩) ⟨_, by (simp only [Ent.val]; go_simp <;> exact rfl), ?_⟩
    refine Seg.step _ rfl (Or.inl ⟨by rfl, fun U hU => ?_⟩) ?_
    · go_simp
      refine vp_call (qparts_any x y z t _)
    refine ⟨_, by (simp only [Ent.val]; go_simp <;> exact rfl), ?_⟩
    refine Seg.step _ rfl (Or.inl ⟨by rfl, fun U hU => vp_quiet (by (have h0 := hU.1.cellB d0; have h1 := hU.1.cellB d1; have h2 := hU.1.cellB d2; have h3 := hU.1.cellB d3; go_simp <;> exact rfl))⟩) ⟨_, by (simp only [Ent.val]; go_simp <;> exact rfl), ?_⟩
    refine Seg.step _ rfl (Or.inl ⟨by rfl, fun U hU => ?_⟩) ?_
    · go_simp
      refine vp_call (qparts_any a b c d _)
    refine ⟨_, by (simp only [Ent.val]; go_simp <;> exact rfl), ?_⟩
    refine Seg.step _ rfl ⟨by rfl, fun U hU => ?_⟩ ?_
    · go_simp; exact vp_alloc rfl rfl rfl
    refine ⟨_, by (simp only [Ent.val]; go_simp <;> exact rfl), ?_⟩
    refine Seg.step _ rfl ⟨by rfl, fun U hU => ?_⟩ ?_
    · go_simp; exact vp_alloc rfl rfl rfl
    refine ⟨_, by (simp only [Ent.val]; go_simp <;> exact rfl), ?_⟩
    refine Seg.step _ rfl ⟨by rfl, fun U z k hz hU hc => ?_⟩ ?_
    · have hz2 := Option.some.inj hz
      cases hz2; clear hz
      exact vp_store _ _ _ rfl hc rfl rfl rfl (by kernel_rfl) rfl (by rfl)
    refine ⟨_, by (simp only [Ent.val]; go_simp <;> exact rfl), ?_⟩
    refine Seg.step _ rfl ⟨by rfl, fun U z k hz hU hc => ?_⟩ ?_
    · have hz2 := Option.some.inj hz
      cases hz2; clear hz
      exact vp_store _ _ _ rfl hc rfl rfl rfl (by kernel_rfl) rfl (by rfl)
    refine ⟨_, by (simp only [Ent.val]; go_simp <;> exact rfl), ?_⟩
    refine Seg.stop (fun U hU hk => ?_)
    have n0 := hge 4 _ _ rfl
    have n1 := hge 5 _ _ rfl
    have n2 := hne 4 5 _ _ _ _ rfl rfl (by omega)
    have q0 := (hk 4 _ 6 rfl trivial).1.1 trivial _ (Nat.zero_le _) rfl
    have q1 := (hk 5 _ 7 rfl trivial).1.1 trivial _ (Nat.zero_le _) rfl
    clear hk hge hne
    generalize th (0 + 4) = pa at *
    generalize th (0 + 5) = pb at *
    have qa : Row .i32 39 U pa [x, y, z, t] := q0
    have qb : Row .i32 39 U pb [a, b, c, d] := q1
    clear q0 q1
    replace hB := bthen hB hU
    clear hU
    go_wp2_with fail
    have hz0 : qsum x y z t a b c d 0 = 0 := rfl
    have hfin := hid (qsum_all x y z t a b c d)
    go_wp2_with fail
    go_loopw [7, 13] (fun s i wr => ∃ (k : Nat), k ≤ 4 ∧ i = .int .i64 k ∧ s = .int .i64 (qsum x y z t a b c d k) ∧ Row .i32 39 wr pa [x, y, z, t] ∧ Row .i32 39 wr pb [a, b, c, d] ∧ Below w.heap.size w wr) (fun _ i _ => 4 - (intOf i).toNat)
    case atStart => exact ⟨0, by omega, rfl, rfl, qa, qb, hB⟩
    case round =>
      obtain ⟨k, hk, rfl, rfl, qa, qb, hB⟩ := hrel
      by_cases hlt : (k : Int) < 4
      · have hlt2 : k < 4 := by omega
        have ca := qa.cellAt k (show k < 4 by omega)
        have cb := qb.cellAt k (show k < 4 by omega)
        rw [getD4 _ _ _ _ _ hlt2] at ca cb
        have hX := sel4_b k p0 p1 p2 p3
        have hY := sel4_b k q0 q1 q2 q3
        have hqb := qsum_b x y z t a b c d p0 p1 p2 p3 q0 q1 q2 q3 k
        have hrb := round30_bd _ _ hX hY
        have hsu := hid (show qsum x y z t a b c d (k + 1) = qsum x y z t a b c d k + roundS (sel4 k x y z t * sel4 k a b c d) 30 from rfl)
        have hP := hid (fun (v : World) => qprod_any (sel4 k x y z t) (sel4 k a b c d) v hX hY)
        generalize roundS (sel4 k x y z t * sel4 k a b c d) 30 = R at *
        generalize qsum x y z t a b c d k = Q at *
        have fs : IntKind.i64.wrap (Q + R) = Q + R := by rw [IntKind.wrap_i64]; omega
        have qaH := hid qa
        have qbH := hid qb
        clear qa qb hX hY hz0
        generalize sel4 k x y z t = X at *
        generalize sel4 k a b c d = Y at *
        go_wp2_with fail
        go_quiet (exact Calls.quiet_of (hP.out _))
        go_wp2_with fail
        go_roundw
        case rel => exact ⟨k + 1, by omega, by simp, by rw [hsu.out], qaH.out.drewN _, qbH.out.drewN _, bdrewN hB _⟩
        case measure => simp [intOf]; omega
      · obtain rfl : k = 4 := by omega
        clear hz0
        go_wp2_with fail
        go_ret
        exact ⟨ret_int (by rw [hfin.out]), hB⟩

end Go.Proofs.Ytdifdfmpfpnlmaa
