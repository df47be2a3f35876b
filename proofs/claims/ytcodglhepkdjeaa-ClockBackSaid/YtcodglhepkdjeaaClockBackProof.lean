/- ClockBack: for every input the law ClockBack returns true and leaves what it was given as it was. Conditions: none beyond those of the row. The walk is law_ClockBack of module Law24c. -/
import Derived.Test.YtcodglhepkdjeaaRows
import Derived.Test.YtcodglhepkdjeaaLaw24c
import Derived.WalkKit
import Derived.ProofKit
import Derived.OpenShut
import Derived.ShutString
import Derived.ChangeOld
import Derived.Below
import Derived.Lib.SmallJoins
namespace Go.Proofs.Ytcodglhepkdjeaa.clockBack
open Go.ChangeShapes Go.WideShapes Go.ChangeAt Go.RowKit
open Go.ChangeMaps (open_string shut_string)
set_option linter.unusedVariables false

theorem own : ownKnob Try.prog.godebug = none := by kernel_rfl
theorem laidOut : laidOutB Try.prog = true := by kernel_rfl

set_option maxRecDepth 100000 in
theorem lifted (os : Os) (started : os.Started) (H : Type) (enc : TypeId × Value → H) :
    ReturnsInHanded {} Try.checked os 6 .any (Rows.clockBackSpec.pre6 enc Try.prog Try.f6 Rows.clockBackRow.domain false) (Rows.clockBackSpec.post enc Try.prog Try.f6 false true false false) := by
  refine returnsInHanded_of_change (C := Try.checked) own started (by kernel_rfl) Try.func6
    (ChangeSpec.witness6 (enc := enc) (C := Try.checked) false ⟨#[], #[.agg #[.bool false, .int .i64 0, .int .i64 0, .int .i64 0], .agg #[.bool false, .int .i64 0, .int .i64 0, .int .i64 0, .int .i64 0], .int .i64 0], []⟩ 8 (by kernel_rfl) (by kernel_rfl) (by kernel_rfl) (by kernel_rfl)) ?_
  intro W base args ds gs before hval0 hW hcnd _
  have hval : ∀ (j : Nat) t v, Try.f6.params[j]? = some t → args[j]? = some v → Value.okWide Try.prog W .any base t v := hval0
  have hW' := hW
  obtain ⟨p, q, hA0, hV, rfl, hfz, hnd⟩ := hW
  have hA : DataW.TrodAll enc Try.prog W 0 (fun _ => true) true Try.f6.params.toList args.toList ds p := hA0
  rw [Try.params6] at hA hval
  obtain ⟨v0, vs0, d0, ds0, p0, q0, hargs, rfl, rfl, h0, r0⟩ := trodAll_cons hA
  obtain ⟨v1, vs1, d1, ds1, p1, q1, rfl, rfl, rfl, h1, r1⟩ := trodAll_cons r0
  obtain ⟨v2, vs2, d2, ds2, p2, q2, rfl, rfl, rfl, h2, r2⟩ := trodAll_cons r1
  obtain ⟨rfl, rfl, rfl⟩ := trodAll_nil r2
  obtain rfl : args = #[v0, v1, v2] := by cases args; simp_all
  obtain ⟨rfl, rfl⟩ := trodVars_none hV
  have k0 := h0
  have lt0 : ∀ x ∈ p0, x.block < W.heap.size := by obtain ⟨m, hm⟩ := k0; exact DataW.trod_lt m _ _ _ hm
  obtain ⟨l0, rfl, hl0, hg0⟩ := agg_open (P := Try.prog) (t := 33) ⟨Try.underlying33, by kernel_rfl, by intro j f hj; rcases j with _ | _ | _ | _ | j <;> simp at hj <;> subst hj <;> exact ⟨rfl, by kernel_rfl⟩⟩ (hval 0 33 v0 rfl rfl) h0
  obtain ⟨c0_0, c0_1, c0_2, c0_3, rfl⟩ := list_of4 (l := l0) hl0
  obtain ⟨x0_0, n0_0, y0_0, e0_0, hy0_0⟩ := hg0 0 _ rfl
  simp at e0_0
  subst e0_0
  obtain ⟨a0_0, rfl⟩ := typ_bool Try.underlying4 hy0_0
  obtain ⟨x0_1, n0_1, y0_1, e0_1, hy0_1⟩ := hg0 1 _ rfl
  simp at e0_1
  subst e0_1
  obtain ⟨a0_1, rfl, w0_1⟩ := typ_int Try.underlying2 hy0_1
  obtain ⟨x0_2, n0_2, y0_2, e0_2, hy0_2⟩ := hg0 2 _ rfl
  simp at e0_2
  subst e0_2
  obtain ⟨a0_2, rfl, w0_2⟩ := typ_int Try.underlying2 hy0_2
  obtain ⟨x0_3, n0_3, y0_3, e0_3, hy0_3⟩ := hg0 3 _ rfl
  simp at e0_3
  subst e0_3
  obtain ⟨a0_3, rfl, w0_3⟩ := typ_int Try.underlying2 hy0_3
  have k1 := h1
  have lt1 : ∀ x ∈ p1, x.block < W.heap.size := by obtain ⟨m, hm⟩ := k1; exact DataW.trod_lt m _ _ _ hm
  obtain ⟨l1, rfl, hl1, hg1⟩ := agg_open (P := Try.prog) (t := 23) ⟨Try.underlying23, by kernel_rfl, by intro j f hj; rcases j with _ | _ | _ | _ | _ | j <;> simp at hj <;> subst hj <;> exact ⟨rfl, by kernel_rfl⟩⟩ (hval 1 23 v1 rfl rfl) h1
  obtain ⟨c1_0, c1_1, c1_2, c1_3, c1_4, rfl⟩ := list_of5 (l := l1) hl1
  obtain ⟨x1_0, n1_0, y1_0, e1_0, hy1_0⟩ := hg1 0 _ rfl
  simp at e1_0
  subst e1_0
  obtain ⟨a1_0, rfl⟩ := typ_bool Try.underlying4 hy1_0
  obtain ⟨x1_1, n1_1, y1_1, e1_1, hy1_1⟩ := hg1 1 _ rfl
  simp at e1_1
  subst e1_1
  obtain ⟨a1_1, rfl, w1_1⟩ := typ_int Try.underlying2 hy1_1
  obtain ⟨x1_2, n1_2, y1_2, e1_2, hy1_2⟩ := hg1 2 _ rfl
  simp at e1_2
  subst e1_2
  obtain ⟨a1_2, rfl, w1_2⟩ := typ_int Try.underlying2 hy1_2
  obtain ⟨x1_3, n1_3, y1_3, e1_3, hy1_3⟩ := hg1 3 _ rfl
  simp at e1_3
  subst e1_3
  obtain ⟨a1_3, rfl, w1_3⟩ := typ_int Try.underlying2 hy1_3
  obtain ⟨x1_4, n1_4, y1_4, e1_4, hy1_4⟩ := hg1 4 _ rfl
  simp at e1_4
  subst e1_4
  obtain ⟨a1_4, rfl, w1_4⟩ := typ_int Try.underlying2 hy1_4
  obtain ⟨a2, rfl, rfl, rfl, w2⟩ := open_int Try.underlying2 (hval 2 2 v2 rfl rfl) h2
  clear hA0 hval0
  refine (Go.Proofs.Ytcodglhepkdjeaa.law_ClockBack a0_0 a0_1 a0_2 a0_3 a1_0 a1_1 a1_2 a1_3 a1_4 a2 W w0_1 w0_2 w0_3 w1_1 w1_2 w1_3 w1_4 w2).mono fun e W' ⟨he, bel⟩ => ?_
  subst he
  exact ⟨_, rfl, _, _, _, [], _, [], hW', trodAll_mk1 (shut_bool Try.underlying4 _), (trodAll_cons_mk (Below.trod laidOut (by kernel_rfl) (of_decide_eq_true (by kernel_rfl)) k0 bel lt0) (trodAll_cons_mk (Below.trod laidOut (by kernel_rfl) (of_decide_eq_true (by kernel_rfl)) k1 bel lt1) (trodAll_cons_mk (shut_int Try.underlying2 w2) trodAll_mk0))), rfl, bel.frame _, fun h => by cases h⟩

theorem over : Rows.clockBackRow.holds Try.pinned (OpenSpec.ofChange Rows.clockBackSpec) :=
  OpenClaim.holds_of_wide 6 Try.f6 rfl rfl rfl rfl rfl rfl rfl ⟨rfl, rfl, rfl, rfl, rfl⟩ rfl rfl rfl rfl rfl (by kernel_rfl) Try.func6 (by kernel_rfl)
    (of_decide_eq_true (by kernel_rfl)) (by unfold Func.isWrapper; first | (rw [if_pos (by decide +kernel)]; kernel_rfl) | (rw [if_neg (by decide +kernel)]; exact ⟨rfl, rfl⟩))
    (fun os started H enc _ => lifted os started H enc)

/-- The statement. -/
theorem proved : Rows.ClockBackSaid := over
#print axioms proved
end Go.Proofs.Ytcodglhepkdjeaa.clockBack
