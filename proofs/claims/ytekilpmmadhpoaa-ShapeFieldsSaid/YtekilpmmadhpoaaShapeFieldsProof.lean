/- ShapeFields: for every input the law ShapeFields returns true and leaves what it was given as it was. Conditions: none beyond those of the row. The walk is law_ShapeFields of module Law14b. -/
import Derived.Test.YtekilpmmadhpoaaRows
import Derived.Test.YtekilpmmadhpoaaLaw14b
import Derived.WalkKit
import Derived.ProofKit
import Derived.OpenShut
import Derived.ShutString
import Derived.ChangeOld
import Derived.Below
import Derived.Lib.SmallJoins
namespace Go.Proofs.Ytekilpmmadhpoaa.shapeFields
open Go.ChangeShapes Go.WideShapes Go.ChangeAt Go.RowKit
open Go.ChangeMaps (open_string shut_string)
set_option linter.unusedVariables false

theorem own : ownKnob Try.prog.godebug = none := by kernel_rfl
theorem laidOut : laidOutB Try.prog = true := by kernel_rfl

set_option maxRecDepth 100000 in
theorem lifted (os : Os) (started : os.Started) (H : Type) (enc : TypeId × Value → H) :
    ReturnsInHanded {} Try.checked os 3 .any (Rows.shapeFieldsSpec.pre6 enc Try.prog Try.f3 Rows.shapeFieldsRow.domain false) (Rows.shapeFieldsSpec.post enc Try.prog Try.f3 false true false false) := by
  refine returnsInHanded_of_change (C := Try.checked) own started (by kernel_rfl) Try.func3
    (ChangeSpec.witness6 (enc := enc) (C := Try.checked) false ⟨#[], #[.int .i64 0, .int .i64 0, .int .i64 0, .slice none 0 0], []⟩ 8 (by kernel_rfl) (by kernel_rfl) (by kernel_rfl) (by kernel_rfl)) ?_
  intro W base args ds gs before hval0 hW hcnd _
  have hval : ∀ (j : Nat) t v, Try.f3.params[j]? = some t → args[j]? = some v → Value.okWide Try.prog W .any base t v := hval0
  have hW' := hW
  obtain ⟨p, q, hA0, hV, rfl, hfz, hnd⟩ := hW
  have hA : DataW.TrodAll enc Try.prog W 0 (fun _ => true) true Try.f3.params.toList args.toList ds p := hA0
  rw [Try.params3] at hA hval
  obtain ⟨v0, vs0, d0, ds0, p0, q0, hargs, rfl, rfl, h0, r0⟩ := trodAll_cons hA
  obtain ⟨v1, vs1, d1, ds1, p1, q1, rfl, rfl, rfl, h1, r1⟩ := trodAll_cons r0
  obtain ⟨v2, vs2, d2, ds2, p2, q2, rfl, rfl, rfl, h2, r2⟩ := trodAll_cons r1
  obtain ⟨v3, vs3, d3, ds3, p3, q3, rfl, rfl, rfl, h3, r3⟩ := trodAll_cons r2
  obtain ⟨rfl, rfl, rfl⟩ := trodAll_nil r3
  obtain rfl : args = #[v0, v1, v2, v3] := by cases args; simp_all
  obtain ⟨rfl, rfl⟩ := trodVars_none hV
  obtain ⟨a0, rfl, rfl, rfl, w0⟩ := open_int Try.underlying3 (hval 0 3 v0 rfl rfl) h0
  obtain ⟨a1, rfl, rfl, rfl, w1⟩ := open_int Try.underlying2 (hval 1 2 v1 rfl rfl) h1
  obtain ⟨a2, rfl, rfl, rfl, w2⟩ := open_int Try.underlying2 (hval 2 2 v2 rfl rfl) h2
  obtain ⟨a3, len3, cap3, rfl⟩ := okWide_slice Try.underlying22 (hval 3 22 v3 rfl rfl)
  have k3 := h3
  have lt3 : ∀ x ∈ p3, x.block < W.heap.size := by obtain ⟨m, hm⟩ := k3; exact DataW.trod_lt m _ _ _ hm
  obtain ⟨vv3, w3, t3⟩ : ∃ vv3 : Nat → Nat → Value, Flat W a3 len3 cap3 4 vv3 ∧ ∀ i, i < len3 → (∃ n, vv3 i 0 = .int .i64 n ∧ (Lit.int .i64 n).wf = true) ∧ (∃ b, vv3 i 1 = .bool b) ∧ (∃ n, vv3 i 2 = .int .i64 n ∧ (Lit.int .i64 n).wf = true) ∧ (∃ n, vv3 i 3 = .int .i64 n ∧ (Lit.int .i64 n).wf = true) := by
    obtain ⟨fuel, hf⟩ := h3
    obtain ⟨V, g1, g2⟩ := flat_open Try.underlying22 ⟨Try.underlying25, by kernel_rfl, by intro j f hj; rcases j with _ | _ | _ | _ | j <;> simp at hj <;> subst hj <;> exact ⟨rfl, by kernel_rfl⟩⟩ hf
    refine ⟨V, g1, fun i hi => ⟨?_, ?_, ?_, ?_⟩⟩
    · obtain ⟨_, _, hy⟩ := g2 i hi 0 _ rfl; exact typ_int Try.underlying3 hy
    · obtain ⟨_, _, hy⟩ := g2 i hi 1 _ rfl; exact typ_bool Try.underlying4 hy
    · obtain ⟨_, _, hy⟩ := g2 i hi 2 _ rfl; exact typ_int Try.underlying2 hy
    · obtain ⟨_, _, hy⟩ := g2 i hi 3 _ rfl; exact typ_int Try.underlying2 hy
  clear hA0 hval0
  refine (Go.Proofs.Ytekilpmmadhpoaa.law_ShapeFields a0 a1 a2 a3 len3 cap3 vv3 W w0 w1 w2 w3 t3).mono fun e W' ⟨he, bel⟩ => ?_
  subst he
  exact ⟨_, rfl, _, _, _, [], _, [], hW', trodAll_mk1 (shut_bool Try.underlying4 _), (trodAll_cons_mk (shut_int Try.underlying3 w0) (trodAll_cons_mk (shut_int Try.underlying2 w1) (trodAll_cons_mk (shut_int Try.underlying2 w2) (trodAll_cons_mk (Below.trod laidOut (by kernel_rfl) (of_decide_eq_true (by kernel_rfl)) k3 bel lt3) trodAll_mk0)))), rfl, bel.frame _, fun h => by cases h⟩

theorem over : Rows.shapeFieldsRow.holds Try.pinned (OpenSpec.ofChange Rows.shapeFieldsSpec) :=
  OpenClaim.holds_of_wide 3 Try.f3 rfl rfl rfl rfl rfl rfl rfl ⟨rfl, rfl, rfl, rfl, rfl⟩ rfl rfl rfl rfl rfl (by kernel_rfl) Try.func3 (by kernel_rfl)
    (of_decide_eq_true (by kernel_rfl)) (by unfold Func.isWrapper; first | (rw [if_pos (by decide +kernel)]; kernel_rfl) | (rw [if_neg (by decide +kernel)]; exact ⟨rfl, rfl⟩))
    (fun os started H enc _ => lifted os started H enc)

/-- The statement. -/
theorem proved : Rows.ShapeFieldsSaid := over
#print axioms proved
end Go.Proofs.Ytekilpmmadhpoaa.shapeFields
