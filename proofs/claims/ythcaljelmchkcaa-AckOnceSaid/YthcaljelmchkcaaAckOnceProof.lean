/- AckOnce: for every input the law AckOnce returns true and leaves what it was given as it was. Conditions: none beyond those of the row. The walk is law_AckOnce of module Law19d. -/
import Derived.Test.YthcaljelmchkcaaRows
import Derived.Test.YthcaljelmchkcaaLaw19d
import Derived.WalkKit
import Derived.ProofKit
import Derived.OpenShut
import Derived.ShutString
import Derived.ChangeOld
import Derived.Below
import Derived.Lib.SmallJoins
namespace Go.Proofs.Ythcaljelmchkcaa.ackOnce
open Go.ChangeShapes Go.WideShapes Go.ChangeAt Go.RowKit
open Go.ChangeMaps (open_string shut_string)
set_option linter.unusedVariables false

theorem own : ownKnob Try.prog.godebug = none := by kernel_rfl
theorem laidOut : laidOutB Try.prog = true := by kernel_rfl

set_option maxRecDepth 100000 in
theorem lifted (os : Os) (started : os.Started) (H : Type) (enc : TypeId × Value → H) :
    ReturnsInHanded {} Try.checked os 5 .any (Rows.ackOnceSpec.pre6 enc Try.prog Try.f5 Rows.ackOnceRow.domain false) (Rows.ackOnceSpec.post enc Try.prog Try.f5 false true false false) := by
  refine returnsInHanded_of_change (C := Try.checked) own started (by kernel_rfl) Try.func5
    (ChangeSpec.witness6 (enc := enc) (C := Try.checked) false ⟨#[], #[.slice none 0 0], []⟩ 8 (by kernel_rfl) (by kernel_rfl) (by kernel_rfl) (by kernel_rfl)) ?_
  intro W base args ds gs before hval0 hW hcnd _
  have hval : ∀ (j : Nat) t v, Try.f5.params[j]? = some t → args[j]? = some v → Value.okWide Try.prog W .any base t v := hval0
  have hW' := hW
  obtain ⟨p, q, hA0, hV, rfl, hfz, hnd⟩ := hW
  have hA : DataW.TrodAll enc Try.prog W 0 (fun _ => true) true Try.f5.params.toList args.toList ds p := hA0
  rw [Try.params5] at hA hval
  obtain ⟨v0, vs0, d0, ds0, p0, q0, hargs, rfl, rfl, h0, r0⟩ := trodAll_cons hA
  obtain ⟨rfl, rfl, rfl⟩ := trodAll_nil r0
  obtain rfl : args = #[v0] := by cases args; simp_all
  obtain ⟨rfl, rfl⟩ := trodVars_none hV
  have k0 := h0
  have lt0 : ∀ x ∈ p0, x.block < W.heap.size := by obtain ⟨m, hm⟩ := k0; exact DataW.trod_lt m _ _ _ hm
  obtain ⟨a0, len0, cap0, x0, rfl, w0, g0⟩ := reads_els (m := 4) Try.underlying33 (by kernel_rfl) (by decide) (reads_sl Try.underlying33 (hval 0 33 v0 rfl rfl) h0 13)
  have t0 : ∀ x ∈ x0, (∃ (c0 : Bool) (c1 : Bool) (c2 : Int) (c3 : Int), x = [.bool c0, .bool c1, .int .i64 c2, .int .i64 c3] ∧ ((Lit.int .i64 c2).wf = true) ∧ ((Lit.int .i64 c3).wf = true)) := by
    intro x hx
    obtain ⟨hr1, hl1⟩ := (g0 x hx)
    obtain ⟨y1_0, y1_1, y1_2, y1_3, rfl⟩ : ∃ y1_0 y1_1 y1_2 y1_3, x = [y1_0, y1_1, y1_2, y1_3] := by
      match x, hl1 with
      | [y1_0, y1_1, y1_2, y1_3], _ => exact ⟨_, _, _, _, rfl⟩
    have hr1_0 := reads_fld Try.underlying40 hr1 0 _ rfl (l := [y1_0]) (by kernel_rfl)
    have hr1_1 := reads_fld Try.underlying40 hr1 1 _ rfl (l := [y1_1, y1_2, y1_3]) (by kernel_rfl)
    have hr1_1_0 := reads_fld Try.underlying23 hr1_1 0 _ rfl (l := [y1_1]) (by kernel_rfl)
    have hr1_1_1 := reads_fld Try.underlying23 hr1_1 1 _ rfl (l := [y1_2]) (by kernel_rfl)
    have hr1_1_2 := reads_fld Try.underlying23 hr1_1 2 _ rfl (l := [y1_3]) (by kernel_rfl)
    obtain ⟨n1_0, rfl⟩ := reads_bool Try.underlying4 hr1_0
    obtain ⟨n1_1, rfl⟩ := reads_bool Try.underlying4 hr1_1_0
    obtain ⟨n1_2, rfl, f1_2⟩ := reads_int Try.underlying2 hr1_1_1
    obtain ⟨n1_3, rfl, f1_3⟩ := reads_int Try.underlying2 hr1_1_2
    exact ⟨n1_0, n1_1, n1_2, n1_3, rfl, f1_2, f1_3⟩
  clear hA0 hval0
  refine (Go.Proofs.Ythcaljelmchkcaa.law_AckOnce a0 len0 cap0 x0 W w0 t0).mono fun e W' ⟨he, bel⟩ => ?_
  subst he
  exact ⟨_, rfl, _, _, _, [], _, [], hW', trodAll_mk1 (shut_bool Try.underlying4 _), (trodAll_cons_mk (Below.trod laidOut (by kernel_rfl) (of_decide_eq_true (by kernel_rfl)) k0 bel lt0) trodAll_mk0), rfl, bel.frame _, fun h => by cases h⟩

theorem over : Rows.ackOnceRow.holds Try.pinned (OpenSpec.ofChange Rows.ackOnceSpec) :=
  OpenClaim.holds_of_wide 5 Try.f5 rfl rfl rfl rfl rfl rfl rfl ⟨rfl, rfl, rfl, rfl, rfl⟩ rfl rfl rfl rfl rfl (by kernel_rfl) Try.func5 (by kernel_rfl)
    (of_decide_eq_true (by kernel_rfl)) (by unfold Func.isWrapper; first | (rw [if_pos (by decide +kernel)]; kernel_rfl) | (rw [if_neg (by decide +kernel)]; exact ⟨rfl, rfl⟩))
    (fun os started H enc _ => lifted os started H enc)

/-- The statement. -/
theorem proved : Rows.AckOnceSaid := over
#print axioms proved
end Go.Proofs.Ythcaljelmchkcaa.ackOnce
