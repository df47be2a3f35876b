/- GapsPlays: for every input the law GapsPlays returns true and leaves what it was given as it was. Conditions: none beyond those of the row. The walk is law_GapsPlays of module Law33c. -/
import Derived.Test.YtjeiclfdhdcfnaaRows
import Derived.Test.YtjeiclfdhdcfnaaLaw33c
import Derived.WalkKit
import Derived.ProofKit
import Derived.OpenShut
import Derived.ShutString
import Derived.ChangeOld
import Derived.Below
import Derived.Lib.SmallJoins
namespace Go.Proofs.Ytjeiclfdhdcfnaa.gapsPlays
open Go.ChangeShapes Go.WideShapes Go.ChangeAt Go.RowKit
open Go.ChangeMaps (open_string shut_string)
set_option linter.unusedVariables false

theorem own : ownKnob Try.prog.godebug = none := by kernel_rfl
theorem laidOut : laidOutB Try.prog = true := by kernel_rfl
theorem lenL3 {l : List Value} (h : l.length = 3) : ∃ y0 y1 y2, l = [y0, y1, y2] := by
  match l, h with
  | [y0, y1, y2], _ => exact ⟨_, _, _, rfl⟩

set_option maxRecDepth 100000 in
theorem lifted (os : Os) (started : os.Started) (H : Type) (enc : TypeId × Value → H) :
    ReturnsInHanded {} Try.checked os 3 .any (Rows.gapsPlaysSpec.pre6 enc Try.prog Try.f3 Rows.gapsPlaysRow.domain false) (Rows.gapsPlaysSpec.post enc Try.prog Try.f3 false true false false) := by
  refine returnsInHanded_of_change (C := Try.checked) own started (by kernel_rfl) Try.func3
    (ChangeSpec.witness6 (enc := enc) (C := Try.checked) false ⟨#[], #[.slice none 0 0], []⟩ 8 (by kernel_rfl) (by kernel_rfl) (by kernel_rfl) (by kernel_rfl)) ?_
  intro W base args ds gs before hval0 hW hcnd _
  have hval : ∀ (j : Nat) t v, Try.f3.params[j]? = some t → args[j]? = some v → Value.okWide Try.prog W .any base t v := hval0
  have hW' := hW
  obtain ⟨p, q, hA0, hV, rfl, hfz, hnd⟩ := hW
  have hA : DataW.TrodAll enc Try.prog W 0 (fun _ => true) true Try.f3.params.toList args.toList ds p := hA0
  rw [Try.params3] at hA hval
  obtain ⟨v0, vs0, d0, ds0, p0, q0, hargs, rfl, rfl, h0, r0⟩ := trodAll_cons hA
  obtain ⟨rfl, rfl, rfl⟩ := trodAll_nil r0
  obtain rfl : args = #[v0] := by cases args; simp_all
  obtain ⟨rfl, rfl⟩ := trodVars_none hV
  have k0 := h0
  have lt0 : ∀ x ∈ p0, x.block < W.heap.size := by obtain ⟨m, hm⟩ := k0; exact DataW.trod_lt m _ _ _ hm
  obtain ⟨a0, len0, cap0, x0, rfl, w0, g0⟩ := reads_els (m := 3) Try.underlying22 (by kernel_rfl) (by decide) (reads_sl Try.underlying22 (hval 0 22 v0 rfl rfl) h0 13)
  have t0 : ∀ x ∈ x0, (∃ (c0 : Int) (c1 : Int) (c2 : Int), x = [.int .i64 c0, .int .i64 c1, .int .i64 c2] ∧ ((Lit.int .i64 c0).wf = true) ∧ ((Lit.int .i64 c1).wf = true) ∧ ((Lit.int .i64 c2).wf = true)) := by
    intro x hx
    obtain ⟨hr1, hl1⟩ := (g0 x hx)
    obtain ⟨y1_0, y1_1, y1_2, rfl⟩ := lenL3 hl1
    have hr1_0 := reads_fld Try.underlying30 hr1 0 _ rfl (l := [y1_0]) (by kernel_rfl)
    have hr1_1 := reads_fld Try.underlying30 hr1 1 _ rfl (l := [y1_1]) (by kernel_rfl)
    have hr1_2 := reads_fld Try.underlying30 hr1 2 _ rfl (l := [y1_2]) (by kernel_rfl)
    obtain ⟨n1_0, rfl, f1_0⟩ := reads_int Try.underlying3 hr1_0
    obtain ⟨n1_1, rfl, f1_1⟩ := reads_int Try.underlying3 hr1_1
    obtain ⟨n1_2, rfl, f1_2⟩ := reads_int Try.underlying3 hr1_2
    exact ⟨n1_0, n1_1, n1_2, rfl, f1_0, f1_1, f1_2⟩
  clear hA0 hval0
  refine (Go.Proofs.Ytjeiclfdhdcfnaa.law_GapsPlays a0 len0 cap0 x0 W w0 t0).mono fun e W' ⟨he, bel⟩ => ?_
  subst he
  exact ⟨_, rfl, _, _, _, [], _, [], hW', trodAll_mk1 (shut_bool Try.underlying4 _), (trodAll_cons_mk (Below.trod laidOut (by kernel_rfl) (of_decide_eq_true (by kernel_rfl)) k0 bel lt0) trodAll_mk0), rfl, bel.frame _, fun h => by cases h⟩

theorem over : Rows.gapsPlaysRow.holds Try.pinned (OpenSpec.ofChange Rows.gapsPlaysSpec) :=
  OpenClaim.holds_of_wide 3 Try.f3 rfl rfl rfl rfl rfl rfl rfl ⟨rfl, rfl, rfl, rfl, rfl⟩ rfl rfl rfl rfl rfl (by kernel_rfl) Try.func3 (by kernel_rfl)
    (of_decide_eq_true (by kernel_rfl)) (by unfold Func.isWrapper; first | (rw [if_pos (by decide +kernel)]; kernel_rfl) | (rw [if_neg (by decide +kernel)]; exact ⟨rfl, rfl⟩))
    (fun os started H enc _ => lifted os started H enc)

/-- The statement. -/
theorem proved : Rows.GapsPlaysSaid := over
#print axioms proved
end Go.Proofs.Ytjeiclfdhdcfnaa.gapsPlays
