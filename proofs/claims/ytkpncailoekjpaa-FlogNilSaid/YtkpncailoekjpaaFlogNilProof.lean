/- FlogNil: for every input the law FlogNil returns true and leaves what it was given as it was. Conditions: none beyond those of the row. The walk is law_FlogNil of module Law36. -/
import Derived.Test.YtkpncailoekjpaaRows
import Derived.Test.YtkpncailoekjpaaLaw36
import Derived.WalkKit
import Derived.ProofKit
import Derived.OpenShut
import Derived.ShutString
import Derived.ChangeOld
import Derived.Below
import Derived.Lib.SmallJoins
namespace Go.Proofs.Ytkpncailoekjpaa.flogNil
open Go.ChangeShapes Go.WideShapes Go.ChangeAt Go.RowKit
open Go.ChangeMaps (open_string shut_string)
set_option linter.unusedVariables false

theorem own : ownKnob Try.prog.godebug = none := by kernel_rfl
theorem laidOut : laidOutB Try.prog = true := by kernel_rfl
theorem len13 {l : List Value} (h : l.length = 13) : ∃ y0 y1 y2 y3 y4 y5 y6 y7 y8 y9 y10 y11 y12, l = [y0, y1, y2, y3, y4, y5, y6, y7, y8, y9, y10, y11, y12] := by
  match l, h with
  | [y0, y1, y2, y3, y4, y5, y6, y7, y8, y9, y10, y11, y12], _ => exact ⟨_, _, _, _, _, _, _, _, _, _, _, _, _, rfl⟩

set_option maxRecDepth 100000 in
theorem lifted (os : Os) (started : os.Started) (H : Type) (enc : TypeId × Value → H) :
    ReturnsInHanded {} Try.checked os 6 .any (Rows.flogNilSpec.pre6 enc Try.prog Try.f6 Rows.flogNilRow.domain false) (Rows.flogNilSpec.post enc Try.prog Try.f6 false true false false) := by
  refine returnsInHanded_of_change (C := Try.checked) own started (by kernel_rfl) Try.func6
    (ChangeSpec.witness6 (enc := enc) (C := Try.checked) false ⟨#[], #[.agg #[.int .u32 0, .int .i32 0, .int .i32 0, .int .i32 0, .int .i32 0, .int .i32 0, .int .i32 0, .int .i32 0, .int .i32 0, .int .i32 0, .int .i32 0, .int .i32 0, .int .i32 0]], []⟩ 8 (by kernel_rfl) (by kernel_rfl) (by kernel_rfl) (by kernel_rfl)) ?_
  intro W base args ds gs before hval0 hW hcnd _
  have hval : ∀ (j : Nat) t v, Try.f6.params[j]? = some t → args[j]? = some v → Value.okWide Try.prog W .any base t v := hval0
  have hW' := hW
  obtain ⟨p, q, hA0, hV, rfl, hfz, hnd⟩ := hW
  have hA : DataW.TrodAll enc Try.prog W 0 (fun _ => true) true Try.f6.params.toList args.toList ds p := hA0
  rw [Try.params6] at hA hval
  obtain ⟨v0, vs0, d0, ds0, p0, q0, hargs, rfl, rfl, h0, r0⟩ := trodAll_cons hA
  obtain ⟨rfl, rfl, rfl⟩ := trodAll_nil r0
  obtain rfl : args = #[v0] := by cases args; simp_all
  obtain ⟨rfl, rfl⟩ := trodVars_none hV
  have k0 := h0
  have lt0 : ∀ x ∈ p0, x.block < W.heap.size := by obtain ⟨m, hm⟩ := k0; exact DataW.trod_lt m _ _ _ hm
  obtain ⟨l0, rfl, hl0, hr0⟩ := reads_agg (P := Try.prog) Try.underlying33 (hval 0 33 v0 rfl rfl) h0 12
  have hl0' : l0.length = 13 := hl0.trans (by kernel_rfl)
  obtain ⟨y0_0, y0_1, y0_2, y0_3, y0_4, y0_5, y0_6, y0_7, y0_8, y0_9, y0_10, y0_11, y0_12, rfl⟩ := len13 hl0'
  have hr0_0 := reads_fld Try.underlying33 hr0 0 _ rfl (l := [y0_0]) (by kernel_rfl)
  have hr0_1 := reads_fld Try.underlying33 hr0 1 _ rfl (l := [y0_1, y0_2, y0_3, y0_4, y0_5, y0_6, y0_7, y0_8, y0_9, y0_10, y0_11, y0_12]) (by kernel_rfl)
  have hr0_1_0 := reads_elt Try.underlying31 hr0_1 0 (by decide) (l := [y0_1]) (by kernel_rfl)
  have hr0_1_1 := reads_elt Try.underlying31 hr0_1 1 (by decide) (l := [y0_2]) (by kernel_rfl)
  have hr0_1_2 := reads_elt Try.underlying31 hr0_1 2 (by decide) (l := [y0_3]) (by kernel_rfl)
  have hr0_1_3 := reads_elt Try.underlying31 hr0_1 3 (by decide) (l := [y0_4]) (by kernel_rfl)
  have hr0_1_4 := reads_elt Try.underlying31 hr0_1 4 (by decide) (l := [y0_5]) (by kernel_rfl)
  have hr0_1_5 := reads_elt Try.underlying31 hr0_1 5 (by decide) (l := [y0_6]) (by kernel_rfl)
  have hr0_1_6 := reads_elt Try.underlying31 hr0_1 6 (by decide) (l := [y0_7]) (by kernel_rfl)
  have hr0_1_7 := reads_elt Try.underlying31 hr0_1 7 (by decide) (l := [y0_8]) (by kernel_rfl)
  have hr0_1_8 := reads_elt Try.underlying31 hr0_1 8 (by decide) (l := [y0_9]) (by kernel_rfl)
  have hr0_1_9 := reads_elt Try.underlying31 hr0_1 9 (by decide) (l := [y0_10]) (by kernel_rfl)
  have hr0_1_10 := reads_elt Try.underlying31 hr0_1 10 (by decide) (l := [y0_11]) (by kernel_rfl)
  have hr0_1_11 := reads_elt Try.underlying31 hr0_1 11 (by decide) (l := [y0_12]) (by kernel_rfl)
  obtain ⟨a0_0, rfl, w0_0⟩ := reads_int Try.underlying30 hr0_0
  obtain ⟨a0_1, rfl, w0_1⟩ := reads_int Try.underlying21 hr0_1_0
  obtain ⟨a0_2, rfl, w0_2⟩ := reads_int Try.underlying21 hr0_1_1
  obtain ⟨a0_3, rfl, w0_3⟩ := reads_int Try.underlying21 hr0_1_2
  obtain ⟨a0_4, rfl, w0_4⟩ := reads_int Try.underlying21 hr0_1_3
  obtain ⟨a0_5, rfl, w0_5⟩ := reads_int Try.underlying21 hr0_1_4
  obtain ⟨a0_6, rfl, w0_6⟩ := reads_int Try.underlying21 hr0_1_5
  obtain ⟨a0_7, rfl, w0_7⟩ := reads_int Try.underlying21 hr0_1_6
  obtain ⟨a0_8, rfl, w0_8⟩ := reads_int Try.underlying21 hr0_1_7
  obtain ⟨a0_9, rfl, w0_9⟩ := reads_int Try.underlying21 hr0_1_8
  obtain ⟨a0_10, rfl, w0_10⟩ := reads_int Try.underlying21 hr0_1_9
  obtain ⟨a0_11, rfl, w0_11⟩ := reads_int Try.underlying21 hr0_1_10
  obtain ⟨a0_12, rfl, w0_12⟩ := reads_int Try.underlying21 hr0_1_11
  clear hA0 hval0
  refine (Go.Proofs.Ytkpncailoekjpaa.law_FlogNil a0_0 a0_1 a0_2 a0_3 a0_4 a0_5 a0_6 a0_7 a0_8 a0_9 a0_10 a0_11 a0_12 W w0_0 w0_1 w0_2 w0_3 w0_4 w0_5 w0_6 w0_7 w0_8 w0_9 w0_10 w0_11 w0_12).mono fun e W' ⟨he, bel⟩ => ?_
  subst he
  exact ⟨_, rfl, _, _, _, [], _, [], hW', trodAll_mk1 (shut_bool Try.underlying4 _), (trodAll_cons_mk (Below.trod laidOut (by kernel_rfl) (of_decide_eq_true (by kernel_rfl)) k0 bel lt0) trodAll_mk0), rfl, bel.frame _, fun h => by cases h⟩

theorem over : Rows.flogNilRow.holds Try.pinned (OpenSpec.ofChange Rows.flogNilSpec) :=
  OpenClaim.holds_of_wide 6 Try.f6 rfl rfl rfl rfl rfl rfl rfl ⟨rfl, rfl, rfl, rfl, rfl⟩ rfl rfl rfl rfl rfl (by kernel_rfl) Try.func6 (by kernel_rfl)
    (of_decide_eq_true (by kernel_rfl)) (by unfold Func.isWrapper; first | (rw [if_pos (by decide +kernel)]; kernel_rfl) | (rw [if_neg (by decide +kernel)]; exact ⟨rfl, rfl⟩))
    (fun os started H enc _ => lifted os started H enc)

/-- The statement. -/
theorem proved : Rows.FlogNilSaid := over
#print axioms proved
end Go.Proofs.Ytkpncailoekjpaa.flogNil
