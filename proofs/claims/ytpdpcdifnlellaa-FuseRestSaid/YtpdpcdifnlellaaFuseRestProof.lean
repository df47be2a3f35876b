/- FuseRest: for every input the law FuseRest returns true and leaves what it was given as it was. Conditions: none beyond those of the row. The walk is law_FuseRest of module Law42b. -/
import Derived.Test.YtpdpcdifnlellaaRows
import Derived.Test.YtpdpcdifnlellaaLaw42b
import Derived.WalkKit
import Derived.ProofKit
import Derived.OpenShut
import Derived.ShutString
import Derived.ChangeOld
import Derived.Below
import Derived.Lib.SmallJoins
namespace Go.Proofs.Ytpdpcdifnlellaa.fuseRest
open Go.ChangeShapes Go.WideShapes Go.ChangeAt Go.RowKit
open Go.ChangeMaps (open_string shut_string)
set_option linter.unusedVariables false

theorem own : ownKnob Try.prog.godebug = none := by kernel_rfl
theorem laidOut : laidOutB Try.prog = true := by kernel_rfl
theorem lenL3 {l : List Value} (h : l.length = 3) : ∃ y0 y1 y2, l = [y0, y1, y2] := by
  match l, h with
  | [y0, y1, y2], _ => exact ⟨_, _, _, rfl⟩

set_option maxRecDepth 100000 in
theorem lifted (os : Os) (started : os.Started) (H : Type) (enc : TypeId × Value → H) :
    ReturnsInHanded {} Try.checked os 4 .any (Rows.fuseRestSpec.pre6 enc Try.prog Try.f4 Rows.fuseRestRow.domain false) (Rows.fuseRestSpec.post enc Try.prog Try.f4 false true false false) := by
  refine returnsInHanded_of_change (C := Try.checked) own started (by kernel_rfl) Try.func4
    (ChangeSpec.witness6 (enc := enc) (C := Try.checked) false ⟨#[], #[.agg #[.int .i32 0, .int .i32 0, .int .i32 0], .int .i32 0, .agg #[.int .i32 0, .int .i32 0, .int .i32 0], .int .i32 0], []⟩ 8 (by kernel_rfl) (by kernel_rfl) (by kernel_rfl) (by kernel_rfl)) ?_
  intro W base args ds gs before hval0 hW hcnd _
  have hval : ∀ (j : Nat) t v, Try.f4.params[j]? = some t → args[j]? = some v → Value.okWide Try.prog W .any base t v := hval0
  have hW' := hW
  obtain ⟨p, q, hA0, hV, rfl, hfz, hnd⟩ := hW
  have hA : DataW.TrodAll enc Try.prog W 0 (fun _ => true) true Try.f4.params.toList args.toList ds p := hA0
  rw [Try.params4] at hA hval
  obtain ⟨v0, vs0, d0, ds0, p0, q0, hargs, rfl, rfl, h0, r0⟩ := trodAll_cons hA
  obtain ⟨v1, vs1, d1, ds1, p1, q1, rfl, rfl, rfl, h1, r1⟩ := trodAll_cons r0
  obtain ⟨v2, vs2, d2, ds2, p2, q2, rfl, rfl, rfl, h2, r2⟩ := trodAll_cons r1
  obtain ⟨v3, vs3, d3, ds3, p3, q3, rfl, rfl, rfl, h3, r3⟩ := trodAll_cons r2
  obtain ⟨rfl, rfl, rfl⟩ := trodAll_nil r3
  obtain rfl : args = #[v0, v1, v2, v3] := by cases args; simp_all
  obtain ⟨rfl, rfl⟩ := trodVars_none hV
  have k0 := h0
  have lt0 : ∀ x ∈ p0, x.block < W.heap.size := by obtain ⟨m, hm⟩ := k0; exact DataW.trod_lt m _ _ _ hm
  obtain ⟨l0, rfl, hl0, hr0⟩ := reads_agg (P := Try.prog) Try.underlying25 (hval 0 25 v0 rfl rfl) h0 12
  have hl0' : l0.length = 3 := hl0.trans (by kernel_rfl)
  obtain ⟨y0_0, y0_1, y0_2, rfl⟩ := lenL3 hl0'
  have hr0_0 := reads_fld Try.underlying25 hr0 0 _ rfl (l := [y0_0]) (by kernel_rfl)
  have hr0_1 := reads_fld Try.underlying25 hr0 1 _ rfl (l := [y0_1]) (by kernel_rfl)
  have hr0_2 := reads_fld Try.underlying25 hr0 2 _ rfl (l := [y0_2]) (by kernel_rfl)
  obtain ⟨a0_0, rfl, w0_0⟩ := reads_int Try.underlying21 hr0_0
  obtain ⟨a0_1, rfl, w0_1⟩ := reads_int Try.underlying21 hr0_1
  obtain ⟨a0_2, rfl, w0_2⟩ := reads_int Try.underlying21 hr0_2
  obtain ⟨a1, rfl, rfl, rfl, w1⟩ := open_int Try.underlying21 (hval 1 21 v1 rfl rfl) h1
  have k2 := h2
  have lt2 : ∀ x ∈ p2, x.block < W.heap.size := by obtain ⟨m, hm⟩ := k2; exact DataW.trod_lt m _ _ _ hm
  obtain ⟨l2, rfl, hl2, hr2⟩ := reads_agg (P := Try.prog) Try.underlying25 (hval 2 25 v2 rfl rfl) h2 12
  have hl2' : l2.length = 3 := hl2.trans (by kernel_rfl)
  obtain ⟨y2_0, y2_1, y2_2, rfl⟩ := lenL3 hl2'
  have hr2_0 := reads_fld Try.underlying25 hr2 0 _ rfl (l := [y2_0]) (by kernel_rfl)
  have hr2_1 := reads_fld Try.underlying25 hr2 1 _ rfl (l := [y2_1]) (by kernel_rfl)
  have hr2_2 := reads_fld Try.underlying25 hr2 2 _ rfl (l := [y2_2]) (by kernel_rfl)
  obtain ⟨a2_0, rfl, w2_0⟩ := reads_int Try.underlying21 hr2_0
  obtain ⟨a2_1, rfl, w2_1⟩ := reads_int Try.underlying21 hr2_1
  obtain ⟨a2_2, rfl, w2_2⟩ := reads_int Try.underlying21 hr2_2
  obtain ⟨a3, rfl, rfl, rfl, w3⟩ := open_int Try.underlying21 (hval 3 21 v3 rfl rfl) h3
  clear hA0 hval0
  refine (Go.Proofs.Ytpdpcdifnlellaa.law_FuseRest a0_0 a0_1 a0_2 a1 a2_0 a2_1 a2_2 a3 W w0_0 w0_1 w0_2 w1 w2_0 w2_1 w2_2 w3).mono fun e W' ⟨he, bel⟩ => ?_
  subst he
  exact ⟨_, rfl, _, _, _, [], _, [], hW', trodAll_mk1 (shut_bool Try.underlying4 _), (trodAll_cons_mk (Below.trod laidOut (by kernel_rfl) (of_decide_eq_true (by kernel_rfl)) k0 bel lt0) (trodAll_cons_mk (shut_int Try.underlying21 w1) (trodAll_cons_mk (Below.trod laidOut (by kernel_rfl) (of_decide_eq_true (by kernel_rfl)) k2 bel lt2) (trodAll_cons_mk (shut_int Try.underlying21 w3) trodAll_mk0)))), rfl, bel.frame _, fun h => by cases h⟩

theorem over : Rows.fuseRestRow.holds Try.pinned (OpenSpec.ofChange Rows.fuseRestSpec) :=
  OpenClaim.holds_of_wide 4 Try.f4 rfl rfl rfl rfl rfl rfl rfl ⟨rfl, rfl, rfl, rfl, rfl⟩ rfl rfl rfl rfl rfl (by kernel_rfl) Try.func4 (by kernel_rfl)
    (of_decide_eq_true (by kernel_rfl)) (by unfold Func.isWrapper; first | (rw [if_pos (by decide +kernel)]; kernel_rfl) | (rw [if_neg (by decide +kernel)]; exact ⟨rfl, rfl⟩))
    (fun os started H enc _ => lifted os started H enc)

/-- The statement. -/
theorem proved : Rows.FuseRestSaid := over
#print axioms proved
end Go.Proofs.Ytpdpcdifnlellaa.fuseRest
