/- FuseTells: for every input the law FuseTells returns true and leaves what it was given as it was. Conditions: none beyond those of the row. The walk is law_FuseTells of module Law42. -/
import Derived.Test.YtpdpcdifnlellaaGreatRows
import Derived.Test.YtpdpcdifnlellaaGreatLaw42
import Derived.WalkKit
import Derived.ProofKit
import Derived.OpenShut
import Derived.ShutString
import Derived.ChangeOld
import Derived.Below
import Derived.Lib.SmallJoins
namespace Go.Proofs.YtpdpcdifnlellaaGreat.fuseTells
open Go.ChangeShapes Go.WideShapes Go.ChangeAt Go.RowKit
open Go.ChangeMaps (open_string shut_string)
set_option linter.unusedVariables false

theorem own : ownKnob Tryz.prog.godebug = none := by kernel_rfl
theorem laidOut : laidOutB Tryz.prog = true := by kernel_rfl
theorem lenL7 {l : List Value} (h : l.length = 7) : ∃ y0 y1 y2 y3 y4 y5 y6, l = [y0, y1, y2, y3, y4, y5, y6] := by
  match l, h with
  | [y0, y1, y2, y3, y4, y5, y6], _ => exact ⟨_, _, _, _, _, _, _, rfl⟩
theorem lenL9 {l : List Value} (h : l.length = 9) : ∃ y0 y1 y2 y3 y4 y5 y6 y7 y8, l = [y0, y1, y2, y3, y4, y5, y6, y7, y8] := by
  match l, h with
  | [y0, y1, y2, y3, y4, y5, y6, y7, y8], _ => exact ⟨_, _, _, _, _, _, _, _, _, rfl⟩

set_option maxRecDepth 100000 in
theorem lifted (os : Os) (started : os.Started) (H : Type) (enc : TypeId × Value → H) :
    ReturnsInHanded {} Tryz.checked os 3 .any (Rows.fuseTellsSpec.pre6 enc Tryz.prog Tryz.f3 Rows.fuseTellsRow.domain false) (Rows.fuseTellsSpec.post enc Tryz.prog Tryz.f3 false true false false) := by
  refine returnsInHanded_of_change (C := Tryz.checked) own started (by kernel_rfl) Tryz.func3
    (ChangeSpec.witness6 (enc := enc) (C := Tryz.checked) false ⟨#[], #[.agg #[.int .i32 0, .int .i32 0, .int .i32 0, .int .i32 0, .int .i32 0, .int .i32 0, .int .i32 0, .int .i64 0, .int .i64 0], .agg #[.int .i32 0, .int .i32 0, .int .i32 0, .int .i32 0, .int .i32 0, .int .i32 0, .int .i32 0]], []⟩ 8 (by kernel_rfl) (by kernel_rfl) (by kernel_rfl) (by kernel_rfl)) ?_
  intro W base args ds gs before hval0 hW hcnd _
  have hval : ∀ (j : Nat) t v, Tryz.f3.params[j]? = some t → args[j]? = some v → Value.okWide Tryz.prog W .any base t v := hval0
  have hW' := hW
  obtain ⟨p, q, hA0, hV, rfl, hfz, hnd⟩ := hW
  have hA : DataW.TrodAll enc Tryz.prog W 0 (fun _ => true) true Tryz.f3.params.toList args.toList ds p := hA0
  rw [Tryz.params3] at hA hval
  obtain ⟨v0, vs0, d0, ds0, p0, q0, hargs, rfl, rfl, h0, r0⟩ := trodAll_cons hA
  obtain ⟨v1, vs1, d1, ds1, p1, q1, rfl, rfl, rfl, h1, r1⟩ := trodAll_cons r0
  obtain ⟨rfl, rfl, rfl⟩ := trodAll_nil r1
  obtain rfl : args = #[v0, v1] := by cases args; simp_all
  obtain ⟨rfl, rfl⟩ := trodVars_none hV
  have k0 := h0
  have lt0 : ∀ x ∈ p0, x.block < W.heap.size := by obtain ⟨m, hm⟩ := k0; exact DataW.trod_lt m _ _ _ hm
  obtain ⟨l0, rfl, hl0, hr0⟩ := reads_agg (P := Tryz.prog) Tryz.underlying27 (hval 0 27 v0 rfl rfl) h0 12
  have hl0' : l0.length = 9 := hl0.trans (by kernel_rfl)
  obtain ⟨y0_0, y0_1, y0_2, y0_3, y0_4, y0_5, y0_6, y0_7, y0_8, rfl⟩ := lenL9 hl0'
  have hr0_0 := reads_fld Tryz.underlying27 hr0 0 _ rfl (l := [y0_0, y0_1, y0_2, y0_3]) (by kernel_rfl)
  have hr0_0_0 := reads_fld Tryz.underlying23 hr0_0 0 _ rfl (l := [y0_0]) (by kernel_rfl)
  have hr0_0_1 := reads_fld Tryz.underlying23 hr0_0 1 _ rfl (l := [y0_1]) (by kernel_rfl)
  have hr0_0_2 := reads_fld Tryz.underlying23 hr0_0 2 _ rfl (l := [y0_2]) (by kernel_rfl)
  have hr0_0_3 := reads_fld Tryz.underlying23 hr0_0 3 _ rfl (l := [y0_3]) (by kernel_rfl)
  have hr0_1 := reads_fld Tryz.underlying27 hr0 1 _ rfl (l := [y0_4, y0_5, y0_6]) (by kernel_rfl)
  have hr0_1_0 := reads_fld Tryz.underlying25 hr0_1 0 _ rfl (l := [y0_4]) (by kernel_rfl)
  have hr0_1_1 := reads_fld Tryz.underlying25 hr0_1 1 _ rfl (l := [y0_5]) (by kernel_rfl)
  have hr0_1_2 := reads_fld Tryz.underlying25 hr0_1 2 _ rfl (l := [y0_6]) (by kernel_rfl)
  have hr0_2 := reads_fld Tryz.underlying27 hr0 2 _ rfl (l := [y0_7]) (by kernel_rfl)
  have hr0_3 := reads_fld Tryz.underlying27 hr0 3 _ rfl (l := [y0_8]) (by kernel_rfl)
  obtain ⟨a0_0, rfl, w0_0⟩ := reads_int Tryz.underlying21 hr0_0_0
  obtain ⟨a0_1, rfl, w0_1⟩ := reads_int Tryz.underlying21 hr0_0_1
  obtain ⟨a0_2, rfl, w0_2⟩ := reads_int Tryz.underlying21 hr0_0_2
  obtain ⟨a0_3, rfl, w0_3⟩ := reads_int Tryz.underlying21 hr0_0_3
  obtain ⟨a0_4, rfl, w0_4⟩ := reads_int Tryz.underlying21 hr0_1_0
  obtain ⟨a0_5, rfl, w0_5⟩ := reads_int Tryz.underlying21 hr0_1_1
  obtain ⟨a0_6, rfl, w0_6⟩ := reads_int Tryz.underlying21 hr0_1_2
  obtain ⟨a0_7, rfl, w0_7⟩ := reads_int Tryz.underlying3 hr0_2
  obtain ⟨a0_8, rfl, w0_8⟩ := reads_int Tryz.underlying3 hr0_3
  have k1 := h1
  have lt1 : ∀ x ∈ p1, x.block < W.heap.size := by obtain ⟨m, hm⟩ := k1; exact DataW.trod_lt m _ _ _ hm
  obtain ⟨l1, rfl, hl1, hr1⟩ := reads_agg (P := Tryz.prog) Tryz.underlying29 (hval 1 29 v1 rfl rfl) h1 12
  have hl1' : l1.length = 7 := hl1.trans (by kernel_rfl)
  obtain ⟨y1_0, y1_1, y1_2, y1_3, y1_4, y1_5, y1_6, rfl⟩ := lenL7 hl1'
  have hr1_0 := reads_fld Tryz.underlying29 hr1 0 _ rfl (l := [y1_0, y1_1, y1_2]) (by kernel_rfl)
  have hr1_0_0 := reads_fld Tryz.underlying25 hr1_0 0 _ rfl (l := [y1_0]) (by kernel_rfl)
  have hr1_0_1 := reads_fld Tryz.underlying25 hr1_0 1 _ rfl (l := [y1_1]) (by kernel_rfl)
  have hr1_0_2 := reads_fld Tryz.underlying25 hr1_0 2 _ rfl (l := [y1_2]) (by kernel_rfl)
  have hr1_1 := reads_fld Tryz.underlying29 hr1 1 _ rfl (l := [y1_3, y1_4, y1_5]) (by kernel_rfl)
  have hr1_1_0 := reads_fld Tryz.underlying25 hr1_1 0 _ rfl (l := [y1_3]) (by kernel_rfl)
  have hr1_1_1 := reads_fld Tryz.underlying25 hr1_1 1 _ rfl (l := [y1_4]) (by kernel_rfl)
  have hr1_1_2 := reads_fld Tryz.underlying25 hr1_1 2 _ rfl (l := [y1_5]) (by kernel_rfl)
  have hr1_2 := reads_fld Tryz.underlying29 hr1 2 _ rfl (l := [y1_6]) (by kernel_rfl)
  obtain ⟨a1_0, rfl, w1_0⟩ := reads_int Tryz.underlying21 hr1_0_0
  obtain ⟨a1_1, rfl, w1_1⟩ := reads_int Tryz.underlying21 hr1_0_1
  obtain ⟨a1_2, rfl, w1_2⟩ := reads_int Tryz.underlying21 hr1_0_2
  obtain ⟨a1_3, rfl, w1_3⟩ := reads_int Tryz.underlying21 hr1_1_0
  obtain ⟨a1_4, rfl, w1_4⟩ := reads_int Tryz.underlying21 hr1_1_1
  obtain ⟨a1_5, rfl, w1_5⟩ := reads_int Tryz.underlying21 hr1_1_2
  obtain ⟨a1_6, rfl, w1_6⟩ := reads_int Tryz.underlying21 hr1_2
  clear hA0 hval0
  refine (Go.Proofs.YtpdpcdifnlellaaGreat.law_FuseTells a0_0 a0_1 a0_2 a0_3 a0_4 a0_5 a0_6 a0_7 a0_8 a1_0 a1_1 a1_2 a1_3 a1_4 a1_5 a1_6 W w0_0 w0_1 w0_2 w0_3 w0_4 w0_5 w0_6 w0_7 w0_8 w1_0 w1_1 w1_2 w1_3 w1_4 w1_5 w1_6).mono fun e W' ⟨he, bel⟩ => ?_
  subst he
  exact ⟨_, rfl, _, _, _, [], _, [], hW', trodAll_mk1 (shut_bool Tryz.underlying4 _), (trodAll_cons_mk (Below.trod laidOut (by kernel_rfl) (of_decide_eq_true (by kernel_rfl)) k0 bel lt0) (trodAll_cons_mk (Below.trod laidOut (by kernel_rfl) (of_decide_eq_true (by kernel_rfl)) k1 bel lt1) trodAll_mk0)), rfl, bel.frame _, fun h => by cases h⟩

theorem over : Rows.fuseTellsRow.holds Tryz.pinned (OpenSpec.ofChange Rows.fuseTellsSpec) :=
  OpenClaim.holds_of_wide 3 Tryz.f3 rfl rfl rfl rfl rfl rfl rfl ⟨rfl, rfl, rfl, rfl, rfl⟩ rfl rfl rfl rfl rfl (by kernel_rfl) Tryz.func3 (by kernel_rfl)
    (of_decide_eq_true (by kernel_rfl)) (by unfold Func.isWrapper; first | (rw [if_pos (by decide +kernel)]; kernel_rfl) | (rw [if_neg (by decide +kernel)]; exact ⟨rfl, rfl⟩))
    (fun os started H enc _ => lifted os started H enc)

/-- The statement. -/
theorem proved : Rows.FuseTellsSaid := over
#print axioms proved
end Go.Proofs.YtpdpcdifnlellaaGreat.fuseTells
