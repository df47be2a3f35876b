/- RescueTrue: for every input the law RescueTrue returns true and leaves what it was given as it was. Conditions: none beyond those of the row. The walk is law_RescueTrue of module Law37g. -/
import Derived.Test.YtlfbhfmchdbnoaaRows
import Derived.Test.YtlfbhfmchdbnoaaLaw37g
import Derived.WalkKit
import Derived.ProofKit
import Derived.OpenShut
import Derived.ShutString
import Derived.ChangeOld
import Derived.Below
import Derived.Lib.SmallJoins
namespace Go.Proofs.Ytlfbhfmchdbnoaa.rescueTrue
open Go.ChangeShapes Go.WideShapes Go.ChangeAt Go.RowKit
open Go.ChangeMaps (open_string shut_string)
set_option linter.unusedVariables false

theorem own : ownKnob Try.prog.godebug = none := by kernel_rfl
theorem laidOut : laidOutB Try.prog = true := by kernel_rfl
theorem lenL2 {l : List Value} (h : l.length = 2) : ∃ y0 y1, l = [y0, y1] := by
  match l, h with
  | [y0, y1], _ => exact ⟨_, _, rfl⟩
theorem lenL13 {l : List Value} (h : l.length = 13) : ∃ y0 y1 y2 y3 y4 y5 y6 y7 y8 y9 y10 y11 y12, l = [y0, y1, y2, y3, y4, y5, y6, y7, y8, y9, y10, y11, y12] := by
  match l, h with
  | [y0, y1, y2, y3, y4, y5, y6, y7, y8, y9, y10, y11, y12], _ => exact ⟨_, _, _, _, _, _, _, _, _, _, _, _, _, rfl⟩

set_option maxRecDepth 100000 in
theorem lifted (os : Os) (started : os.Started) (H : Type) (enc : TypeId × Value → H) :
    ReturnsInHanded {} Try.checked os 5 .any (Rows.rescueTrueSpec.pre6 enc Try.prog Try.f5 Rows.rescueTrueRow.domain false) (Rows.rescueTrueSpec.post enc Try.prog Try.f5 false true false false) := by
  refine returnsInHanded_of_change (C := Try.checked) own started (by kernel_rfl) Try.func5
    (ChangeSpec.witness6 (enc := enc) (C := Try.checked) false ⟨#[], #[.int .i64 0, .slice none 0 0, .slice none 0 0], []⟩ 8 (by kernel_rfl) (by kernel_rfl) (by kernel_rfl) (by kernel_rfl)) ?_
  intro W base args ds gs before hval0 hW hcnd _
  have hval : ∀ (j : Nat) t v, Try.f5.params[j]? = some t → args[j]? = some v → Value.okWide Try.prog W .any base t v := hval0
  have hW' := hW
  obtain ⟨p, q, hA0, hV, rfl, hfz, hnd⟩ := hW
  have hA : DataW.TrodAll enc Try.prog W 0 (fun _ => true) true Try.f5.params.toList args.toList ds p := hA0
  rw [Try.params5] at hA hval
  obtain ⟨v0, vs0, d0, ds0, p0, q0, hargs, rfl, rfl, h0, r0⟩ := trodAll_cons hA
  obtain ⟨v1, vs1, d1, ds1, p1, q1, rfl, rfl, rfl, h1, r1⟩ := trodAll_cons r0
  obtain ⟨v2, vs2, d2, ds2, p2, q2, rfl, rfl, rfl, h2, r2⟩ := trodAll_cons r1
  obtain ⟨rfl, rfl, rfl⟩ := trodAll_nil r2
  obtain rfl : args = #[v0, v1, v2] := by cases args; simp_all
  obtain ⟨rfl, rfl⟩ := trodVars_none hV
  obtain ⟨a0, rfl, rfl, rfl, w0⟩ := open_int Try.underlying3 (hval 0 3 v0 rfl rfl) h0
  have k1 := h1
  have lt1 : ∀ x ∈ p1, x.block < W.heap.size := by obtain ⟨m, hm⟩ := k1; exact DataW.trod_lt m _ _ _ hm
  obtain ⟨a1, len1, cap1, x1, rfl, w1, g1⟩ := reads_els (m := 13) Try.underlying28 (by kernel_rfl) (by decide) (reads_sl Try.underlying28 (hval 1 28 v1 rfl rfl) h1 13)
  have t1 : ∀ x ∈ x1, (∃ (c0 : Int) (c1 : Int) (c2 : Int) (c3 : Int) (c4 : Int) (c5 : Int) (c6 : Int) (c7 : Int) (c8 : Int) (c9 : Int) (c10 : Int) (c11 : Int) (c12 : Int), x = [.int .u32 c0, .int .i32 c1, .int .i32 c2, .int .i32 c3, .int .i32 c4, .int .i32 c5, .int .i32 c6, .int .i32 c7, .int .i32 c8, .int .i32 c9, .int .i32 c10, .int .i32 c11, .int .i32 c12] ∧ ((Lit.int .u32 c0).wf = true) ∧ ((Lit.int .i32 c1).wf = true) ∧ ((Lit.int .i32 c2).wf = true) ∧ ((Lit.int .i32 c3).wf = true) ∧ ((Lit.int .i32 c4).wf = true) ∧ ((Lit.int .i32 c5).wf = true) ∧ ((Lit.int .i32 c6).wf = true) ∧ ((Lit.int .i32 c7).wf = true) ∧ ((Lit.int .i32 c8).wf = true) ∧ ((Lit.int .i32 c9).wf = true) ∧ ((Lit.int .i32 c10).wf = true) ∧ ((Lit.int .i32 c11).wf = true) ∧ ((Lit.int .i32 c12).wf = true)) := by
    intro x hx
    obtain ⟨hr1, hl1⟩ := (g1 x hx)
    obtain ⟨y1_0, y1_1, y1_2, y1_3, y1_4, y1_5, y1_6, y1_7, y1_8, y1_9, y1_10, y1_11, y1_12, rfl⟩ := lenL13 hl1
    have hr1_0 := reads_fld Try.underlying65 hr1 0 _ rfl (l := [y1_0]) (by kernel_rfl)
    have hr1_1 := reads_fld Try.underlying65 hr1 1 _ rfl (l := [y1_1, y1_2, y1_3, y1_4, y1_5, y1_6, y1_7, y1_8, y1_9, y1_10, y1_11, y1_12]) (by kernel_rfl)
    have hr1_1_0 := reads_elt Try.underlying63 hr1_1 0 (by decide) (l := [y1_1]) (by kernel_rfl)
    have hr1_1_1 := reads_elt Try.underlying63 hr1_1 1 (by decide) (l := [y1_2]) (by kernel_rfl)
    have hr1_1_2 := reads_elt Try.underlying63 hr1_1 2 (by decide) (l := [y1_3]) (by kernel_rfl)
    have hr1_1_3 := reads_elt Try.underlying63 hr1_1 3 (by decide) (l := [y1_4]) (by kernel_rfl)
    have hr1_1_4 := reads_elt Try.underlying63 hr1_1 4 (by decide) (l := [y1_5]) (by kernel_rfl)
    have hr1_1_5 := reads_elt Try.underlying63 hr1_1 5 (by decide) (l := [y1_6]) (by kernel_rfl)
    have hr1_1_6 := reads_elt Try.underlying63 hr1_1 6 (by decide) (l := [y1_7]) (by kernel_rfl)
    have hr1_1_7 := reads_elt Try.underlying63 hr1_1 7 (by decide) (l := [y1_8]) (by kernel_rfl)
    have hr1_1_8 := reads_elt Try.underlying63 hr1_1 8 (by decide) (l := [y1_9]) (by kernel_rfl)
    have hr1_1_9 := reads_elt Try.underlying63 hr1_1 9 (by decide) (l := [y1_10]) (by kernel_rfl)
    have hr1_1_10 := reads_elt Try.underlying63 hr1_1 10 (by decide) (l := [y1_11]) (by kernel_rfl)
    have hr1_1_11 := reads_elt Try.underlying63 hr1_1 11 (by decide) (l := [y1_12]) (by kernel_rfl)
    obtain ⟨n1_0, rfl, f1_0⟩ := reads_int Try.underlying23 hr1_0
    obtain ⟨n1_1, rfl, f1_1⟩ := reads_int Try.underlying21 hr1_1_0
    obtain ⟨n1_2, rfl, f1_2⟩ := reads_int Try.underlying21 hr1_1_1
    obtain ⟨n1_3, rfl, f1_3⟩ := reads_int Try.underlying21 hr1_1_2
    obtain ⟨n1_4, rfl, f1_4⟩ := reads_int Try.underlying21 hr1_1_3
    obtain ⟨n1_5, rfl, f1_5⟩ := reads_int Try.underlying21 hr1_1_4
    obtain ⟨n1_6, rfl, f1_6⟩ := reads_int Try.underlying21 hr1_1_5
    obtain ⟨n1_7, rfl, f1_7⟩ := reads_int Try.underlying21 hr1_1_6
    obtain ⟨n1_8, rfl, f1_8⟩ := reads_int Try.underlying21 hr1_1_7
    obtain ⟨n1_9, rfl, f1_9⟩ := reads_int Try.underlying21 hr1_1_8
    obtain ⟨n1_10, rfl, f1_10⟩ := reads_int Try.underlying21 hr1_1_9
    obtain ⟨n1_11, rfl, f1_11⟩ := reads_int Try.underlying21 hr1_1_10
    obtain ⟨n1_12, rfl, f1_12⟩ := reads_int Try.underlying21 hr1_1_11
    exact ⟨n1_0, n1_1, n1_2, n1_3, n1_4, n1_5, n1_6, n1_7, n1_8, n1_9, n1_10, n1_11, n1_12, rfl, f1_0, f1_1, f1_2, f1_3, f1_4, f1_5, f1_6, f1_7, f1_8, f1_9, f1_10, f1_11, f1_12⟩
  have k2 := h2
  have lt2 : ∀ x ∈ p2, x.block < W.heap.size := by obtain ⟨m, hm⟩ := k2; exact DataW.trod_lt m _ _ _ hm
  obtain ⟨a2, len2, cap2, x2, rfl, w2, g2⟩ := reads_els (m := 2) Try.underlying45 (by kernel_rfl) (by decide) (reads_sl Try.underlying45 (hval 2 45 v2 rfl rfl) h2 13)
  have t2 : ∀ x ∈ x2, (∃ (c0 : Int) (c1 : Int), x = [.int .i64 c0, .int .u8 c1] ∧ ((Lit.int .i64 c0).wf = true) ∧ ((Lit.int .u8 c1).wf = true)) := by
    intro x hx
    obtain ⟨hr2, hl2⟩ := (g2 x hx)
    obtain ⟨y2_0, y2_1, rfl⟩ := lenL2 hl2
    have hr2_0 := reads_fld Try.underlying50 hr2 0 _ rfl (l := [y2_0]) (by kernel_rfl)
    have hr2_1 := reads_fld Try.underlying50 hr2 1 _ rfl (l := [y2_1]) (by kernel_rfl)
    obtain ⟨n2_0, rfl, f2_0⟩ := reads_int Try.underlying3 hr2_0
    obtain ⟨n2_1, rfl, f2_1⟩ := reads_int Try.underlying5 hr2_1
    exact ⟨n2_0, n2_1, rfl, f2_0, f2_1⟩
  clear hA0 hval0
  refine (Go.Proofs.Ytlfbhfmchdbnoaa.law_RescueTrue a0 a1 len1 cap1 x1 a2 len2 cap2 x2 W w0 w1 t1 w2 t2).mono fun e W' ⟨he, bel⟩ => ?_
  subst he
  exact ⟨_, rfl, _, _, _, [], _, [], hW', trodAll_mk1 (shut_bool Try.underlying4 _), (trodAll_cons_mk (shut_int Try.underlying3 w0) (trodAll_cons_mk (Below.trod laidOut (by kernel_rfl) (of_decide_eq_true (by kernel_rfl)) k1 bel lt1) (trodAll_cons_mk (Below.trod laidOut (by kernel_rfl) (of_decide_eq_true (by kernel_rfl)) k2 bel lt2) trodAll_mk0))), rfl, bel.frame _, fun h => by cases h⟩

theorem over : Rows.rescueTrueRow.holds Try.pinned (OpenSpec.ofChange Rows.rescueTrueSpec) :=
  OpenClaim.holds_of_wide 5 Try.f5 rfl rfl rfl rfl rfl rfl rfl ⟨rfl, rfl, rfl, rfl, rfl⟩ rfl rfl rfl rfl rfl (by kernel_rfl) Try.func5 (by kernel_rfl)
    (of_decide_eq_true (by kernel_rfl)) (by unfold Func.isWrapper; first | (rw [if_pos (by decide +kernel)]; kernel_rfl) | (rw [if_neg (by decide +kernel)]; exact ⟨rfl, rfl⟩))
    (fun os started H enc _ => lifted os started H enc)

/-- The statement. -/
theorem proved : Rows.RescueTrueSaid := over
#print axioms proved
end Go.Proofs.Ytlfbhfmchdbnoaa.rescueTrue
