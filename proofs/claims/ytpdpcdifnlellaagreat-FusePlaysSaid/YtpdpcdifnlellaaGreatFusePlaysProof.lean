/- FusePlays: for every input the law FusePlays returns true and leaves what it was given as it was. Conditions: none beyond those of the row. The walk is law_FusePlays of module Law42c. -/
import Derived.Test.YtpdpcdifnlellaaGreatRows
import Derived.Test.YtpdpcdifnlellaaGreatLaw42c
import Derived.WalkKit
import Derived.ProofKit
import Derived.OpenShut
import Derived.ShutString
import Derived.ChangeOld
import Derived.Below
import Derived.Lib.SmallJoins
namespace Go.Proofs.YtpdpcdifnlellaaGreat.fusePlays
open Go.ChangeShapes Go.WideShapes Go.ChangeAt Go.RowKit
open Go.ChangeMaps (open_string shut_string)
set_option linter.unusedVariables false

theorem own : ownKnob Tryz.prog.godebug = none := by kernel_rfl
theorem laidOut : laidOutB Tryz.prog = true := by kernel_rfl
theorem lenL7 {l : List Value} (h : l.length = 7) : ∃ y0 y1 y2 y3 y4 y5 y6, l = [y0, y1, y2, y3, y4, y5, y6] := by
  match l, h with
  | [y0, y1, y2, y3, y4, y5, y6], _ => exact ⟨_, _, _, _, _, _, _, rfl⟩

set_option maxRecDepth 100000 in
theorem lifted (os : Os) (started : os.Started) (H : Type) (enc : TypeId × Value → H) :
    ReturnsInHanded {} Tryz.checked os 4 .any (Rows.fusePlaysSpec.pre6 enc Tryz.prog Tryz.f4 Rows.fusePlaysRow.domain false) (Rows.fusePlaysSpec.post enc Tryz.prog Tryz.f4 false true false false) := by
  refine returnsInHanded_of_change (C := Tryz.checked) own started (by kernel_rfl) Tryz.func4
    (ChangeSpec.witness6 (enc := enc) (C := Tryz.checked) false ⟨#[], #[.slice none 0 0], []⟩ 8 (by kernel_rfl) (by kernel_rfl) (by kernel_rfl) (by kernel_rfl)) ?_
  intro W base args ds gs before hval0 hW hcnd _
  have hval : ∀ (j : Nat) t v, Tryz.f4.params[j]? = some t → args[j]? = some v → Value.okWide Tryz.prog W .any base t v := hval0
  have hW' := hW
  obtain ⟨p, q, hA0, hV, rfl, hfz, hnd⟩ := hW
  have hA : DataW.TrodAll enc Tryz.prog W 0 (fun _ => true) true Tryz.f4.params.toList args.toList ds p := hA0
  rw [Tryz.params4] at hA hval
  obtain ⟨v0, vs0, d0, ds0, p0, q0, hargs, rfl, rfl, h0, r0⟩ := trodAll_cons hA
  obtain ⟨rfl, rfl, rfl⟩ := trodAll_nil r0
  obtain rfl : args = #[v0] := by cases args; simp_all
  obtain ⟨rfl, rfl⟩ := trodVars_none hV
  have k0 := h0
  have lt0 : ∀ x ∈ p0, x.block < W.heap.size := by obtain ⟨m, hm⟩ := k0; exact DataW.trod_lt m _ _ _ hm
  obtain ⟨a0, len0, cap0, x0, rfl, w0, g0⟩ := reads_els (m := 7) Tryz.underlying42 (by kernel_rfl) (by decide) (reads_sl Tryz.underlying42 (hval 0 42 v0 rfl rfl) h0 13)
  have t0 : ∀ x ∈ x0, (∃ (c0 : Int) (c1 : Int) (c2 : Int) (c3 : Int) (c4 : Int) (c5 : Int) (c6 : Int), x = [.int .i32 c0, .int .i32 c1, .int .i32 c2, .int .i32 c3, .int .i32 c4, .int .i32 c5, .int .i32 c6] ∧ ((Lit.int .i32 c0).wf = true) ∧ ((Lit.int .i32 c1).wf = true) ∧ ((Lit.int .i32 c2).wf = true) ∧ ((Lit.int .i32 c3).wf = true) ∧ ((Lit.int .i32 c4).wf = true) ∧ ((Lit.int .i32 c5).wf = true) ∧ ((Lit.int .i32 c6).wf = true)) := by
    intro x hx
    obtain ⟨hr1, hl1⟩ := (g0 x hx)
    obtain ⟨y1_0, y1_1, y1_2, y1_3, y1_4, y1_5, y1_6, rfl⟩ := lenL7 hl1
    have hr1_0 := reads_fld Tryz.underlying29 hr1 0 _ rfl (l := [y1_0, y1_1, y1_2]) (by kernel_rfl)
    have hr1_0_0 := reads_fld Tryz.underlying25 hr1_0 0 _ rfl (l := [y1_0]) (by kernel_rfl)
    have hr1_0_1 := reads_fld Tryz.underlying25 hr1_0 1 _ rfl (l := [y1_1]) (by kernel_rfl)
    have hr1_0_2 := reads_fld Tryz.underlying25 hr1_0 2 _ rfl (l := [y1_2]) (by kernel_rfl)
    have hr1_1 := reads_fld Tryz.underlying29 hr1 1 _ rfl (l := [y1_3, y1_4, y1_5]) (by kernel_rfl)
    have hr1_1_0 := reads_fld Tryz.underlying25 hr1_1 0 _ rfl (l := [y1_3]) (by kernel_rfl)
    have hr1_1_1 := reads_fld Tryz.underlying25 hr1_1 1 _ rfl (l := [y1_4]) (by kernel_rfl)
    have hr1_1_2 := reads_fld Tryz.underlying25 hr1_1 2 _ rfl (l := [y1_5]) (by kernel_rfl)
    have hr1_2 := reads_fld Tryz.underlying29 hr1 2 _ rfl (l := [y1_6]) (by kernel_rfl)
    obtain ⟨n1_0, rfl, f1_0⟩ := reads_int Tryz.underlying21 hr1_0_0
    obtain ⟨n1_1, rfl, f1_1⟩ := reads_int Tryz.underlying21 hr1_0_1
    obtain ⟨n1_2, rfl, f1_2⟩ := reads_int Tryz.underlying21 hr1_0_2
    obtain ⟨n1_3, rfl, f1_3⟩ := reads_int Tryz.underlying21 hr1_1_0
    obtain ⟨n1_4, rfl, f1_4⟩ := reads_int Tryz.underlying21 hr1_1_1
    obtain ⟨n1_5, rfl, f1_5⟩ := reads_int Tryz.underlying21 hr1_1_2
    obtain ⟨n1_6, rfl, f1_6⟩ := reads_int Tryz.underlying21 hr1_2
    exact ⟨n1_0, n1_1, n1_2, n1_3, n1_4, n1_5, n1_6, rfl, f1_0, f1_1, f1_2, f1_3, f1_4, f1_5, f1_6⟩
  clear hA0 hval0
  refine (Go.Proofs.YtpdpcdifnlellaaGreat.law_FusePlays a0 len0 cap0 x0 W w0 t0).mono fun e W' ⟨he, bel⟩ => ?_
  subst he
  exact ⟨_, rfl, _, _, _, [], _, [], hW', trodAll_mk1 (shut_bool Tryz.underlying4 _), (trodAll_cons_mk (Below.trod laidOut (by kernel_rfl) (of_decide_eq_true (by kernel_rfl)) k0 bel lt0) trodAll_mk0), rfl, bel.frame _, fun h => by cases h⟩

theorem over : Rows.fusePlaysRow.holds Tryz.pinned (OpenSpec.ofChange Rows.fusePlaysSpec) :=
  OpenClaim.holds_of_wide 4 Tryz.f4 rfl rfl rfl rfl rfl rfl rfl ⟨rfl, rfl, rfl, rfl, rfl⟩ rfl rfl rfl rfl rfl (by kernel_rfl) Tryz.func4 (by kernel_rfl)
    (of_decide_eq_true (by kernel_rfl)) (by unfold Func.isWrapper; first | (rw [if_pos (by decide +kernel)]; kernel_rfl) | (rw [if_neg (by decide +kernel)]; exact ⟨rfl, rfl⟩))
    (fun os started H enc _ => lifted os started H enc)

/-- The statement. -/
theorem proved : Rows.FusePlaysSaid := over
#print axioms proved
end Go.Proofs.YtpdpcdifnlellaaGreat.fusePlays
