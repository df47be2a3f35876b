/- GapsTrue: for every input the law GapsTrue returns true and leaves what it was given as it was. Conditions: none beyond those of the row. The walk is law_GapsTrue of module Law33b. -/
import Derived.Test.YtjeiclfdhdcfnaaRows
import Derived.Test.YtjeiclfdhdcfnaaLaw33b
import Derived.WalkKit
import Derived.ProofKit
import Derived.OpenShut
import Derived.ShutString
import Derived.ChangeOld
import Derived.Below
import Derived.Lib.SmallJoins
namespace Go.Proofs.Ytjeiclfdhdcfnaa.gapsTrue
open Go.ChangeShapes Go.WideShapes Go.ChangeAt Go.RowKit
open Go.ChangeMaps (open_string shut_string)
set_option linter.unusedVariables false

theorem own : ownKnob Try.prog.godebug = none := by kernel_rfl
theorem laidOut : laidOutB Try.prog = true := by kernel_rfl
theorem lenL3 {l : List Value} (h : l.length = 3) : ∃ y0 y1 y2, l = [y0, y1, y2] := by
  match l, h with
  | [y0, y1, y2], _ => exact ⟨_, _, _, rfl⟩

set_option maxRecDepth 100000 in
theorem lifted (os : Os) (started : os.Started) (H : Type) (enc : TypeId × Value → H) :
    ReturnsInHanded {} Try.checked os 4 .any (Rows.gapsTrueSpec.pre6 enc Try.prog Try.f4 Rows.gapsTrueRow.domain false) (Rows.gapsTrueSpec.post enc Try.prog Try.f4 false true false false) := by
  refine returnsInHanded_of_change (C := Try.checked) own started (by kernel_rfl) Try.func4
    (ChangeSpec.witness6 (enc := enc) (C := Try.checked) false ⟨#[], #[.int .u8 0, .slice none 0 0, .slice none 0 0], []⟩ 8 (by kernel_rfl) (by kernel_rfl) (by kernel_rfl) (by kernel_rfl)) ?_
  intro W base args ds gs before hval0 hW hcnd _
  have hval : ∀ (j : Nat) t v, Try.f4.params[j]? = some t → args[j]? = some v → Value.okWide Try.prog W .any base t v := hval0
  have hW' := hW
  obtain ⟨p, q, hA0, hV, rfl, hfz, hnd⟩ := hW
  have hA : DataW.TrodAll enc Try.prog W 0 (fun _ => true) true Try.f4.params.toList args.toList ds p := hA0
  rw [Try.params4] at hA hval
  obtain ⟨v0, vs0, d0, ds0, p0, q0, hargs, rfl, rfl, h0, r0⟩ := trodAll_cons hA
  obtain ⟨v1, vs1, d1, ds1, p1, q1, rfl, rfl, rfl, h1, r1⟩ := trodAll_cons r0
  obtain ⟨v2, vs2, d2, ds2, p2, q2, rfl, rfl, rfl, h2, r2⟩ := trodAll_cons r1
  obtain ⟨rfl, rfl, rfl⟩ := trodAll_nil r2
  obtain rfl : args = #[v0, v1, v2] := by cases args; simp_all
  obtain ⟨rfl, rfl⟩ := trodVars_none hV
  obtain ⟨a0, rfl, rfl, rfl, w0⟩ := open_int Try.underlying5 (hval 0 5 v0 rfl rfl) h0
  obtain ⟨a1, len1, cap1, rfl⟩ := okWide_slice Try.underlying42 (hval 1 42 v1 rfl rfl)
  have k1 := h1
  have lt1 : ∀ x ∈ p1, x.block < W.heap.size := by obtain ⟨m, hm⟩ := k1; exact DataW.trod_lt m _ _ _ hm
  obtain ⟨z1, w1⟩ : ∃ zs, IsRow .u8 W a1 len1 cap1 zs := by
    obtain ⟨fuel, hf⟩ := h1
    rcases open_ints Try.underlying42 Try.underlying5 (by kernel_rfl) hf with ⟨hcs, _⟩ | ⟨x, l, c, zs, hcs, _, hl, hm, hz, _, hcell, hwz⟩
    · simp [Value.cells] at hcs
      obtain ⟨rfl, rfl, rfl⟩ := hcs
      exact ⟨[], .inl ⟨rfl, rfl, rfl, rfl⟩⟩
    · simp [Value.cells] at hcs
      obtain ⟨rfl, rfl, rfl⟩ := hcs
      exact ⟨zs, .inr ⟨_, rfl, hl, hm, by simpa using hz, hcell, hwz⟩⟩
  have k2 := h2
  have lt2 : ∀ x ∈ p2, x.block < W.heap.size := by obtain ⟨m, hm⟩ := k2; exact DataW.trod_lt m _ _ _ hm
  obtain ⟨a2, len2, cap2, x2, rfl, w2, g2⟩ := reads_els (m := 3) Try.underlying22 (by kernel_rfl) (by decide) (reads_sl Try.underlying22 (hval 2 22 v2 rfl rfl) h2 13)
  have t2 : ∀ x ∈ x2, (∃ (c0 : Int) (c1 : Int) (c2 : Int), x = [.int .i64 c0, .int .i64 c1, .int .i64 c2] ∧ ((Lit.int .i64 c0).wf = true) ∧ ((Lit.int .i64 c1).wf = true) ∧ ((Lit.int .i64 c2).wf = true)) := by
    intro x hx
    obtain ⟨hr1, hl1⟩ := (g2 x hx)
    obtain ⟨y1_0, y1_1, y1_2, rfl⟩ := lenL3 hl1
    have hr1_0 := reads_fld Try.underlying30 hr1 0 _ rfl (l := [y1_0]) (by kernel_rfl)
    have hr1_1 := reads_fld Try.underlying30 hr1 1 _ rfl (l := [y1_1]) (by kernel_rfl)
    have hr1_2 := reads_fld Try.underlying30 hr1 2 _ rfl (l := [y1_2]) (by kernel_rfl)
    obtain ⟨n1_0, rfl, f1_0⟩ := reads_int Try.underlying3 hr1_0
    obtain ⟨n1_1, rfl, f1_1⟩ := reads_int Try.underlying3 hr1_1
    obtain ⟨n1_2, rfl, f1_2⟩ := reads_int Try.underlying3 hr1_2
    exact ⟨n1_0, n1_1, n1_2, rfl, f1_0, f1_1, f1_2⟩
  clear hA0 hval0
  refine (Go.Proofs.Ytjeiclfdhdcfnaa.law_GapsTrue a0 a1 len1 cap1 z1 a2 len2 cap2 x2 W w0 w1 w2 t2).mono fun e W' ⟨he, bel⟩ => ?_
  subst he
  exact ⟨_, rfl, _, _, _, [], _, [], hW', trodAll_mk1 (shut_bool Try.underlying4 _), (trodAll_cons_mk (shut_int Try.underlying5 w0) (trodAll_cons_mk (Below.trod laidOut (by kernel_rfl) (of_decide_eq_true (by kernel_rfl)) k1 bel lt1) (trodAll_cons_mk (Below.trod laidOut (by kernel_rfl) (of_decide_eq_true (by kernel_rfl)) k2 bel lt2) trodAll_mk0))), rfl, bel.frame _, fun h => by cases h⟩

theorem over : Rows.gapsTrueRow.holds Try.pinned (OpenSpec.ofChange Rows.gapsTrueSpec) :=
  OpenClaim.holds_of_wide 4 Try.f4 rfl rfl rfl rfl rfl rfl rfl ⟨rfl, rfl, rfl, rfl, rfl⟩ rfl rfl rfl rfl rfl (by kernel_rfl) Try.func4 (by kernel_rfl)
    (of_decide_eq_true (by kernel_rfl)) (by unfold Func.isWrapper; first | (rw [if_pos (by decide +kernel)]; kernel_rfl) | (rw [if_neg (by decide +kernel)]; exact ⟨rfl, rfl⟩))
    (fun os started H enc _ => lifted os started H enc)

/-- The statement. -/
theorem proved : Rows.GapsTrueSaid := over
#print axioms proved
end Go.Proofs.Ytjeiclfdhdcfnaa.gapsTrue
