/- DopBack: for every input the law DopBack returns true and leaves what it was given as it was. Conditions: none beyond those of the row. The walk is law_DopBack of module Law18c. -/
import Derived.Test.YtalmkeehocakeaaRows
import Derived.Test.YtalmkeehocakeaaLaw18c
import Derived.WalkKit
import Derived.ProofKit
import Derived.OpenShut
import Derived.ShutString
import Derived.ChangeOld
import Derived.Below
import Derived.Lib.SmallJoins
namespace Go.Proofs.Ytalmkeehocakeaa.dopBack
open Go.ChangeShapes Go.WideShapes Go.ChangeAt Go.RowKit
open Go.ChangeMaps (open_string shut_string)
set_option linter.unusedVariables false

theorem own : ownKnob Try.prog.godebug = none := by kernel_rfl
theorem laidOut : laidOutB Try.prog = true := by kernel_rfl

set_option maxRecDepth 100000 in
theorem lifted (os : Os) (started : os.Started) (H : Type) (enc : TypeId × Value → H) :
    ReturnsInHanded {} Try.checked os 4 .any (Rows.dopBackSpec.pre6 enc Try.prog Try.f4 Rows.dopBackRow.domain false) (Rows.dopBackSpec.post enc Try.prog Try.f4 false true false false) := by
  refine returnsInHanded_of_change (C := Try.checked) own started (by kernel_rfl) Try.func4
    (ChangeSpec.witness6 (enc := enc) (C := Try.checked) false ⟨#[], #[.agg #[.int .i64 0, .int .i64 0, .int .i64 0, .int .i64 0, .int .i64 0, .int .i64 0, .int .i64 0, .int .i64 0], .slice none 0 0], []⟩ 8 (by kernel_rfl) (by kernel_rfl) (by kernel_rfl) (by kernel_rfl)) ?_
  intro W base args ds gs before hval0 hW hcnd _
  have hval : ∀ (j : Nat) t v, Try.f4.params[j]? = some t → args[j]? = some v → Value.okWide Try.prog W .any base t v := hval0
  have hW' := hW
  obtain ⟨p, q, hA0, hV, rfl, hfz, hnd⟩ := hW
  have hA : DataW.TrodAll enc Try.prog W 0 (fun _ => true) true Try.f4.params.toList args.toList ds p := hA0
  rw [Try.params4] at hA hval
  obtain ⟨v0, vs0, d0, ds0, p0, q0, hargs, rfl, rfl, h0, r0⟩ := trodAll_cons hA
  obtain ⟨v1, vs1, d1, ds1, p1, q1, rfl, rfl, rfl, h1, r1⟩ := trodAll_cons r0
  obtain ⟨rfl, rfl, rfl⟩ := trodAll_nil r1
  obtain rfl : args = #[v0, v1] := by cases args; simp_all
  obtain ⟨rfl, rfl⟩ := trodVars_none hV
  have k0 := h0
  have lt0 : ∀ x ∈ p0, x.block < W.heap.size := by obtain ⟨m, hm⟩ := k0; exact DataW.trod_lt m _ _ _ hm
  obtain ⟨l0, rfl, hl0, hg0⟩ := agg_open (P := Try.prog) (t := 23) ⟨Try.underlying23, by kernel_rfl, by intro j f hj; rcases j with _ | _ | _ | _ | _ | _ | _ | _ | j <;> simp at hj <;> subst hj <;> exact ⟨rfl, by kernel_rfl⟩⟩ (hval 0 23 v0 rfl rfl) h0
  obtain ⟨c0_0, c0_1, c0_2, c0_3, c0_4, c0_5, c0_6, c0_7, rfl⟩ := list_of8 (l := l0) hl0
  obtain ⟨x0_0, n0_0, y0_0, e0_0, hy0_0⟩ := hg0 0 _ rfl
  simp at e0_0
  subst e0_0
  obtain ⟨a0_0, rfl, w0_0⟩ := typ_int Try.underlying2 hy0_0
  obtain ⟨x0_1, n0_1, y0_1, e0_1, hy0_1⟩ := hg0 1 _ rfl
  simp at e0_1
  subst e0_1
  obtain ⟨a0_1, rfl, w0_1⟩ := typ_int Try.underlying2 hy0_1
  obtain ⟨x0_2, n0_2, y0_2, e0_2, hy0_2⟩ := hg0 2 _ rfl
  simp at e0_2
  subst e0_2
  obtain ⟨a0_2, rfl, w0_2⟩ := typ_int Try.underlying2 hy0_2
  obtain ⟨x0_3, n0_3, y0_3, e0_3, hy0_3⟩ := hg0 3 _ rfl
  simp at e0_3
  subst e0_3
  obtain ⟨a0_3, rfl, w0_3⟩ := typ_int Try.underlying2 hy0_3
  obtain ⟨x0_4, n0_4, y0_4, e0_4, hy0_4⟩ := hg0 4 _ rfl
  simp at e0_4
  subst e0_4
  obtain ⟨a0_4, rfl, w0_4⟩ := typ_int Try.underlying2 hy0_4
  obtain ⟨x0_5, n0_5, y0_5, e0_5, hy0_5⟩ := hg0 5 _ rfl
  simp at e0_5
  subst e0_5
  obtain ⟨a0_5, rfl, w0_5⟩ := typ_int Try.underlying2 hy0_5
  obtain ⟨x0_6, n0_6, y0_6, e0_6, hy0_6⟩ := hg0 6 _ rfl
  simp at e0_6
  subst e0_6
  obtain ⟨a0_6, rfl, w0_6⟩ := typ_int Try.underlying2 hy0_6
  obtain ⟨x0_7, n0_7, y0_7, e0_7, hy0_7⟩ := hg0 7 _ rfl
  simp at e0_7
  subst e0_7
  obtain ⟨a0_7, rfl, w0_7⟩ := typ_int Try.underlying2 hy0_7
  obtain ⟨a1, len1, cap1, rfl⟩ := okWide_slice Try.underlying24 (hval 1 24 v1 rfl rfl)
  have k1 := h1
  have lt1 : ∀ x ∈ p1, x.block < W.heap.size := by obtain ⟨m, hm⟩ := k1; exact DataW.trod_lt m _ _ _ hm
  obtain ⟨z1, w1⟩ : ∃ zs, IsRow .u8 W a1 len1 cap1 zs := by
    obtain ⟨fuel, hf⟩ := h1
    rcases open_ints Try.underlying24 Try.underlying5 (by kernel_rfl) hf with ⟨hcs, _⟩ | ⟨x, l, c, zs, hcs, _, hl, hm, hz, _, hcell, hwz⟩
    · simp [Value.cells] at hcs
      obtain ⟨rfl, rfl, rfl⟩ := hcs
      exact ⟨[], .inl ⟨rfl, rfl, rfl, rfl⟩⟩
    · simp [Value.cells] at hcs
      obtain ⟨rfl, rfl, rfl⟩ := hcs
      exact ⟨zs, .inr ⟨_, rfl, hl, hm, by simpa using hz, hcell, hwz⟩⟩
  clear hA0 hval0
  refine (Go.Proofs.Ytalmkeehocakeaa.law_DopBack a0_0 a0_1 a0_2 a0_3 a0_4 a0_5 a0_6 a0_7 a1 len1 cap1 z1 W w0_0 w0_1 w0_2 w0_3 w0_4 w0_5 w0_6 w0_7 w1).mono fun e W' ⟨he, bel⟩ => ?_
  subst he
  exact ⟨_, rfl, _, _, _, [], _, [], hW', trodAll_mk1 (shut_bool Try.underlying4 _), (trodAll_cons_mk (Below.trod laidOut (by kernel_rfl) (of_decide_eq_true (by kernel_rfl)) k0 bel lt0) (trodAll_cons_mk (Below.trod laidOut (by kernel_rfl) (of_decide_eq_true (by kernel_rfl)) k1 bel lt1) trodAll_mk0)), rfl, bel.frame _, fun h => by cases h⟩

theorem over : Rows.dopBackRow.holds Try.pinned (OpenSpec.ofChange Rows.dopBackSpec) :=
  OpenClaim.holds_of_wide 4 Try.f4 rfl rfl rfl rfl rfl rfl rfl ⟨rfl, rfl, rfl, rfl, rfl⟩ rfl rfl rfl rfl rfl (by kernel_rfl) Try.func4 (by kernel_rfl)
    (of_decide_eq_true (by kernel_rfl)) (by unfold Func.isWrapper; first | (rw [if_pos (by decide +kernel)]; kernel_rfl) | (rw [if_neg (by decide +kernel)]; exact ⟨rfl, rfl⟩))
    (fun os started H enc _ => lifted os started H enc)

/-- The statement. -/
theorem proved : Rows.DopBackSaid := over
#print axioms proved
end Go.Proofs.Ytalmkeehocakeaa.dopBack
