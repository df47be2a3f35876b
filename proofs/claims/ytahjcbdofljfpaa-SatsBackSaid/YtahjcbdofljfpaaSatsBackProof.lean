/- SatsBack: for every input the law SatsBack returns true and leaves what it was given as it was. Conditions: none beyond those of the row. The walk is law_SatsBack of module Law17c. -/
import Derived.Test.YtahjcbdofljfpaaRows
import Derived.Test.YtahjcbdofljfpaaLaw17c
import Derived.WalkKit
import Derived.ProofKit
import Derived.OpenShut
import Derived.ShutString
import Derived.ChangeOld
import Derived.Below
import Derived.Lib.SmallJoins
namespace Go.Proofs.Ytahjcbdofljfpaa.satsBack
open Go.ChangeShapes Go.WideShapes Go.ChangeAt Go.RowKit
open Go.ChangeMaps (open_string shut_string)
set_option linter.unusedVariables false

theorem own : ownKnob Try.prog.godebug = none := by kernel_rfl
theorem laidOut : laidOutB Try.prog = true := by kernel_rfl
theorem len2 {l : List Value} (h : l.length = 2) : ∃ y0 y1, l = [y0, y1] := by
  match l, h with
  | [y0, y1], _ => exact ⟨_, _, rfl⟩
theorem len7 {l : List Value} (h : l.length = 7) : ∃ y0 y1 y2 y3 y4 y5 y6, l = [y0, y1, y2, y3, y4, y5, y6] := by
  match l, h with
  | [y0, y1, y2, y3, y4, y5, y6], _ => exact ⟨_, _, _, _, _, _, _, rfl⟩

set_option maxRecDepth 100000 in
theorem lifted (os : Os) (started : os.Started) (H : Type) (enc : TypeId × Value → H) :
    ReturnsInHanded {} Try.checked os 5 .any (Rows.satsBackSpec.pre6 enc Try.prog Try.f5 Rows.satsBackRow.domain false) (Rows.satsBackSpec.post enc Try.prog Try.f5 false true false false) := by
  refine returnsInHanded_of_change (C := Try.checked) own started (by kernel_rfl) Try.func5
    (ChangeSpec.witness6 (enc := enc) (C := Try.checked) false ⟨#[], #[.agg #[.int .i64 0, .slice none 0 0], .slice none 0 0], []⟩ 8 (by kernel_rfl) (by kernel_rfl) (by kernel_rfl) (by kernel_rfl)) ?_
  intro W base args ds gs before hval0 hW hcnd _
  have hval : ∀ (j : Nat) t v, Try.f5.params[j]? = some t → args[j]? = some v → Value.okWide Try.prog W .any base t v := hval0
  have hW' := hW
  obtain ⟨p, q, hA0, hV, rfl, hfz, hnd⟩ := hW
  have hA : DataW.TrodAll enc Try.prog W 0 (fun _ => true) true Try.f5.params.toList args.toList ds p := hA0
  rw [Try.params5] at hA hval
  obtain ⟨v0, vs0, d0, ds0, p0, q0, hargs, rfl, rfl, h0, r0⟩ := trodAll_cons hA
  obtain ⟨v1, vs1, d1, ds1, p1, q1, rfl, rfl, rfl, h1, r1⟩ := trodAll_cons r0
  obtain ⟨rfl, rfl, rfl⟩ := trodAll_nil r1
  obtain rfl : args = #[v0, v1] := by cases args; simp_all
  obtain ⟨rfl, rfl⟩ := trodVars_none hV
  have k0 := h0
  have lt0 : ∀ x ∈ p0, x.block < W.heap.size := by obtain ⟨m, hm⟩ := k0; exact DataW.trod_lt m _ _ _ hm
  obtain ⟨l0, rfl, hl0, hr0⟩ := reads_agg (P := Try.prog) Try.underlying24 (hval 0 24 v0 rfl rfl) h0 12
  have hl0' : l0.length = 2 := hl0.trans (by kernel_rfl)
  obtain ⟨y0_0, y0_1, rfl⟩ := len2 hl0'
  have hr0_0 := reads_fld Try.underlying24 hr0 0 _ rfl (l := [y0_0]) (by kernel_rfl)
  have hr0_1 := reads_fld Try.underlying24 hr0 1 _ rfl (l := [y0_1]) (by kernel_rfl)
  obtain ⟨a0_0, rfl, w0_0⟩ := reads_int Try.underlying2 hr0_0
  obtain ⟨a0_1, len0_1, cap0_1, x0_1, rfl, w0_1, g0_1⟩ := reads_els (m := 7) Try.underlying22 (by kernel_rfl) (by decide) hr0_1
  have t0_1 : ∀ x ∈ x0_1, (∃ (c0 : Int) (c1 : Int) (c2 : Int) (c3 : Int) (c4 : Int) (c5 : Int) (c6 : Int), x = [.int .i64 c0, .int .i64 c1, .int .i64 c2, .int .i64 c3, .int .i64 c4, .int .i64 c5, .int .i64 c6] ∧ ((Lit.int .i64 c0).wf = true) ∧ ((Lit.int .i64 c1).wf = true) ∧ ((Lit.int .i64 c2).wf = true) ∧ ((Lit.int .i64 c3).wf = true) ∧ ((Lit.int .i64 c4).wf = true) ∧ ((Lit.int .i64 c5).wf = true) ∧ ((Lit.int .i64 c6).wf = true)) := by
    intro x hx
    obtain ⟨hr1, hl1⟩ := (g0_1 x hx)
    obtain ⟨y1_0, y1_1, y1_2, y1_3, y1_4, y1_5, y1_6, rfl⟩ := len7 hl1
    have hr1_0 := reads_fld Try.underlying49 hr1 0 _ rfl (l := [y1_0]) (by kernel_rfl)
    have hr1_1 := reads_fld Try.underlying49 hr1 1 _ rfl (l := [y1_1]) (by kernel_rfl)
    have hr1_2 := reads_fld Try.underlying49 hr1 2 _ rfl (l := [y1_2]) (by kernel_rfl)
    have hr1_3 := reads_fld Try.underlying49 hr1 3 _ rfl (l := [y1_3]) (by kernel_rfl)
    have hr1_4 := reads_fld Try.underlying49 hr1 4 _ rfl (l := [y1_4]) (by kernel_rfl)
    have hr1_5 := reads_fld Try.underlying49 hr1 5 _ rfl (l := [y1_5]) (by kernel_rfl)
    have hr1_6 := reads_fld Try.underlying49 hr1 6 _ rfl (l := [y1_6]) (by kernel_rfl)
    obtain ⟨n1_0, rfl, f1_0⟩ := reads_int Try.underlying2 hr1_0
    obtain ⟨n1_1, rfl, f1_1⟩ := reads_int Try.underlying2 hr1_1
    obtain ⟨n1_2, rfl, f1_2⟩ := reads_int Try.underlying2 hr1_2
    obtain ⟨n1_3, rfl, f1_3⟩ := reads_int Try.underlying2 hr1_3
    obtain ⟨n1_4, rfl, f1_4⟩ := reads_int Try.underlying2 hr1_4
    obtain ⟨n1_5, rfl, f1_5⟩ := reads_int Try.underlying2 hr1_5
    obtain ⟨n1_6, rfl, f1_6⟩ := reads_int Try.underlying2 hr1_6
    exact ⟨n1_0, n1_1, n1_2, n1_3, n1_4, n1_5, n1_6, rfl, f1_0, f1_1, f1_2, f1_3, f1_4, f1_5, f1_6⟩
  obtain ⟨a1, len1, cap1, rfl⟩ := okWide_slice Try.underlying26 (hval 1 26 v1 rfl rfl)
  have k1 := h1
  have lt1 : ∀ x ∈ p1, x.block < W.heap.size := by obtain ⟨m, hm⟩ := k1; exact DataW.trod_lt m _ _ _ hm
  obtain ⟨z1, w1⟩ : ∃ zs, IsRow .u8 W a1 len1 cap1 zs := by
    obtain ⟨fuel, hf⟩ := h1
    rcases open_ints Try.underlying26 Try.underlying5 (by kernel_rfl) hf with ⟨hcs, _⟩ | ⟨x, l, c, zs, hcs, _, hl, hm, hz, _, hcell, hwz⟩
    · simp [Value.cells] at hcs
      obtain ⟨rfl, rfl, rfl⟩ := hcs
      exact ⟨[], .inl ⟨rfl, rfl, rfl, rfl⟩⟩
    · simp [Value.cells] at hcs
      obtain ⟨rfl, rfl, rfl⟩ := hcs
      exact ⟨zs, .inr ⟨_, rfl, hl, hm, by simpa using hz, hcell, hwz⟩⟩
  clear hA0 hval0
  refine (Go.Proofs.Ytahjcbdofljfpaa.law_SatsBack a0_0 a0_1 len0_1 cap0_1 x0_1 a1 len1 cap1 z1 W w0_0 w0_1 t0_1 w1).mono fun e W' ⟨he, bel⟩ => ?_
  subst he
  exact ⟨_, rfl, _, _, _, [], _, [], hW', trodAll_mk1 (shut_bool Try.underlying4 _), (trodAll_cons_mk (Below.trod laidOut (by kernel_rfl) (of_decide_eq_true (by kernel_rfl)) k0 bel lt0) (trodAll_cons_mk (Below.trod laidOut (by kernel_rfl) (of_decide_eq_true (by kernel_rfl)) k1 bel lt1) trodAll_mk0)), rfl, bel.frame _, fun h => by cases h⟩

theorem over : Rows.satsBackRow.holds Try.pinned (OpenSpec.ofChange Rows.satsBackSpec) :=
  OpenClaim.holds_of_wide 5 Try.f5 rfl rfl rfl rfl rfl rfl rfl ⟨rfl, rfl, rfl, rfl, rfl⟩ rfl rfl rfl rfl rfl (by kernel_rfl) Try.func5 (by kernel_rfl)
    (of_decide_eq_true (by kernel_rfl)) (by unfold Func.isWrapper; first | (rw [if_pos (by decide +kernel)]; kernel_rfl) | (rw [if_neg (by decide +kernel)]; exact ⟨rfl, rfl⟩))
    (fun os started H enc _ => lifted os started H enc)

/-- The statement. -/
theorem proved : Rows.SatsBackSaid := over
#print axioms proved
end Go.Proofs.Ytahjcbdofljfpaa.satsBack
