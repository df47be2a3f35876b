/- SentenceBack: for every input the law SentenceBack returns true and leaves what it was given as it was. Conditions: none beyond those of the row. The walk is law_SentenceBack of module Law22b. -/
import Derived.Test.YtookhpmpngacjaaRows
import Derived.Test.YtookhpmpngacjaaLaw22b
import Derived.WalkKit
import Derived.ProofKit
import Derived.OpenShut
import Derived.ShutString
import Derived.ChangeOld
import Derived.Below
import Derived.Lib.SmallJoins
namespace Go.Proofs.Ytookhpmpngacjaa.sentenceBack
open Go.ChangeShapes Go.WideShapes Go.ChangeAt Go.RowKit
open Go.ChangeMaps (open_string shut_string)
set_option linter.unusedVariables false

theorem own : ownKnob Try.prog.godebug = none := by kernel_rfl
theorem laidOut : laidOutB Try.prog = true := by kernel_rfl
theorem lenL1 {l : List Value} (h : l.length = 1) : ∃ y0, l = [y0] := by
  match l, h with
  | [y0], _ => exact ⟨_, rfl⟩
theorem lenL3 {l : List Value} (h : l.length = 3) : ∃ y0 y1 y2, l = [y0, y1, y2] := by
  match l, h with
  | [y0, y1, y2], _ => exact ⟨_, _, _, rfl⟩

set_option maxRecDepth 100000 in
theorem lifted (os : Os) (started : os.Started) (H : Type) (enc : TypeId × Value → H) :
    ReturnsInHanded {} Try.checked os 5 .any (Rows.sentenceBackSpec.pre6 enc Try.prog Try.f5 Rows.sentenceBackRow.domain false) (Rows.sentenceBackSpec.post enc Try.prog Try.f5 false true false false) := by
  refine returnsInHanded_of_change (C := Try.checked) own started (by kernel_rfl) Try.func5
    (ChangeSpec.witness6 (enc := enc) (C := Try.checked) false ⟨#[], #[.agg #[.string ⟨#[]⟩, .string ⟨#[]⟩, .slice none 0 0], .string ⟨#[]⟩], []⟩ 8 (by kernel_rfl) (by kernel_rfl) (by kernel_rfl) (by kernel_rfl)) ?_
  intro W base args ds gs before hval0 hW hcnd _
  have hval : ∀ (j : Nat) t v, Try.f5.params[j]? = some t → args[j]? = some v → Value.okWide Try.prog W .any base t v := hval0
  have hW' := hW
  obtain ⟨p, q, hA0, hV, rfl, hfz, hnd⟩ := hW
  have hA : DataW.TrodAll enc Try.prog W 0 (fun _ => true) true Try.f5.params.toList args.toList ds p := hA0
  rw [Try.params5] at hA hval
  obtain ⟨v0, vs0, d0, ds0, p0, q0, hargs, rfl, rfl, h0, r0⟩ := trodAll_cons hA
  obtain ⟨v1, vs1, d1, ds1, p1, q1, rfl, rfl, rfl, h1, r1⟩ := trodAll_cons r0
  obtain ⟨rfl, rfl, rfl⟩ := trodAll_nil r1
  obtain rfl : args = #[v0, v1] := by cases args; simp_all
  obtain ⟨rfl, rfl⟩ := trodVars_none hV
  have k0 := h0
  have lt0 : ∀ x ∈ p0, x.block < W.heap.size := by obtain ⟨m, hm⟩ := k0; exact DataW.trod_lt m _ _ _ hm
  obtain ⟨l0, rfl, hl0, hr0⟩ := reads_agg (P := Try.prog) Try.underlying24 (hval 0 24 v0 rfl rfl) h0 12
  have hl0' : l0.length = 3 := hl0.trans (by kernel_rfl)
  obtain ⟨y0_0, y0_1, y0_2, rfl⟩ := lenL3 hl0'
  have hr0_0 := reads_fld Try.underlying24 hr0 0 _ rfl (l := [y0_0]) (by kernel_rfl)
  have hr0_1 := reads_fld Try.underlying24 hr0 1 _ rfl (l := [y0_1]) (by kernel_rfl)
  have hr0_2 := reads_fld Try.underlying24 hr0 2 _ rfl (l := [y0_2]) (by kernel_rfl)
  obtain ⟨a0_0, rfl, w0_0⟩ := reads_string Try.underlying9 hr0_0
  obtain ⟨a0_1, rfl, w0_1⟩ := reads_string Try.underlying9 hr0_1
  obtain ⟨a0_2, len0_2, cap0_2, x0_2, rfl, w0_2, g0_2⟩ := reads_els (m := 1) Try.underlying22 (by kernel_rfl) (by decide) hr0_2
  have t0_2 : ∀ x ∈ x0_2, (∃ (c0 : ByteArray), x = [.string c0] ∧ (c0.size ≤ maxLen)) := by
    intro x hx
    obtain ⟨hr1, hl1⟩ := (g0_2 x hx)
    obtain ⟨y1_0, rfl⟩ := lenL1 hl1
    obtain ⟨n1_0, rfl, f1_0⟩ := reads_string Try.underlying9 hr1
    exact ⟨n1_0, rfl, f1_0⟩
  have k1 := h1
  have lt1 : ∀ x ∈ p1, x.block < W.heap.size := by obtain ⟨m, hm⟩ := k1; exact DataW.trod_lt m _ _ _ hm
  obtain ⟨a1, rfl, hd1, rfl, _⟩ := open_string Try.underlying9 (hval 1 9 v1 rfl rfl) h1
  have w1 : a1.size ≤ maxLen := by obtain ⟨m, hm⟩ := k1; exact (DataW.trod_string Try.underlying9 hm).elim (fun _ h => by simp_all)
  clear hA0 hval0
  refine (Go.Proofs.Ytookhpmpngacjaa.law_SentenceBack a0_0 a0_1 a0_2 len0_2 cap0_2 x0_2 a1 W w0_0 w0_1 w0_2 t0_2 w1).mono fun e W' ⟨he, bel⟩ => ?_
  subst he
  exact ⟨_, rfl, _, _, _, [], _, [], hW', trodAll_mk1 (shut_bool Try.underlying4 _), (trodAll_cons_mk (Below.trod laidOut (by kernel_rfl) (of_decide_eq_true (by kernel_rfl)) k0 bel lt0) (trodAll_cons_mk (Below.trod laidOut (by kernel_rfl) (of_decide_eq_true (by kernel_rfl)) k1 bel lt1) trodAll_mk0)), rfl, bel.frame _, fun h => by cases h⟩

theorem over : Rows.sentenceBackRow.holds Try.pinned (OpenSpec.ofChange Rows.sentenceBackSpec) :=
  OpenClaim.holds_of_wide 5 Try.f5 rfl rfl rfl rfl rfl rfl rfl ⟨rfl, rfl, rfl, rfl, rfl⟩ rfl rfl rfl rfl rfl (by kernel_rfl) Try.func5 (by kernel_rfl)
    (of_decide_eq_true (by kernel_rfl)) (by unfold Func.isWrapper; first | (rw [if_pos (by decide +kernel)]; kernel_rfl) | (rw [if_neg (by decide +kernel)]; exact ⟨rfl, rfl⟩))
    (fun os started H enc _ => lifted os started H enc)

/-- The statement. -/
theorem proved : Rows.SentenceBackSaid := over
#print axioms proved
end Go.Proofs.Ytookhpmpngacjaa.sentenceBack
