/- DecimNil: for every input the law DecimNil returns true and leaves what it was given as it was. Conditions: none beyond those of the row. The walk is law_DecimNil of module Law23d. -/
import Derived.Test.YtelffhelelbfiaaDoorRows
import Derived.Test.YtelffhelelbfiaaDoorTie
import Derived.Test.YtelffhelelbfiaaDoorCards
import Derived.Test.YtelffhelelbfiaaDoorTie23
import Derived.Lay
import Derived.LaidOnce
import Derived.SevenTiedAt
import Derived.Handed
import Derived.MakeChecks
import Derived.Test.YtelffhelelbfiaaDoorLaw23d
import Derived.WalkKit
import Derived.ProofKit
import Derived.OpenShut
import Derived.ShutString
import Derived.ChangeOld
import Derived.Below
import Derived.Lib.SmallJoins
namespace Go.Proofs.YtelffhelelbfiaaDoor.decimNil
open Go.ChangeShapes Go.WideShapes Go.ChangeAt Go.RowKit
open Go.ChangeMaps (open_string shut_string)
set_option linter.unusedVariables false

theorem own : ownKnob Tryd.prog.godebug = none := by kernel_rfl
theorem plainAll : (Rows.decimNilRow.laid.all fun x => x.2.handleName?.isNone) = true := by kernel_rfl
theorem laidOut : laidOutB Tryd.prog = true := by kernel_rfl
theorem lenL2 {l : List Value} (h : l.length = 2) : ∃ y0 y1, l = [y0, y1] := by
  match l, h with
  | [y0, y1], _ => exact ⟨_, _, rfl⟩
theorem lenL5 {l : List Value} (h : l.length = 5) : ∃ y0 y1 y2 y3 y4, l = [y0, y1, y2, y3, y4] := by
  match l, h with
  | [y0, y1, y2, y3, y4], _ => exact ⟨_, _, _, _, _, rfl⟩

set_option maxRecDepth 100000 in
theorem lifted (os : Os) (started : os.Started) (H : Type) (enc : TypeId × Value → H) :
    ReturnsInHanded {} Tryd.checked os 6 .any (fun w args => (Rows.decimNilSpec.pre enc Tryd.prog Tryd.f6 Rows.decimNilRow.domain false w args ∧ laidMetH Tryd.prog Rows.decimNilRow.laid w) ∧ sizedMet enc Tryd.prog Tryd.f6 (OpenSpec.ofChange Rows.decimNilSpec) false w args) (Rows.decimNilSpec.post enc Tryd.prog Tryd.f6 false true false false) := by
  refine returnsInHanded_of_change_and (C := Tryd.checked) (X := fun w _ => laidMetH Tryd.prog Rows.decimNilRow.laid w) (fun _ _ _ hh h => h.of_heap hh) own started (by kernel_rfl) Tryd.func6
    (ChangeSpec.witness_shaped (enc := enc) (C := Tryd.checked) (os := os) (X := fun w _ => laidMetH Tryd.prog Rows.decimNilRow.laid w) false (World.laidAll Tryd.prog os Rows.decimNilRow.laid) #[.agg #[.bool false, .int .i64 0], .agg #[.int .i64 0, .int .i64 0, .int .i64 0, .int .i64 0, .int .i64 0]] 12 (World.laidAll_os _ _ _)
      (World.shaped_of_ZipB (by kernel_rfl) (by kernel_rfl)) (by kernel_rfl) (by kernel_rfl) (by kernel_rfl)
      (by rw [MakeChecks.laidMetH_plain _ _ _ plainAll]; exact laidMet_laidAll _ (by kernel_rfl) (by kernel_rfl))) ?_
  intro W base args ds gs before hval0 hW hcnd _ hL _
  have hval : ∀ (j : Nat) t v, Tryd.f6.params[j]? = some t → args[j]? = some v → Value.okWide Tryd.prog W .any base t v := hval0
  have hW' := hW
  obtain ⟨p, q, hA0, hV, rfl, hfz, hnd⟩ := hW
  have hA : DataW.TrodAll enc Tryd.prog W 0 (fun _ => true) true Tryd.f6.params.toList args.toList ds p := hA0
  rw [Tryd.params6] at hA hval
  obtain ⟨v0, vs0, d0, ds0, p0, q0, hargs, rfl, rfl, h0, r0⟩ := trodAll_cons hA
  obtain ⟨v1, vs1, d1, ds1, p1, q1, rfl, rfl, rfl, h1, r1⟩ := trodAll_cons r0
  obtain ⟨rfl, rfl, rfl⟩ := trodAll_nil r1
  obtain rfl : args = #[v0, v1] := by cases args; simp_all
  obtain ⟨rfl, rfl⟩ := trodVars_none hV
  have k0 := h0
  have lt0 : ∀ x ∈ p0, x.block < W.heap.size := by obtain ⟨m, hm⟩ := k0; exact DataW.trod_lt m _ _ _ hm
  obtain ⟨l0, rfl, hl0, hr0⟩ := reads_agg (P := Tryd.prog) Tryd.underlying23 (hval 0 23 v0 rfl rfl) h0 12
  have hl0' : l0.length = 2 := hl0.trans (by kernel_rfl)
  obtain ⟨y0_0, y0_1, rfl⟩ := lenL2 hl0'
  have hr0_0 := reads_fld Tryd.underlying23 hr0 0 _ rfl (l := [y0_0]) (by kernel_rfl)
  have hr0_1 := reads_fld Tryd.underlying23 hr0 1 _ rfl (l := [y0_1]) (by kernel_rfl)
  obtain ⟨a0_0, rfl⟩ := reads_bool Tryd.underlying4 hr0_0
  obtain ⟨a0_1, rfl, w0_1⟩ := reads_int Tryd.underlying2 hr0_1
  have k1 := h1
  have lt1 : ∀ x ∈ p1, x.block < W.heap.size := by obtain ⟨m, hm⟩ := k1; exact DataW.trod_lt m _ _ _ hm
  obtain ⟨l1, rfl, hl1, hr1⟩ := reads_agg (P := Tryd.prog) Tryd.underlying25 (hval 1 25 v1 rfl rfl) h1 12
  have hl1' : l1.length = 5 := hl1.trans (by kernel_rfl)
  obtain ⟨y1_0, y1_1, y1_2, y1_3, y1_4, rfl⟩ := lenL5 hl1'
  have hr1_0 := reads_fld Tryd.underlying25 hr1 0 _ rfl (l := [y1_0]) (by kernel_rfl)
  have hr1_1 := reads_fld Tryd.underlying25 hr1 1 _ rfl (l := [y1_1]) (by kernel_rfl)
  have hr1_2 := reads_fld Tryd.underlying25 hr1 2 _ rfl (l := [y1_2]) (by kernel_rfl)
  have hr1_3 := reads_fld Tryd.underlying25 hr1 3 _ rfl (l := [y1_3]) (by kernel_rfl)
  have hr1_4 := reads_fld Tryd.underlying25 hr1 4 _ rfl (l := [y1_4]) (by kernel_rfl)
  obtain ⟨a1_0, rfl, w1_0⟩ := reads_int Tryd.underlying3 hr1_0
  obtain ⟨a1_1, rfl, w1_1⟩ := reads_int Tryd.underlying3 hr1_1
  obtain ⟨a1_2, rfl, w1_2⟩ := reads_int Tryd.underlying3 hr1_2
  obtain ⟨a1_3, rfl, w1_3⟩ := reads_int Tryd.underlying2 hr1_3
  obtain ⟨a1_4, rfl, w1_4⟩ := reads_int Tryd.underlying2 hr1_4
  clear hA0 hval0
  refine (Go.Proofs.YtelffhelelbfiaaDoor.law_DecimNil a0_0 a0_1 a1_0 a1_1 a1_2 a1_3 a1_4 W w0_1 w1_0 w1_1 w1_2 w1_3 w1_4 (tab_of hL plainAll (.tail _ (.tail _ (.head _))))).mono fun e W' ⟨he, bel⟩ => ?_
  subst he
  exact ⟨_, rfl, _, _, _, [], _, [], hW', trodAll_mk1 (shut_bool Tryd.underlying4 _), (trodAll_cons_mk (Below.trod laidOut (by kernel_rfl) (of_decide_eq_true (by kernel_rfl)) k0 bel lt0) (trodAll_cons_mk (Below.trod laidOut (by kernel_rfl) (of_decide_eq_true (by kernel_rfl)) k1 bel lt1) trodAll_mk0)), rfl, bel.frame _, fun h => by cases h⟩

theorem over : Rows.decimNilRow.holds Tryd.pinned (OpenSpec.ofChange Rows.decimNilSpec) :=
  OpenClaim.holds_of_wide 6 Tryd.f6 rfl rfl rfl rfl rfl rfl rfl ⟨rfl, rfl, rfl, rfl, rfl⟩ rfl rfl rfl rfl rfl (by kernel_rfl) Tryd.func6 (by kernel_rfl)
    (of_decide_eq_true (by kernel_rfl)) (by unfold Func.isWrapper; first | (rw [if_pos (by decide +kernel)]; kernel_rfl) | (rw [if_neg (by decide +kernel)]; exact ⟨rfl, rfl⟩))
    (fun os started H enc _ => lifted os started H enc)

/-- The statement. -/
theorem proved : Rows.DecimNilCardSaid :=
  Claim7.holds_tied_plain_at .later [] [.data, .data, .data, .data, .pinned] true (true, "3f8c86011ed220fa4b286b3e23027ed401bc122aa6eb5b38859dcc881f3b82ab") false
    over (fun _ h => by cases h) (by kernel_rfl) (fun _ h => by cases h) decimNil_row_tie rfl ⟨rfl, rfl⟩ (by kernel_rfl) rfl
    (fun f fn hf hfn => by
      obtain rfl : f = 6 := Option.some.inj ((show Tryd.prog.funcNamed "landfall/landfalllaw23.DecimNil" = some 6 by kernel_rfl).symm.trans hf) |>.symm
      obtain rfl : fn = Tryd.f6 := (Option.some.inj (Tryd.func6.symm.trans hfn)).symm
      exact ⟨by kernel_rfl, fun j t ht => by
        rw [Tryd.params6] at ht
        have hm : t ∈ [23, 25] := by simpa using Array.mem_of_getElem? ht
        have hall : ([23, 25].all fun u => !Tryd.prog.wantsStandIn u) = true := by kernel_rfl
        exact (show Tryd.prog.wantsStandIn t = false by simpa using List.all_eq_true.1 hall t hm)⟩)
    (by kernel_rfl)
#print axioms proved
end Go.Proofs.YtelffhelelbfiaaDoor.decimNil
