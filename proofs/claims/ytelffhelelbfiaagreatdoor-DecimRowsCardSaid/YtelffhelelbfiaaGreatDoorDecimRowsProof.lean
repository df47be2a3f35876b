/- DecimRows: for every input the law DecimRows returns true and leaves what it was given as it was. Conditions: none beyond those of the row. The walk is law_DecimRows of module Law23e. -/
import Derived.Test.YtelffhelelbfiaaGreatDoorRows
import Derived.Test.YtelffhelelbfiaaGreatDoorTie
import Derived.Test.YtelffhelelbfiaaGreatDoorCards
import Derived.Test.YtelffhelelbfiaaGreatDoorTie23
import Derived.Lay
import Derived.LaidOnce
import Derived.SevenTiedAt
import Derived.Handed
import Derived.MakeChecks
import Derived.Test.YtelffhelelbfiaaGreatDoorLaw23e
import Derived.WalkKit
import Derived.ProofKit
import Derived.OpenShut
import Derived.ShutString
import Derived.ChangeOld
import Derived.Below
import Derived.Lib.SmallJoins
namespace Go.Proofs.YtelffhelelbfiaaGreatDoor.decimRows
open Go.ChangeShapes Go.WideShapes Go.ChangeAt Go.RowKit
open Go.ChangeMaps (open_string shut_string)
set_option linter.unusedVariables false

theorem own : ownKnob Tryz.prog.godebug = none := by kernel_rfl
theorem plainAll : (Rows.decimRowsRow.laid.all fun x => x.2.handleName?.isNone) = true := by kernel_rfl
theorem laidOut : laidOutB Tryz.prog = true := by kernel_rfl
theorem lenL1 {l : List Value} (h : l.length = 1) : ∃ y0, l = [y0] := by
  match l, h with
  | [y0], _ => exact ⟨_, rfl⟩
theorem lenL11 {l : List Value} (h : l.length = 11) : ∃ y0 y1 y2 y3 y4 y5 y6 y7 y8 y9 y10, l = [y0, y1, y2, y3, y4, y5, y6, y7, y8, y9, y10] := by
  match l, h with
  | [y0, y1, y2, y3, y4, y5, y6, y7, y8, y9, y10], _ => exact ⟨_, _, _, _, _, _, _, _, _, _, _, rfl⟩

set_option maxRecDepth 100000 in
theorem lifted (os : Os) (started : os.Started) (H : Type) (enc : TypeId × Value → H) :
    ReturnsInHanded {} Tryz.checked os 3 .any (fun w args => (Rows.decimRowsSpec.pre enc Tryz.prog Tryz.f3 Rows.decimRowsRow.domain false w args ∧ laidMetH Tryz.prog Rows.decimRowsRow.laid w) ∧ sizedMet enc Tryz.prog Tryz.f3 (OpenSpec.ofChange Rows.decimRowsSpec) false w args) (Rows.decimRowsSpec.post enc Tryz.prog Tryz.f3 false true false false) := by
  refine returnsInHanded_of_change_and (C := Tryz.checked) (X := fun w _ => laidMetH Tryz.prog Rows.decimRowsRow.laid w) (fun _ _ _ hh h => h.of_heap hh) own started (by kernel_rfl) Tryz.func3
    (ChangeSpec.witness_shaped (enc := enc) (C := Tryz.checked) (os := os) (X := fun w _ => laidMetH Tryz.prog Rows.decimRowsRow.laid w) false (World.laidAll Tryz.prog os Rows.decimRowsRow.laid) #[.slice none 0 0, .slice none 0 0] 12 (World.laidAll_os _ _ _)
      (World.shaped_of_ZipB (by kernel_rfl) (by kernel_rfl)) (by kernel_rfl) (by kernel_rfl) (by kernel_rfl)
      (by rw [MakeChecks.laidMetH_plain _ _ _ plainAll]; exact laidMet_laidAll _ (by kernel_rfl) (by kernel_rfl))) ?_
  intro W base args ds gs before hval0 hW hcnd _ hL _
  have hval : ∀ (j : Nat) t v, Tryz.f3.params[j]? = some t → args[j]? = some v → Value.okWide Tryz.prog W .any base t v := hval0
  have hW' := hW
  obtain ⟨p, q, hA0, hV, rfl, hfz, hnd⟩ := hW
  have hA : DataW.TrodAll enc Tryz.prog W 0 (fun _ => true) true Tryz.f3.params.toList args.toList ds p := hA0
  rw [Tryz.params3] at hA hval
  obtain ⟨v0, vs0, d0, ds0, p0, q0, hargs, rfl, rfl, h0, r0⟩ := trodAll_cons hA
  obtain ⟨v1, vs1, d1, ds1, p1, q1, rfl, rfl, rfl, h1, r1⟩ := trodAll_cons r0
  obtain ⟨rfl, rfl, rfl⟩ := trodAll_nil r1
  obtain rfl : args = #[v0, v1] := by cases args; simp_all
  obtain ⟨rfl, rfl⟩ := trodVars_none hV
  have k0 := h0
  have lt0 : ∀ x ∈ p0, x.block < W.heap.size := by obtain ⟨m, hm⟩ := k0; exact DataW.trod_lt m _ _ _ hm
  obtain ⟨a0, len0, cap0, x0, rfl, w0, g0⟩ := reads_els (m := 11) Tryz.underlying22 (by kernel_rfl) (by decide) (reads_sl Tryz.underlying22 (hval 0 22 v0 rfl rfl) h0 13)
  have t0 : ∀ x ∈ x0, (∃ (c0 : Int) (c1 : Bool) (c2 : Int) (c3 : Int) (c4 : Int) (c5 : Int) (c6 : Int) (c7 : Int) (c8 : Bool) (c9 : ByteArray) (c10 : Int), x = [.int .i64 c0, .bool c1, .int .i64 c2, .int .i64 c3, .int .i64 c4, .int .i64 c5, .int .i64 c6, .int .i64 c7, .bool c8, .string c9, .int .i64 c10] ∧ ((Lit.int .i64 c0).wf = true) ∧ ((Lit.int .i64 c2).wf = true) ∧ ((Lit.int .i64 c3).wf = true) ∧ ((Lit.int .i64 c4).wf = true) ∧ ((Lit.int .i64 c5).wf = true) ∧ ((Lit.int .i64 c6).wf = true) ∧ ((Lit.int .i64 c7).wf = true) ∧ (c9.size ≤ maxLen) ∧ ((Lit.int .i64 c10).wf = true)) := by
    intro x hx
    obtain ⟨hr1, hl1⟩ := (g0 x hx)
    obtain ⟨y1_0, y1_1, y1_2, y1_3, y1_4, y1_5, y1_6, y1_7, y1_8, y1_9, y1_10, rfl⟩ := lenL11 hl1
    have hr1_0 := reads_fld Tryz.underlying38 hr1 0 _ rfl (l := [y1_0]) (by kernel_rfl)
    have hr1_1 := reads_fld Tryz.underlying38 hr1 1 _ rfl (l := [y1_1, y1_2]) (by kernel_rfl)
    have hr1_1_0 := reads_fld Tryz.underlying34 hr1_1 0 _ rfl (l := [y1_1]) (by kernel_rfl)
    have hr1_1_1 := reads_fld Tryz.underlying34 hr1_1 1 _ rfl (l := [y1_2]) (by kernel_rfl)
    have hr1_2 := reads_fld Tryz.underlying38 hr1 2 _ rfl (l := [y1_3, y1_4, y1_5, y1_6, y1_7]) (by kernel_rfl)
    have hr1_2_0 := reads_fld Tryz.underlying36 hr1_2 0 _ rfl (l := [y1_3]) (by kernel_rfl)
    have hr1_2_1 := reads_fld Tryz.underlying36 hr1_2 1 _ rfl (l := [y1_4]) (by kernel_rfl)
    have hr1_2_2 := reads_fld Tryz.underlying36 hr1_2 2 _ rfl (l := [y1_5]) (by kernel_rfl)
    have hr1_2_3 := reads_fld Tryz.underlying36 hr1_2 3 _ rfl (l := [y1_6]) (by kernel_rfl)
    have hr1_2_4 := reads_fld Tryz.underlying36 hr1_2 4 _ rfl (l := [y1_7]) (by kernel_rfl)
    have hr1_3 := reads_fld Tryz.underlying38 hr1 3 _ rfl (l := [y1_8]) (by kernel_rfl)
    have hr1_4 := reads_fld Tryz.underlying38 hr1 4 _ rfl (l := [y1_9]) (by kernel_rfl)
    have hr1_5 := reads_fld Tryz.underlying38 hr1 5 _ rfl (l := [y1_10]) (by kernel_rfl)
    obtain ⟨n1_0, rfl, f1_0⟩ := reads_int Tryz.underlying3 hr1_0
    obtain ⟨n1_1, rfl⟩ := reads_bool Tryz.underlying4 hr1_1_0
    obtain ⟨n1_2, rfl, f1_2⟩ := reads_int Tryz.underlying2 hr1_1_1
    obtain ⟨n1_3, rfl, f1_3⟩ := reads_int Tryz.underlying3 hr1_2_0
    obtain ⟨n1_4, rfl, f1_4⟩ := reads_int Tryz.underlying3 hr1_2_1
    obtain ⟨n1_5, rfl, f1_5⟩ := reads_int Tryz.underlying3 hr1_2_2
    obtain ⟨n1_6, rfl, f1_6⟩ := reads_int Tryz.underlying2 hr1_2_3
    obtain ⟨n1_7, rfl, f1_7⟩ := reads_int Tryz.underlying2 hr1_2_4
    obtain ⟨n1_8, rfl⟩ := reads_bool Tryz.underlying4 hr1_3
    obtain ⟨n1_9, rfl, f1_9⟩ := reads_string Tryz.underlying9 hr1_4
    obtain ⟨n1_10, rfl, f1_10⟩ := reads_int Tryz.underlying30 hr1_5
    exact ⟨n1_0, n1_1, n1_2, n1_3, n1_4, n1_5, n1_6, n1_7, n1_8, n1_9, n1_10, rfl, f1_0, f1_2, f1_3, f1_4, f1_5, f1_6, f1_7, f1_9, f1_10⟩
  have k1 := h1
  have lt1 : ∀ x ∈ p1, x.block < W.heap.size := by obtain ⟨m, hm⟩ := k1; exact DataW.trod_lt m _ _ _ hm
  obtain ⟨a1, len1, cap1, x1, rfl, w1, g1⟩ := reads_els (m := 1) Tryz.underlying23 (by kernel_rfl) (by decide) (reads_sl Tryz.underlying23 (hval 1 23 v1 rfl rfl) h1 13)
  have t1 : ∀ x ∈ x1, (∃ (c0 : ByteArray), x = [.string c0] ∧ (c0.size ≤ maxLen)) := by
    intro x hx
    obtain ⟨hr2, hl2⟩ := (g1 x hx)
    obtain ⟨y2_0, rfl⟩ := lenL1 hl2
    obtain ⟨n2_0, rfl, f2_0⟩ := reads_string Tryz.underlying9 hr2
    exact ⟨n2_0, rfl, f2_0⟩
  clear hA0 hval0
  refine (Go.Proofs.YtelffhelelbfiaaGreatDoor.law_DecimRows a0 len0 cap0 x0 a1 len1 cap1 x1 W w0 t0 w1 t1 (tab_of hL plainAll (.tail _ (.tail _ (.head _))))).mono fun e W' ⟨he, bel⟩ => ?_
  subst he
  exact ⟨_, rfl, _, _, _, [], _, [], hW', trodAll_mk1 (shut_bool Tryz.underlying4 _), (trodAll_cons_mk (Below.trod laidOut (by kernel_rfl) (of_decide_eq_true (by kernel_rfl)) k0 bel lt0) (trodAll_cons_mk (Below.trod laidOut (by kernel_rfl) (of_decide_eq_true (by kernel_rfl)) k1 bel lt1) trodAll_mk0)), rfl, bel.frame _, fun h => by cases h⟩

theorem over : Rows.decimRowsRow.holds Tryz.pinned (OpenSpec.ofChange Rows.decimRowsSpec) :=
  OpenClaim.holds_of_wide 3 Tryz.f3 rfl rfl rfl rfl rfl rfl rfl ⟨rfl, rfl, rfl, rfl, rfl⟩ rfl rfl rfl rfl rfl (by kernel_rfl) Tryz.func3 (by kernel_rfl)
    (of_decide_eq_true (by kernel_rfl)) (by unfold Func.isWrapper; first | (rw [if_pos (by decide +kernel)]; kernel_rfl) | (rw [if_neg (by decide +kernel)]; exact ⟨rfl, rfl⟩))
    (fun os started H enc _ => lifted os started H enc)

/-- The statement. -/
theorem proved : Rows.DecimRowsCardSaid :=
  Claim7.holds_tied_plain_at .later [] [.data, .data, .data, .data, .pinned] true (true, "aab695a96d0097e63682c73c9b91c4519ca71dd33120bcf1548220b063402d1b") false
    over (fun _ h => by cases h) (by kernel_rfl) (fun _ h => by cases h) decimRows_row_tie rfl ⟨rfl, rfl⟩ (by kernel_rfl) rfl
    (fun f fn hf hfn => by
      obtain rfl : f = 3 := Option.some.inj ((show Tryz.prog.funcNamed "landfall/landfalllaw23.DecimRows" = some 3 by kernel_rfl).symm.trans hf) |>.symm
      obtain rfl : fn = Tryz.f3 := (Option.some.inj (Tryz.func3.symm.trans hfn)).symm
      exact ⟨by kernel_rfl, fun j t ht => by
        rw [Tryz.params3] at ht
        have hm : t ∈ [22, 23] := by simpa using Array.mem_of_getElem? ht
        have hall : ([22, 23].all fun u => !Tryz.prog.wantsStandIn u) = true := by kernel_rfl
        exact (show Tryz.prog.wantsStandIn t = false by simpa using List.all_eq_true.1 hall t hm)⟩)
    (by kernel_rfl)
#print axioms proved
end Go.Proofs.YtelffhelelbfiaaGreatDoor.decimRows
