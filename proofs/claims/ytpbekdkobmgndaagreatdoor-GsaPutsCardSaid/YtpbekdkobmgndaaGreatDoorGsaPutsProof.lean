/- GsaPuts: for every input the law GsaPuts returns true and leaves what it was given as it was. Conditions: none beyond those of the row. The walk is law_GsaPuts of module Law27. -/
import Derived.Test.YtpbekdkobmgndaaGreatDoorRows
import Derived.Test.YtpbekdkobmgndaaGreatDoorTie
import Derived.Test.YtpbekdkobmgndaaGreatDoorCards
import Derived.Test.YtpbekdkobmgndaaGreatDoorTie23
import Derived.Lay
import Derived.LaidOnce
import Derived.SevenTiedAt
import Derived.Handed
import Derived.MakeChecks
import Derived.Test.YtpbekdkobmgndaaGreatDoorLaw27
import Derived.WalkKit
import Derived.ProofKit
import Derived.OpenShut
import Derived.ShutString
import Derived.ChangeOld
import Derived.Below
import Derived.Lib.SmallJoins
namespace Go.Proofs.YtpbekdkobmgndaaGreatDoor.gsaPuts
open Go.ChangeShapes Go.WideShapes Go.ChangeAt Go.RowKit
open Go.ChangeMaps (open_string shut_string)
set_option linter.unusedVariables false

theorem own : ownKnob Tryz.prog.godebug = none := by kernel_rfl
theorem plainAll : (Rows.gsaPutsRow.laid.all fun x => x.2.handleName?.isNone) = true := by kernel_rfl
theorem laidOut : laidOutB Tryz.prog = true := by kernel_rfl
theorem lenL9 {l : List Value} (h : l.length = 9) : ∃ y0 y1 y2 y3 y4 y5 y6 y7 y8, l = [y0, y1, y2, y3, y4, y5, y6, y7, y8] := by
  match l, h with
  | [y0, y1, y2, y3, y4, y5, y6, y7, y8], _ => exact ⟨_, _, _, _, _, _, _, _, _, rfl⟩

set_option maxRecDepth 100000 in
theorem lifted (os : Os) (started : os.Started) (H : Type) (enc : TypeId × Value → H) :
    ReturnsInHanded {} Tryz.checked os 3 .any (fun w args => (Rows.gsaPutsSpec.pre enc Tryz.prog Tryz.f3 Rows.gsaPutsRow.domain false w args ∧ laidMetH Tryz.prog Rows.gsaPutsRow.laid w) ∧ sizedMet enc Tryz.prog Tryz.f3 (OpenSpec.ofChange Rows.gsaPutsSpec) false w args) (Rows.gsaPutsSpec.post enc Tryz.prog Tryz.f3 false true false false) := by
  refine returnsInHanded_of_change_and (C := Tryz.checked) (X := fun w _ => laidMetH Tryz.prog Rows.gsaPutsRow.laid w) (fun _ _ _ hh h => h.of_heap hh) own started (by kernel_rfl) Tryz.func3
    (ChangeSpec.witness_shaped (enc := enc) (C := Tryz.checked) (os := os) (X := fun w _ => laidMetH Tryz.prog Rows.gsaPutsRow.laid w) false (World.laidAll Tryz.prog os Rows.gsaPutsRow.laid) #[.agg #[.bool false, .int .i64 0, .slice none 0 0, .bool false, .int .i64 0, .bool false, .int .i64 0, .bool false, .int .i64 0]] 12 (World.laidAll_os _ _ _)
      (World.shaped_of_ZipB (by kernel_rfl) (by kernel_rfl)) (by kernel_rfl) (by kernel_rfl) (by kernel_rfl)
      (by rw [MakeChecks.laidMetH_plain _ _ _ plainAll]; exact laidMet_laidAll _ (by kernel_rfl) (by kernel_rfl))) ?_
  intro W base args ds gs before hval0 hW hcnd _ hL _
  have hval : ∀ (j : Nat) t v, Tryz.f3.params[j]? = some t → args[j]? = some v → Value.okWide Tryz.prog W .any base t v := hval0
  have hW' := hW
  obtain ⟨p, q, hA0, hV, rfl, hfz, hnd⟩ := hW
  have hA : DataW.TrodAll enc Tryz.prog W 0 (fun _ => true) true Tryz.f3.params.toList args.toList ds p := hA0
  rw [Tryz.params3] at hA hval
  obtain ⟨v0, vs0, d0, ds0, p0, q0, hargs, rfl, rfl, h0, r0⟩ := trodAll_cons hA
  obtain ⟨rfl, rfl, rfl⟩ := trodAll_nil r0
  obtain rfl : args = #[v0] := by cases args; simp_all
  obtain ⟨rfl, rfl⟩ := trodVars_none hV
  have k0 := h0
  have lt0 : ∀ x ∈ p0, x.block < W.heap.size := by obtain ⟨m, hm⟩ := k0; exact DataW.trod_lt m _ _ _ hm
  obtain ⟨l0, rfl, hl0, hr0⟩ := reads_agg (P := Tryz.prog) Tryz.underlying26 (hval 0 26 v0 rfl rfl) h0 12
  have hl0' : l0.length = 9 := hl0.trans (by kernel_rfl)
  obtain ⟨y0_0, y0_1, y0_2, y0_3, y0_4, y0_5, y0_6, y0_7, y0_8, rfl⟩ := lenL9 hl0'
  have hr0_0 := reads_fld Tryz.underlying26 hr0 0 _ rfl (l := [y0_0]) (by kernel_rfl)
  have hr0_1 := reads_fld Tryz.underlying26 hr0 1 _ rfl (l := [y0_1]) (by kernel_rfl)
  have hr0_2 := reads_fld Tryz.underlying26 hr0 2 _ rfl (l := [y0_2]) (by kernel_rfl)
  have hr0_3 := reads_fld Tryz.underlying26 hr0 3 _ rfl (l := [y0_3, y0_4]) (by kernel_rfl)
  have hr0_3_0 := reads_fld Tryz.underlying24 hr0_3 0 _ rfl (l := [y0_3]) (by kernel_rfl)
  have hr0_3_1 := reads_fld Tryz.underlying24 hr0_3 1 _ rfl (l := [y0_4]) (by kernel_rfl)
  have hr0_4 := reads_fld Tryz.underlying26 hr0 4 _ rfl (l := [y0_5, y0_6]) (by kernel_rfl)
  have hr0_4_0 := reads_fld Tryz.underlying24 hr0_4 0 _ rfl (l := [y0_5]) (by kernel_rfl)
  have hr0_4_1 := reads_fld Tryz.underlying24 hr0_4 1 _ rfl (l := [y0_6]) (by kernel_rfl)
  have hr0_5 := reads_fld Tryz.underlying26 hr0 5 _ rfl (l := [y0_7, y0_8]) (by kernel_rfl)
  have hr0_5_0 := reads_fld Tryz.underlying24 hr0_5 0 _ rfl (l := [y0_7]) (by kernel_rfl)
  have hr0_5_1 := reads_fld Tryz.underlying24 hr0_5 1 _ rfl (l := [y0_8]) (by kernel_rfl)
  obtain ⟨a0_0, rfl⟩ := reads_bool Tryz.underlying4 hr0_0
  obtain ⟨a0_1, rfl, w0_1⟩ := reads_int Tryz.underlying2 hr0_1
  obtain ⟨a0_2, len0_2, cap0_2, z0_2, rfl, w0_2, t0_2⟩ := reads_ints Tryz.underlying22 Tryz.underlying2 (by kernel_rfl) hr0_2
  obtain ⟨a0_3, rfl⟩ := reads_bool Tryz.underlying4 hr0_3_0
  obtain ⟨a0_4, rfl, w0_4⟩ := reads_int Tryz.underlying2 hr0_3_1
  obtain ⟨a0_5, rfl⟩ := reads_bool Tryz.underlying4 hr0_4_0
  obtain ⟨a0_6, rfl, w0_6⟩ := reads_int Tryz.underlying2 hr0_4_1
  obtain ⟨a0_7, rfl⟩ := reads_bool Tryz.underlying4 hr0_5_0
  obtain ⟨a0_8, rfl, w0_8⟩ := reads_int Tryz.underlying2 hr0_5_1
  clear hA0 hval0
  refine (Go.Proofs.YtpbekdkobmgndaaGreatDoor.law_GsaPuts a0_0 a0_1 a0_2 len0_2 cap0_2 z0_2 a0_3 a0_4 a0_5 a0_6 a0_7 a0_8 W w0_1 w0_2 t0_2 w0_4 w0_6 w0_8 (tab_of hL plainAll (.tail _ (.tail _ (.head _))))).mono fun e W' ⟨he, bel⟩ => ?_
  subst he
  exact ⟨_, rfl, _, _, _, [], _, [], hW', trodAll_mk1 (shut_bool Tryz.underlying4 _), (trodAll_cons_mk (Below.trod laidOut (by kernel_rfl) (of_decide_eq_true (by kernel_rfl)) k0 bel lt0) trodAll_mk0), rfl, bel.frame _, fun h => by cases h⟩

theorem over : Rows.gsaPutsRow.holds Tryz.pinned (OpenSpec.ofChange Rows.gsaPutsSpec) :=
  OpenClaim.holds_of_wide 3 Tryz.f3 rfl rfl rfl rfl rfl rfl rfl ⟨rfl, rfl, rfl, rfl, rfl⟩ rfl rfl rfl rfl rfl (by kernel_rfl) Tryz.func3 (by kernel_rfl)
    (of_decide_eq_true (by kernel_rfl)) (by unfold Func.isWrapper; first | (rw [if_pos (by decide +kernel)]; kernel_rfl) | (rw [if_neg (by decide +kernel)]; exact ⟨rfl, rfl⟩))
    (fun os started H enc _ => lifted os started H enc)

/-- The statement. -/
theorem proved : Rows.GsaPutsCardSaid :=
  Claim7.holds_tied_plain_at .later [] [.data, .data, .data, .data, .pinned] true (true, "507e30b3f09c68fd8403451445b722d0b18987f722fd6675b6e3c3c6363312f2") false
    over (fun _ h => by cases h) (by kernel_rfl) (fun _ h => by cases h) gsaPuts_row_tie rfl ⟨rfl, rfl⟩ (by kernel_rfl) rfl
    (fun f fn hf hfn => by
      obtain rfl : f = 3 := Option.some.inj ((show Tryz.prog.funcNamed "landfall/landfalllaw27.GsaPuts" = some 3 by kernel_rfl).symm.trans hf) |>.symm
      obtain rfl : fn = Tryz.f3 := (Option.some.inj (Tryz.func3.symm.trans hfn)).symm
      exact ⟨by kernel_rfl, fun j t ht => by
        rw [Tryz.params3] at ht
        have hm : t ∈ [26] := by simpa using Array.mem_of_getElem? ht
        have hall : ([26].all fun u => !Tryz.prog.wantsStandIn u) = true := by kernel_rfl
        exact (show Tryz.prog.wantsStandIn t = false by simpa using List.all_eq_true.1 hall t hm)⟩)
    (by kernel_rfl)
#print axioms proved
end Go.Proofs.YtpbekdkobmgndaaGreatDoor.gsaPuts
