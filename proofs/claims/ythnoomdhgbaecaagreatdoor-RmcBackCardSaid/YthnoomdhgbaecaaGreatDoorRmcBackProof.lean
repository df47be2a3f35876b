/- RmcBack: for every input the law RmcBack returns true and leaves what it was given as it was. Conditions: none beyond those of the row. The walk is law_RmcBack of module Law26b. -/
import Derived.Test.YthnoomdhgbaecaaGreatDoorRows
import Derived.Test.YthnoomdhgbaecaaGreatDoorTie
import Derived.Test.YthnoomdhgbaecaaGreatDoorCards
import Derived.Test.YthnoomdhgbaecaaGreatDoorTie23
import Derived.Lay
import Derived.LaidOnce
import Derived.SevenTiedAt
import Derived.Handed
import Derived.MakeChecks
import Derived.Test.YthnoomdhgbaecaaGreatDoorLaw26b
import Derived.WalkKit
import Derived.ProofKit
import Derived.OpenShut
import Derived.ShutString
import Derived.ChangeOld
import Derived.Below
import Derived.Lib.SmallJoins
namespace Go.Proofs.YthnoomdhgbaecaaGreatDoor.rmcBack
open Go.ChangeShapes Go.WideShapes Go.ChangeAt Go.RowKit
open Go.ChangeMaps (open_string shut_string)
set_option linter.unusedVariables false

theorem own : ownKnob Tryz.prog.godebug = none := by kernel_rfl
theorem plainAll : (Rows.rmcBackRow.laid.all fun x => x.2.handleName?.isNone) = true := by kernel_rfl
theorem laidOut : laidOutB Tryz.prog = true := by kernel_rfl
theorem lenL1 {l : List Value} (h : l.length = 1) : ∃ y0, l = [y0] := by
  match l, h with
  | [y0], _ => exact ⟨_, rfl⟩
theorem lenL20 {l : List Value} (h : l.length = 20) : ∃ y0 y1 y2 y3 y4 y5 y6 y7 y8 y9 y10 y11 y12 y13 y14 y15 y16 y17 y18 y19, l = [y0, y1, y2, y3, y4, y5, y6, y7, y8, y9, y10, y11, y12, y13, y14, y15, y16, y17, y18, y19] := by
  match l, h with
  | [y0, y1, y2, y3, y4, y5, y6, y7, y8, y9, y10, y11, y12, y13, y14, y15, y16, y17, y18, y19], _ => exact ⟨_, _, _, _, _, _, _, _, _, _, _, _, _, _, _, _, _, _, _, _, rfl⟩

set_option maxRecDepth 100000 in
theorem lifted (os : Os) (started : os.Started) (H : Type) (enc : TypeId × Value → H) :
    ReturnsInHanded {} Tryz.checked os 5 .any (fun w args => (Rows.rmcBackSpec.pre enc Tryz.prog Tryz.f5 Rows.rmcBackRow.domain false w args ∧ laidMetH Tryz.prog Rows.rmcBackRow.laid w) ∧ sizedMet enc Tryz.prog Tryz.f5 (OpenSpec.ofChange Rows.rmcBackSpec) false w args) (Rows.rmcBackSpec.post enc Tryz.prog Tryz.f5 false true false false) := by
  refine returnsInHanded_of_change_and (C := Tryz.checked) (X := fun w _ => laidMetH Tryz.prog Rows.rmcBackRow.laid w) (fun _ _ _ hh h => h.of_heap hh) own started (by kernel_rfl) Tryz.func5
    (ChangeSpec.witness_shaped (enc := enc) (C := Tryz.checked) (os := os) (X := fun w _ => laidMetH Tryz.prog Rows.rmcBackRow.laid w) false (World.laidAll Tryz.prog os Rows.rmcBackRow.laid) #[.agg #[.bool false, .int .i64 0, .int .i64 0, .int .i64 0, .int .i64 0, .bool false, .bool false, .int .i64 0, .bool false, .int .i64 0, .bool false, .int .i64 0, .bool false, .int .i64 0, .bool false, .int .i64 0, .bool false, .int .i64 0, .int .i64 0, .int .i64 0], .slice none 0 0] 12 (World.laidAll_os _ _ _)
      (World.shaped_of_ZipB (by kernel_rfl) (by kernel_rfl)) (by kernel_rfl) (by kernel_rfl) (by kernel_rfl)
      (by rw [MakeChecks.laidMetH_plain _ _ _ plainAll]; exact laidMet_laidAll _ (by kernel_rfl) (by kernel_rfl))) ?_
  intro W base args ds gs before hval0 hW hcnd _ hL _
  have hval : ∀ (j : Nat) t v, Tryz.f5.params[j]? = some t → args[j]? = some v → Value.okWide Tryz.prog W .any base t v := hval0
  have hW' := hW
  obtain ⟨p, q, hA0, hV, rfl, hfz, hnd⟩ := hW
  have hA : DataW.TrodAll enc Tryz.prog W 0 (fun _ => true) true Tryz.f5.params.toList args.toList ds p := hA0
  rw [Tryz.params5] at hA hval
  obtain ⟨v0, vs0, d0, ds0, p0, q0, hargs, rfl, rfl, h0, r0⟩ := trodAll_cons hA
  obtain ⟨v1, vs1, d1, ds1, p1, q1, rfl, rfl, rfl, h1, r1⟩ := trodAll_cons r0
  obtain ⟨rfl, rfl, rfl⟩ := trodAll_nil r1
  obtain rfl : args = #[v0, v1] := by cases args; simp_all
  obtain ⟨rfl, rfl⟩ := trodVars_none hV
  have k0 := h0
  have lt0 : ∀ x ∈ p0, x.block < W.heap.size := by obtain ⟨m, hm⟩ := k0; exact DataW.trod_lt m _ _ _ hm
  obtain ⟨l0, rfl, hl0, hr0⟩ := reads_agg (P := Tryz.prog) Tryz.underlying29 (hval 0 29 v0 rfl rfl) h0 12
  have hl0' : l0.length = 20 := hl0.trans (by kernel_rfl)
  obtain ⟨y0_0, y0_1, y0_2, y0_3, y0_4, y0_5, y0_6, y0_7, y0_8, y0_9, y0_10, y0_11, y0_12, y0_13, y0_14, y0_15, y0_16, y0_17, y0_18, y0_19, rfl⟩ := lenL20 hl0'
  have hr0_0 := reads_fld Tryz.underlying29 hr0 0 _ rfl (l := [y0_0, y0_1, y0_2, y0_3, y0_4]) (by kernel_rfl)
  have hr0_0_0 := reads_fld Tryz.underlying23 hr0_0 0 _ rfl (l := [y0_0]) (by kernel_rfl)
  have hr0_0_1 := reads_fld Tryz.underlying23 hr0_0 1 _ rfl (l := [y0_1]) (by kernel_rfl)
  have hr0_0_2 := reads_fld Tryz.underlying23 hr0_0 2 _ rfl (l := [y0_2]) (by kernel_rfl)
  have hr0_0_3 := reads_fld Tryz.underlying23 hr0_0 3 _ rfl (l := [y0_3]) (by kernel_rfl)
  have hr0_0_4 := reads_fld Tryz.underlying23 hr0_0 4 _ rfl (l := [y0_4]) (by kernel_rfl)
  have hr0_1 := reads_fld Tryz.underlying29 hr0 1 _ rfl (l := [y0_5]) (by kernel_rfl)
  have hr0_2 := reads_fld Tryz.underlying29 hr0 2 _ rfl (l := [y0_6, y0_7]) (by kernel_rfl)
  have hr0_2_0 := reads_fld Tryz.underlying25 hr0_2 0 _ rfl (l := [y0_6]) (by kernel_rfl)
  have hr0_2_1 := reads_fld Tryz.underlying25 hr0_2 1 _ rfl (l := [y0_7]) (by kernel_rfl)
  have hr0_3 := reads_fld Tryz.underlying29 hr0 3 _ rfl (l := [y0_8, y0_9]) (by kernel_rfl)
  have hr0_3_0 := reads_fld Tryz.underlying25 hr0_3 0 _ rfl (l := [y0_8]) (by kernel_rfl)
  have hr0_3_1 := reads_fld Tryz.underlying25 hr0_3 1 _ rfl (l := [y0_9]) (by kernel_rfl)
  have hr0_4 := reads_fld Tryz.underlying29 hr0 4 _ rfl (l := [y0_10, y0_11]) (by kernel_rfl)
  have hr0_4_0 := reads_fld Tryz.underlying25 hr0_4 0 _ rfl (l := [y0_10]) (by kernel_rfl)
  have hr0_4_1 := reads_fld Tryz.underlying25 hr0_4 1 _ rfl (l := [y0_11]) (by kernel_rfl)
  have hr0_5 := reads_fld Tryz.underlying29 hr0 5 _ rfl (l := [y0_12, y0_13]) (by kernel_rfl)
  have hr0_5_0 := reads_fld Tryz.underlying25 hr0_5 0 _ rfl (l := [y0_12]) (by kernel_rfl)
  have hr0_5_1 := reads_fld Tryz.underlying25 hr0_5 1 _ rfl (l := [y0_13]) (by kernel_rfl)
  have hr0_6 := reads_fld Tryz.underlying29 hr0 6 _ rfl (l := [y0_14, y0_15]) (by kernel_rfl)
  have hr0_6_0 := reads_fld Tryz.underlying25 hr0_6 0 _ rfl (l := [y0_14]) (by kernel_rfl)
  have hr0_6_1 := reads_fld Tryz.underlying25 hr0_6 1 _ rfl (l := [y0_15]) (by kernel_rfl)
  have hr0_7 := reads_fld Tryz.underlying29 hr0 7 _ rfl (l := [y0_16, y0_17, y0_18, y0_19]) (by kernel_rfl)
  have hr0_7_0 := reads_fld Tryz.underlying27 hr0_7 0 _ rfl (l := [y0_16]) (by kernel_rfl)
  have hr0_7_1 := reads_fld Tryz.underlying27 hr0_7 1 _ rfl (l := [y0_17]) (by kernel_rfl)
  have hr0_7_2 := reads_fld Tryz.underlying27 hr0_7 2 _ rfl (l := [y0_18]) (by kernel_rfl)
  have hr0_7_3 := reads_fld Tryz.underlying27 hr0_7 3 _ rfl (l := [y0_19]) (by kernel_rfl)
  obtain ⟨a0_0, rfl⟩ := reads_bool Tryz.underlying4 hr0_0_0
  obtain ⟨a0_1, rfl, w0_1⟩ := reads_int Tryz.underlying2 hr0_0_1
  obtain ⟨a0_2, rfl, w0_2⟩ := reads_int Tryz.underlying2 hr0_0_2
  obtain ⟨a0_3, rfl, w0_3⟩ := reads_int Tryz.underlying2 hr0_0_3
  obtain ⟨a0_4, rfl, w0_4⟩ := reads_int Tryz.underlying2 hr0_0_4
  obtain ⟨a0_5, rfl⟩ := reads_bool Tryz.underlying4 hr0_1
  obtain ⟨a0_6, rfl⟩ := reads_bool Tryz.underlying4 hr0_2_0
  obtain ⟨a0_7, rfl, w0_7⟩ := reads_int Tryz.underlying2 hr0_2_1
  obtain ⟨a0_8, rfl⟩ := reads_bool Tryz.underlying4 hr0_3_0
  obtain ⟨a0_9, rfl, w0_9⟩ := reads_int Tryz.underlying2 hr0_3_1
  obtain ⟨a0_10, rfl⟩ := reads_bool Tryz.underlying4 hr0_4_0
  obtain ⟨a0_11, rfl, w0_11⟩ := reads_int Tryz.underlying2 hr0_4_1
  obtain ⟨a0_12, rfl⟩ := reads_bool Tryz.underlying4 hr0_5_0
  obtain ⟨a0_13, rfl, w0_13⟩ := reads_int Tryz.underlying2 hr0_5_1
  obtain ⟨a0_14, rfl⟩ := reads_bool Tryz.underlying4 hr0_6_0
  obtain ⟨a0_15, rfl, w0_15⟩ := reads_int Tryz.underlying2 hr0_6_1
  obtain ⟨a0_16, rfl⟩ := reads_bool Tryz.underlying4 hr0_7_0
  obtain ⟨a0_17, rfl, w0_17⟩ := reads_int Tryz.underlying2 hr0_7_1
  obtain ⟨a0_18, rfl, w0_18⟩ := reads_int Tryz.underlying2 hr0_7_2
  obtain ⟨a0_19, rfl, w0_19⟩ := reads_int Tryz.underlying2 hr0_7_3
  have k1 := h1
  have lt1 : ∀ x ∈ p1, x.block < W.heap.size := by obtain ⟨m, hm⟩ := k1; exact DataW.trod_lt m _ _ _ hm
  obtain ⟨a1, len1, cap1, x1, rfl, w1, g1⟩ := reads_els (m := 1) Tryz.underlying30 (by kernel_rfl) (by decide) (reads_sl Tryz.underlying30 (hval 1 30 v1 rfl rfl) h1 13)
  have t1 : ∀ x ∈ x1, (∃ (c0 : ByteArray), x = [.string c0] ∧ (c0.size ≤ maxLen)) := by
    intro x hx
    obtain ⟨hr1, hl1⟩ := (g1 x hx)
    obtain ⟨y1_0, rfl⟩ := lenL1 hl1
    obtain ⟨n1_0, rfl, f1_0⟩ := reads_string Tryz.underlying9 hr1
    exact ⟨n1_0, rfl, f1_0⟩
  clear hA0 hval0
  refine (Go.Proofs.YthnoomdhgbaecaaGreatDoor.law_RmcBack a0_0 a0_1 a0_2 a0_3 a0_4 a0_5 a0_6 a0_7 a0_8 a0_9 a0_10 a0_11 a0_12 a0_13 a0_14 a0_15 a0_16 a0_17 a0_18 a0_19 a1 len1 cap1 x1 W w0_1 w0_2 w0_3 w0_4 w0_7 w0_9 w0_11 w0_13 w0_15 w0_17 w0_18 w0_19 w1 t1 (tab_of hL plainAll (.tail _ (.tail _ (.head _))))).mono fun e W' ⟨he, bel⟩ => ?_
  subst he
  exact ⟨_, rfl, _, _, _, [], _, [], hW', trodAll_mk1 (shut_bool Tryz.underlying4 _), (trodAll_cons_mk (Below.trod laidOut (by kernel_rfl) (of_decide_eq_true (by kernel_rfl)) k0 bel lt0) (trodAll_cons_mk (Below.trod laidOut (by kernel_rfl) (of_decide_eq_true (by kernel_rfl)) k1 bel lt1) trodAll_mk0)), rfl, bel.frame _, fun h => by cases h⟩

theorem over : Rows.rmcBackRow.holds Tryz.pinned (OpenSpec.ofChange Rows.rmcBackSpec) :=
  OpenClaim.holds_of_wide 5 Tryz.f5 rfl rfl rfl rfl rfl rfl rfl ⟨rfl, rfl, rfl, rfl, rfl⟩ rfl rfl rfl rfl rfl (by kernel_rfl) Tryz.func5 (by kernel_rfl)
    (of_decide_eq_true (by kernel_rfl)) (by unfold Func.isWrapper; first | (rw [if_pos (by decide +kernel)]; kernel_rfl) | (rw [if_neg (by decide +kernel)]; exact ⟨rfl, rfl⟩))
    (fun os started H enc _ => lifted os started H enc)

/-- The statement. -/
theorem proved : Rows.RmcBackCardSaid :=
  Claim7.holds_tied_plain_at .later [] [.data, .data, .data, .data, .pinned] true (true, "0c1ef69001fef280d862ddf83bc6a8b1a87d53b3418c3f1168277efd24125028") false
    over (fun _ h => by cases h) (by kernel_rfl) (fun _ h => by cases h) rmcBack_row_tie rfl ⟨rfl, rfl⟩ (by kernel_rfl) rfl
    (fun f fn hf hfn => by
      obtain rfl : f = 5 := Option.some.inj ((show Tryz.prog.funcNamed "landfall/landfalllaw26.RmcBack" = some 5 by kernel_rfl).symm.trans hf) |>.symm
      obtain rfl : fn = Tryz.f5 := (Option.some.inj (Tryz.func5.symm.trans hfn)).symm
      exact ⟨by kernel_rfl, fun j t ht => by
        rw [Tryz.params5] at ht
        have hm : t ∈ [29, 30] := by simpa using Array.mem_of_getElem? ht
        have hall : ([29, 30].all fun u => !Tryz.prog.wantsStandIn u) = true := by kernel_rfl
        exact (show Tryz.prog.wantsStandIn t = false by simpa using List.all_eq_true.1 hall t hm)⟩)
    (by kernel_rfl)
#print axioms proved
end Go.Proofs.YthnoomdhgbaecaaGreatDoor.rmcBack
