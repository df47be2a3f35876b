/- GsvBack: for every input the law GsvBack returns true and leaves what it was given as it was. Conditions: none beyond those of the row. The walk is law_GsvBack of module Law29b. -/
import Derived.Test.YtobgibmpodggkaaDoorRows
import Derived.Test.YtobgibmpodggkaaDoorTie
import Derived.Test.YtobgibmpodggkaaDoorCards
import Derived.Test.YtobgibmpodggkaaDoorTie23
import Derived.Lay
import Derived.LaidOnce
import Derived.SevenTiedAt
import Derived.Handed
import Derived.MakeChecks
import Derived.Test.YtobgibmpodggkaaDoorLaw29b
import Derived.WalkKit
import Derived.ProofKit
import Derived.OpenShut
import Derived.ShutString
import Derived.ChangeOld
import Derived.Below
import Derived.Lib.SmallJoins
namespace Go.Proofs.YtobgibmpodggkaaDoor.gsvBack
open Go.ChangeShapes Go.WideShapes Go.ChangeAt Go.RowKit
open Go.ChangeMaps (open_string shut_string)
set_option linter.unusedVariables false

theorem own : ownKnob Tryd.prog.godebug = none := by kernel_rfl
theorem plainAll : (Rows.gsvBackRow.laid.all fun x => x.2.handleName?.isNone) = true := by kernel_rfl
theorem laidOut : laidOutB Tryd.prog = true := by kernel_rfl
theorem lenL1 {l : List Value} (h : l.length = 1) : ∃ y0, l = [y0] := by
  match l, h with
  | [y0], _ => exact ⟨_, rfl⟩
theorem lenL4 {l : List Value} (h : l.length = 4) : ∃ y0 y1 y2 y3, l = [y0, y1, y2, y3] := by
  match l, h with
  | [y0, y1, y2, y3], _ => exact ⟨_, _, _, _, rfl⟩
theorem lenL8 {l : List Value} (h : l.length = 8) : ∃ y0 y1 y2 y3 y4 y5 y6 y7, l = [y0, y1, y2, y3, y4, y5, y6, y7] := by
  match l, h with
  | [y0, y1, y2, y3, y4, y5, y6, y7], _ => exact ⟨_, _, _, _, _, _, _, _, rfl⟩

set_option maxRecDepth 100000 in
theorem lifted (os : Os) (started : os.Started) (H : Type) (enc : TypeId × Value → H) :
    ReturnsInHanded {} Tryd.checked os 4 .any (fun w args => (Rows.gsvBackSpec.pre enc Tryd.prog Tryd.f4 Rows.gsvBackRow.domain false w args ∧ laidMetH Tryd.prog Rows.gsvBackRow.laid w) ∧ sizedMet enc Tryd.prog Tryd.f4 (OpenSpec.ofChange Rows.gsvBackSpec) false w args) (Rows.gsvBackSpec.post enc Tryd.prog Tryd.f4 false true false false) := by
  refine returnsInHanded_of_change_and (C := Tryd.checked) (X := fun w _ => laidMetH Tryd.prog Rows.gsvBackRow.laid w) (fun _ _ _ hh h => h.of_heap hh) own started (by kernel_rfl) Tryd.func4
    (ChangeSpec.witness_shaped (enc := enc) (C := Tryd.checked) (os := os) (X := fun w _ => laidMetH Tryd.prog Rows.gsvBackRow.laid w) false (World.laidAll Tryd.prog os Rows.gsvBackRow.laid) #[.agg #[.int .i64 0, .int .i64 0, .int .i64 0, .slice none 0 0], .slice none 0 0] 12 (World.laidAll_os _ _ _)
      (World.shaped_of_ZipB (by kernel_rfl) (by kernel_rfl)) (by kernel_rfl) (by kernel_rfl) (by kernel_rfl)
      (by rw [MakeChecks.laidMetH_plain _ _ _ plainAll]; exact laidMet_laidAll _ (by kernel_rfl) (by kernel_rfl))) ?_
  intro W base args ds gs before hval0 hW hcnd _ hL _
  have hval : ∀ (j : Nat) t v, Tryd.f4.params[j]? = some t → args[j]? = some v → Value.okWide Tryd.prog W .any base t v := hval0
  have hW' := hW
  obtain ⟨p, q, hA0, hV, rfl, hfz, hnd⟩ := hW
  have hA : DataW.TrodAll enc Tryd.prog W 0 (fun _ => true) true Tryd.f4.params.toList args.toList ds p := hA0
  rw [Tryd.params4] at hA hval
  obtain ⟨v0, vs0, d0, ds0, p0, q0, hargs, rfl, rfl, h0, r0⟩ := trodAll_cons hA
  obtain ⟨v1, vs1, d1, ds1, p1, q1, rfl, rfl, rfl, h1, r1⟩ := trodAll_cons r0
  obtain ⟨rfl, rfl, rfl⟩ := trodAll_nil r1
  obtain rfl : args = #[v0, v1] := by cases args; simp_all
  obtain ⟨rfl, rfl⟩ := trodVars_none hV
  have k0 := h0
  have lt0 : ∀ x ∈ p0, x.block < W.heap.size := by obtain ⟨m, hm⟩ := k0; exact DataW.trod_lt m _ _ _ hm
  obtain ⟨l0, rfl, hl0, hr0⟩ := reads_agg (P := Tryd.prog) Tryd.underlying24 (hval 0 24 v0 rfl rfl) h0 12
  have hl0' : l0.length = 4 := hl0.trans (by kernel_rfl)
  obtain ⟨y0_0, y0_1, y0_2, y0_3, rfl⟩ := lenL4 hl0'
  have hr0_0 := reads_fld Tryd.underlying24 hr0 0 _ rfl (l := [y0_0]) (by kernel_rfl)
  have hr0_1 := reads_fld Tryd.underlying24 hr0 1 _ rfl (l := [y0_1]) (by kernel_rfl)
  have hr0_2 := reads_fld Tryd.underlying24 hr0 2 _ rfl (l := [y0_2]) (by kernel_rfl)
  have hr0_3 := reads_fld Tryd.underlying24 hr0 3 _ rfl (l := [y0_3]) (by kernel_rfl)
  obtain ⟨a0_0, rfl, w0_0⟩ := reads_int Tryd.underlying2 hr0_0
  obtain ⟨a0_1, rfl, w0_1⟩ := reads_int Tryd.underlying2 hr0_1
  obtain ⟨a0_2, rfl, w0_2⟩ := reads_int Tryd.underlying2 hr0_2
  obtain ⟨a0_3, len0_3, cap0_3, x0_3, rfl, w0_3, g0_3⟩ := reads_els (m := 8) Tryd.underlying22 (by kernel_rfl) (by decide) hr0_3
  have t0_3 : ∀ x ∈ x0_3, (∃ (c0 : Bool) (c1 : Int) (c2 : Bool) (c3 : Int) (c4 : Bool) (c5 : Int) (c6 : Bool) (c7 : Int), x = [.bool c0, .int .i64 c1, .bool c2, .int .i64 c3, .bool c4, .int .i64 c5, .bool c6, .int .i64 c7] ∧ ((Lit.int .i64 c1).wf = true) ∧ ((Lit.int .i64 c3).wf = true) ∧ ((Lit.int .i64 c5).wf = true) ∧ ((Lit.int .i64 c7).wf = true)) := by
    intro x hx
    obtain ⟨hr1, hl1⟩ := (g0_3 x hx)
    obtain ⟨y1_0, y1_1, y1_2, y1_3, y1_4, y1_5, y1_6, y1_7, rfl⟩ := lenL8 hl1
    have hr1_0 := reads_fld Tryd.underlying69 hr1 0 _ rfl (l := [y1_0, y1_1]) (by kernel_rfl)
    have hr1_0_0 := reads_fld Tryd.underlying64 hr1_0 0 _ rfl (l := [y1_0]) (by kernel_rfl)
    have hr1_0_1 := reads_fld Tryd.underlying64 hr1_0 1 _ rfl (l := [y1_1]) (by kernel_rfl)
    have hr1_1 := reads_fld Tryd.underlying69 hr1 1 _ rfl (l := [y1_2, y1_3]) (by kernel_rfl)
    have hr1_1_0 := reads_fld Tryd.underlying64 hr1_1 0 _ rfl (l := [y1_2]) (by kernel_rfl)
    have hr1_1_1 := reads_fld Tryd.underlying64 hr1_1 1 _ rfl (l := [y1_3]) (by kernel_rfl)
    have hr1_2 := reads_fld Tryd.underlying69 hr1 2 _ rfl (l := [y1_4, y1_5]) (by kernel_rfl)
    have hr1_2_0 := reads_fld Tryd.underlying64 hr1_2 0 _ rfl (l := [y1_4]) (by kernel_rfl)
    have hr1_2_1 := reads_fld Tryd.underlying64 hr1_2 1 _ rfl (l := [y1_5]) (by kernel_rfl)
    have hr1_3 := reads_fld Tryd.underlying69 hr1 3 _ rfl (l := [y1_6, y1_7]) (by kernel_rfl)
    have hr1_3_0 := reads_fld Tryd.underlying64 hr1_3 0 _ rfl (l := [y1_6]) (by kernel_rfl)
    have hr1_3_1 := reads_fld Tryd.underlying64 hr1_3 1 _ rfl (l := [y1_7]) (by kernel_rfl)
    obtain ⟨n1_0, rfl⟩ := reads_bool Tryd.underlying4 hr1_0_0
    obtain ⟨n1_1, rfl, f1_1⟩ := reads_int Tryd.underlying2 hr1_0_1
    obtain ⟨n1_2, rfl⟩ := reads_bool Tryd.underlying4 hr1_1_0
    obtain ⟨n1_3, rfl, f1_3⟩ := reads_int Tryd.underlying2 hr1_1_1
    obtain ⟨n1_4, rfl⟩ := reads_bool Tryd.underlying4 hr1_2_0
    obtain ⟨n1_5, rfl, f1_5⟩ := reads_int Tryd.underlying2 hr1_2_1
    obtain ⟨n1_6, rfl⟩ := reads_bool Tryd.underlying4 hr1_3_0
    obtain ⟨n1_7, rfl, f1_7⟩ := reads_int Tryd.underlying2 hr1_3_1
    exact ⟨n1_0, n1_1, n1_2, n1_3, n1_4, n1_5, n1_6, n1_7, rfl, f1_1, f1_3, f1_5, f1_7⟩
  have k1 := h1
  have lt1 : ∀ x ∈ p1, x.block < W.heap.size := by obtain ⟨m, hm⟩ := k1; exact DataW.trod_lt m _ _ _ hm
  obtain ⟨a1, len1, cap1, x1, rfl, w1, g1⟩ := reads_els (m := 1) Tryd.underlying26 (by kernel_rfl) (by decide) (reads_sl Tryd.underlying26 (hval 1 26 v1 rfl rfl) h1 13)
  have t1 : ∀ x ∈ x1, (∃ (c0 : ByteArray), x = [.string c0] ∧ (c0.size ≤ maxLen)) := by
    intro x hx
    obtain ⟨hr2, hl2⟩ := (g1 x hx)
    obtain ⟨y2_0, rfl⟩ := lenL1 hl2
    obtain ⟨n2_0, rfl, f2_0⟩ := reads_string Tryd.underlying9 hr2
    exact ⟨n2_0, rfl, f2_0⟩
  clear hA0 hval0
  refine (Go.Proofs.YtobgibmpodggkaaDoor.law_GsvBack a0_0 a0_1 a0_2 a0_3 len0_3 cap0_3 x0_3 a1 len1 cap1 x1 W w0_0 w0_1 w0_2 w0_3 t0_3 w1 t1 (tab_of hL plainAll (.tail _ (.tail _ (.head _))))).mono fun e W' ⟨he, bel⟩ => ?_
  subst he
  exact ⟨_, rfl, _, _, _, [], _, [], hW', trodAll_mk1 (shut_bool Tryd.underlying4 _), (trodAll_cons_mk (Below.trod laidOut (by kernel_rfl) (of_decide_eq_true (by kernel_rfl)) k0 bel lt0) (trodAll_cons_mk (Below.trod laidOut (by kernel_rfl) (of_decide_eq_true (by kernel_rfl)) k1 bel lt1) trodAll_mk0)), rfl, bel.frame _, fun h => by cases h⟩

theorem over : Rows.gsvBackRow.holds Tryd.pinned (OpenSpec.ofChange Rows.gsvBackSpec) :=
  OpenClaim.holds_of_wide 4 Tryd.f4 rfl rfl rfl rfl rfl rfl rfl ⟨rfl, rfl, rfl, rfl, rfl⟩ rfl rfl rfl rfl rfl (by kernel_rfl) Tryd.func4 (by kernel_rfl)
    (of_decide_eq_true (by kernel_rfl)) (by unfold Func.isWrapper; first | (rw [if_pos (by decide +kernel)]; kernel_rfl) | (rw [if_neg (by decide +kernel)]; exact ⟨rfl, rfl⟩))
    (fun os started H enc _ => lifted os started H enc)

/-- The statement. -/
theorem proved : Rows.GsvBackCardSaid :=
  Claim7.holds_tied_plain_at .later [] [.data, .data, .data, .data, .pinned] true (true, "b03283d3ed18ab62db0838989c6cbcbbfea9d85d3188a78e69bb331b4442b6ec") false
    over (fun _ h => by cases h) (by kernel_rfl) (fun _ h => by cases h) gsvBack_row_tie rfl ⟨rfl, rfl⟩ (by kernel_rfl) rfl
    (fun f fn hf hfn => by
      obtain rfl : f = 4 := Option.some.inj ((show Tryd.prog.funcNamed "landfall/landfalllaw29.GsvBack" = some 4 by kernel_rfl).symm.trans hf) |>.symm
      obtain rfl : fn = Tryd.f4 := (Option.some.inj (Tryd.func4.symm.trans hfn)).symm
      exact ⟨by kernel_rfl, fun j t ht => by
        rw [Tryd.params4] at ht
        have hm : t ∈ [24, 26] := by simpa using Array.mem_of_getElem? ht
        have hall : ([24, 26].all fun u => !Tryd.prog.wantsStandIn u) = true := by kernel_rfl
        exact (show Tryd.prog.wantsStandIn t = false by simpa using List.all_eq_true.1 hall t hm)⟩)
    (by kernel_rfl)
#print axioms proved
end Go.Proofs.YtobgibmpodggkaaDoor.gsvBack
