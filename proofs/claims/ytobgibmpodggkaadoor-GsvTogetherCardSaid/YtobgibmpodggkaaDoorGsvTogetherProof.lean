/- GsvTogether: for every input the law GsvTogether returns true and leaves what it was given as it was. Conditions: none beyond those of the row. The walk is law_GsvTogether of module Law29d. -/
import Derived.Test.YtobgibmpodggkaaDoorRows
import Derived.Test.YtobgibmpodggkaaDoorTie
import Derived.Test.YtobgibmpodggkaaDoorCards
import Derived.Test.YtobgibmpodggkaaDoorTie23
import Derived.Lay
import Derived.LaidOnce
import Derived.SevenTiedAt
import Derived.Handed
import Derived.MakeChecks
import Derived.Test.YtobgibmpodggkaaDoorLaw29d
import Derived.WalkKit
import Derived.ProofKit
import Derived.OpenShut
import Derived.ShutString
import Derived.ChangeOld
import Derived.Below
import Derived.Lib.SmallJoins
namespace Go.Proofs.YtobgibmpodggkaaDoor.gsvTogether
open Go.ChangeShapes Go.WideShapes Go.ChangeAt Go.RowKit
open Go.ChangeMaps (open_string shut_string)
set_option linter.unusedVariables false

theorem own : ownKnob Tryd.prog.godebug = none := by kernel_rfl
theorem plainAll : (Rows.gsvTogetherRow.laid.all fun x => x.2.handleName?.isNone) = true := by kernel_rfl
theorem laidOut : laidOutB Tryd.prog = true := by kernel_rfl
theorem lenL1 {l : List Value} (h : l.length = 1) : ∃ y0, l = [y0] := by
  match l, h with
  | [y0], _ => exact ⟨_, rfl⟩
theorem lenL4 {l : List Value} (h : l.length = 4) : ∃ y0 y1 y2 y3, l = [y0, y1, y2, y3] := by
  match l, h with
  | [y0, y1, y2, y3], _ => exact ⟨_, _, _, _, rfl⟩
theorem lenL8 {l : List Value} (h : l.length = 8) : ∃ y0 y1 y2 y3 y4 y5 y6 y7, l = [y0, y1, y2, y3, y4, y5, y6, y7] := by
  match l, h with
  | [y0, y1, y2, y3, y4, y5, y6, y7], _ => exact ⟨_, _, _, _, _, _, _, _, rfl⟩

set_option maxRecDepth 100000 in
theorem lifted (os : Os) (started : os.Started) (H : Type) (enc : TypeId × Value → H) :
    ReturnsInHanded {} Tryd.checked os 6 .any (fun w args => (Rows.gsvTogetherSpec.pre enc Tryd.prog Tryd.f6 Rows.gsvTogetherRow.domain false w args ∧ laidMetH Tryd.prog Rows.gsvTogetherRow.laid w) ∧ sizedMet enc Tryd.prog Tryd.f6 (OpenSpec.ofChange Rows.gsvTogetherSpec) false w args) (Rows.gsvTogetherSpec.post enc Tryd.prog Tryd.f6 false true false false) := by
  refine returnsInHanded_of_change_and (C := Tryd.checked) (X := fun w _ => laidMetH Tryd.prog Rows.gsvTogetherRow.laid w) (fun _ _ _ hh h => h.of_heap hh) own started (by kernel_rfl) Tryd.func6
    (ChangeSpec.witness_shaped (enc := enc) (C := Tryd.checked) (os := os) (X := fun w _ => laidMetH Tryd.prog Rows.gsvTogetherRow.laid w) false (World.laidAll Tryd.prog os Rows.gsvTogetherRow.laid) #[.slice none 0 0, .slice none 0 0] 12 (World.laidAll_os _ _ _)
      (World.shaped_of_ZipB (by kernel_rfl) (by kernel_rfl)) (by kernel_rfl) (by kernel_rfl) (by kernel_rfl)
      (by rw [MakeChecks.laidMetH_plain _ _ _ plainAll]; exact laidMet_laidAll _ (by kernel_rfl) (by kernel_rfl))) ?_
  intro W base args ds gs before hval0 hW hcnd _ hL _
  have hval : ∀ (j : Nat) t v, Tryd.f6.params[j]? = some t → args[j]? = some v → Value.okWide Tryd.prog W .any base t v := hval0
  have hW' := hW
  obtain ⟨p, q, hA0, hV, rfl, hfz, hnd⟩ := hW
  have hA : DataW.TrodAll enc Tryd.prog W 0 (fun _ => true) true Tryd.f6.params.toList args.toList ds p := hA0
  rw [Tryd.params6] at hA hval
  obtain ⟨v0, vs0, d0, ds0, p0, q0, hargs, rfl, rfl, h0, r0⟩ := trodAll_cons hA
  obtain ⟨v1, vs1, d1, ds1, p1, q1, rfl, rfl, rfl, h1, r1⟩ := trodAll_cons r0
  obtain ⟨rfl, rfl, rfl⟩ := trodAll_nil r1
  obtain rfl : args = #[v0, v1] := by cases args; simp_all
  obtain ⟨rfl, rfl⟩ := trodVars_none hV
  have k0 := h0
  have lt0 : ∀ x ∈ p0, x.block < W.heap.size := by obtain ⟨m, hm⟩ := k0; exact DataW.trod_lt m _ _ _ hm
  obtain ⟨a0, len0, cap0, x0, rfl, w0, g0⟩ := reads_els (m := 4) Tryd.underlying38 (by kernel_rfl) (by decide) (reads_sl Tryd.underlying38 (hval 0 38 v0 rfl rfl) h0 13)
  have t0 : ∀ x ∈ x0, (∃ (c0 : Int) (c1 : Int) (c2 : Int) (c3_a : Option Addr) (c3_l c3_c : Nat) (c3_x : List (List Value)), x = [.int .i64 c0, .int .i64 c1, .int .i64 c2, .slice c3_a c3_l c3_c] ∧ ((Lit.int .i64 c0).wf = true) ∧ ((Lit.int .i64 c1).wf = true) ∧ ((Lit.int .i64 c2).wf = true) ∧ (Els W 8 c3_a c3_l c3_c c3_x ∧ ∀ x ∈ c3_x, (∃ (c0 : Bool) (c1 : Int) (c2 : Bool) (c3 : Int) (c4 : Bool) (c5 : Int) (c6 : Bool) (c7 : Int), x = [.bool c0, .int .i64 c1, .bool c2, .int .i64 c3, .bool c4, .int .i64 c5, .bool c6, .int .i64 c7] ∧ ((Lit.int .i64 c1).wf = true) ∧ ((Lit.int .i64 c3).wf = true) ∧ ((Lit.int .i64 c5).wf = true) ∧ ((Lit.int .i64 c7).wf = true)))) := by
    intro x hx
    obtain ⟨hr1, hl1⟩ := (g0 x hx)
    obtain ⟨y1_0, y1_1, y1_2, y1_3, rfl⟩ := lenL4 hl1
    have hr1_0 := reads_fld Tryd.underlying24 hr1 0 _ rfl (l := [y1_0]) (by kernel_rfl)
    have hr1_1 := reads_fld Tryd.underlying24 hr1 1 _ rfl (l := [y1_1]) (by kernel_rfl)
    have hr1_2 := reads_fld Tryd.underlying24 hr1 2 _ rfl (l := [y1_2]) (by kernel_rfl)
    have hr1_3 := reads_fld Tryd.underlying24 hr1 3 _ rfl (l := [y1_3]) (by kernel_rfl)
    obtain ⟨n1_0, rfl, f1_0⟩ := reads_int Tryd.underlying2 hr1_0
    obtain ⟨n1_1, rfl, f1_1⟩ := reads_int Tryd.underlying2 hr1_1
    obtain ⟨n1_2, rfl, f1_2⟩ := reads_int Tryd.underlying2 hr1_2
    obtain ⟨n1_3_a, n1_3_l, n1_3_c, n1_3_x, rfl, f1_3, g1_3⟩ := reads_els (m := 8) Tryd.underlying22 (by kernel_rfl) (by decide) hr1_3
    have d1_3 : ∀ x ∈ n1_3_x, (∃ (c0 : Bool) (c1 : Int) (c2 : Bool) (c3 : Int) (c4 : Bool) (c5 : Int) (c6 : Bool) (c7 : Int), x = [.bool c0, .int .i64 c1, .bool c2, .int .i64 c3, .bool c4, .int .i64 c5, .bool c6, .int .i64 c7] ∧ ((Lit.int .i64 c1).wf = true) ∧ ((Lit.int .i64 c3).wf = true) ∧ ((Lit.int .i64 c5).wf = true) ∧ ((Lit.int .i64 c7).wf = true)) := by
      intro x hx
      obtain ⟨hr2, hl2⟩ := (g1_3 x hx)
      obtain ⟨y2_0, y2_1, y2_2, y2_3, y2_4, y2_5, y2_6, y2_7, rfl⟩ := lenL8 hl2
      have hr2_0 := reads_fld Tryd.underlying69 hr2 0 _ rfl (l := [y2_0, y2_1]) (by kernel_rfl)
      have hr2_0_0 := reads_fld Tryd.underlying64 hr2_0 0 _ rfl (l := [y2_0]) (by kernel_rfl)
      have hr2_0_1 := reads_fld Tryd.underlying64 hr2_0 1 _ rfl (l := [y2_1]) (by kernel_rfl)
      have hr2_1 := reads_fld Tryd.underlying69 hr2 1 _ rfl (l := [y2_2, y2_3]) (by kernel_rfl)
      have hr2_1_0 := reads_fld Tryd.underlying64 hr2_1 0 _ rfl (l := [y2_2]) (by kernel_rfl)
      have hr2_1_1 := reads_fld Tryd.underlying64 hr2_1 1 _ rfl (l := [y2_3]) (by kernel_rfl)
      have hr2_2 := reads_fld Tryd.underlying69 hr2 2 _ rfl (l := [y2_4, y2_5]) (by kernel_rfl)
      have hr2_2_0 := reads_fld Tryd.underlying64 hr2_2 0 _ rfl (l := [y2_4]) (by kernel_rfl)
      have hr2_2_1 := reads_fld Tryd.underlying64 hr2_2 1 _ rfl (l := [y2_5]) (by kernel_rfl)
      have hr2_3 := reads_fld Tryd.underlying69 hr2 3 _ rfl (l := [y2_6, y2_7]) (by kernel_rfl)
      have hr2_3_0 := reads_fld Tryd.underlying64 hr2_3 0 _ rfl (l := [y2_6]) (by kernel_rfl)
      have hr2_3_1 := reads_fld Tryd.underlying64 hr2_3 1 _ rfl (l := [y2_7]) (by kernel_rfl)
      obtain ⟨n2_0, rfl⟩ := reads_bool Tryd.underlying4 hr2_0_0
      obtain ⟨n2_1, rfl, f2_1⟩ := reads_int Tryd.underlying2 hr2_0_1
      obtain ⟨n2_2, rfl⟩ := reads_bool Tryd.underlying4 hr2_1_0
      obtain ⟨n2_3, rfl, f2_3⟩ := reads_int Tryd.underlying2 hr2_1_1
      obtain ⟨n2_4, rfl⟩ := reads_bool Tryd.underlying4 hr2_2_0
      obtain ⟨n2_5, rfl, f2_5⟩ := reads_int Tryd.underlying2 hr2_2_1
      obtain ⟨n2_6, rfl⟩ := reads_bool Tryd.underlying4 hr2_3_0
      obtain ⟨n2_7, rfl, f2_7⟩ := reads_int Tryd.underlying2 hr2_3_1
      exact ⟨n2_0, n2_1, n2_2, n2_3, n2_4, n2_5, n2_6, n2_7, rfl, f2_1, f2_3, f2_5, f2_7⟩
    exact ⟨n1_0, n1_1, n1_2, n1_3_a, n1_3_l, n1_3_c, n1_3_x, rfl, f1_0, f1_1, f1_2, ⟨f1_3, d1_3⟩⟩
  have k1 := h1
  have lt1 : ∀ x ∈ p1, x.block < W.heap.size := by obtain ⟨m, hm⟩ := k1; exact DataW.trod_lt m _ _ _ hm
  obtain ⟨a1, len1, cap1, x1, rfl, w1, g1⟩ := reads_els (m := 1) Tryd.underlying51 (by kernel_rfl) (by decide) (reads_sl Tryd.underlying51 (hval 1 51 v1 rfl rfl) h1 13)
  have t1 : ∀ x ∈ x1, (∃ (c0_a : Option Addr) (c0_l c0_c : Nat) (c0_x : List (List Value)), x = [.slice c0_a c0_l c0_c] ∧ (Els W 8 c0_a c0_l c0_c c0_x ∧ ∀ x ∈ c0_x, (∃ (c0 : Bool) (c1 : Int) (c2 : Bool) (c3 : Int) (c4 : Bool) (c5 : Int) (c6 : Bool) (c7 : Int), x = [.bool c0, .int .i64 c1, .bool c2, .int .i64 c3, .bool c4, .int .i64 c5, .bool c6, .int .i64 c7] ∧ ((Lit.int .i64 c1).wf = true) ∧ ((Lit.int .i64 c3).wf = true) ∧ ((Lit.int .i64 c5).wf = true) ∧ ((Lit.int .i64 c7).wf = true)))) := by
    intro x hx
    obtain ⟨hr3, hl3⟩ := (g1 x hx)
    obtain ⟨y3_0, rfl⟩ := lenL1 hl3
    obtain ⟨n3_0_a, n3_0_l, n3_0_c, n3_0_x, rfl, f3_0, g3_0⟩ := reads_els (m := 8) Tryd.underlying22 (by kernel_rfl) (by decide) hr3
    have d3_0 : ∀ x ∈ n3_0_x, (∃ (c0 : Bool) (c1 : Int) (c2 : Bool) (c3 : Int) (c4 : Bool) (c5 : Int) (c6 : Bool) (c7 : Int), x = [.bool c0, .int .i64 c1, .bool c2, .int .i64 c3, .bool c4, .int .i64 c5, .bool c6, .int .i64 c7] ∧ ((Lit.int .i64 c1).wf = true) ∧ ((Lit.int .i64 c3).wf = true) ∧ ((Lit.int .i64 c5).wf = true) ∧ ((Lit.int .i64 c7).wf = true)) := by
      intro x hx
      obtain ⟨hr4, hl4⟩ := (g3_0 x hx)
      obtain ⟨y4_0, y4_1, y4_2, y4_3, y4_4, y4_5, y4_6, y4_7, rfl⟩ := lenL8 hl4
      have hr4_0 := reads_fld Tryd.underlying69 hr4 0 _ rfl (l := [y4_0, y4_1]) (by kernel_rfl)
      have hr4_0_0 := reads_fld Tryd.underlying64 hr4_0 0 _ rfl (l := [y4_0]) (by kernel_rfl)
      have hr4_0_1 := reads_fld Tryd.underlying64 hr4_0 1 _ rfl (l := [y4_1]) (by kernel_rfl)
      have hr4_1 := reads_fld Tryd.underlying69 hr4 1 _ rfl (l := [y4_2, y4_3]) (by kernel_rfl)
      have hr4_1_0 := reads_fld Tryd.underlying64 hr4_1 0 _ rfl (l := [y4_2]) (by kernel_rfl)
      have hr4_1_1 := reads_fld Tryd.underlying64 hr4_1 1 _ rfl (l := [y4_3]) (by kernel_rfl)
      have hr4_2 := reads_fld Tryd.underlying69 hr4 2 _ rfl (l := [y4_4, y4_5]) (by kernel_rfl)
      have hr4_2_0 := reads_fld Tryd.underlying64 hr4_2 0 _ rfl (l := [y4_4]) (by kernel_rfl)
      have hr4_2_1 := reads_fld Tryd.underlying64 hr4_2 1 _ rfl (l := [y4_5]) (by kernel_rfl)
      have hr4_3 := reads_fld Tryd.underlying69 hr4 3 _ rfl (l := [y4_6, y4_7]) (by kernel_rfl)
      have hr4_3_0 := reads_fld Tryd.underlying64 hr4_3 0 _ rfl (l := [y4_6]) (by kernel_rfl)
      have hr4_3_1 := reads_fld Tryd.underlying64 hr4_3 1 _ rfl (l := [y4_7]) (by kernel_rfl)
      obtain ⟨n4_0, rfl⟩ := reads_bool Tryd.underlying4 hr4_0_0
      obtain ⟨n4_1, rfl, f4_1⟩ := reads_int Tryd.underlying2 hr4_0_1
      obtain ⟨n4_2, rfl⟩ := reads_bool Tryd.underlying4 hr4_1_0
      obtain ⟨n4_3, rfl, f4_3⟩ := reads_int Tryd.underlying2 hr4_1_1
      obtain ⟨n4_4, rfl⟩ := reads_bool Tryd.underlying4 hr4_2_0
      obtain ⟨n4_5, rfl, f4_5⟩ := reads_int Tryd.underlying2 hr4_2_1
      obtain ⟨n4_6, rfl⟩ := reads_bool Tryd.underlying4 hr4_3_0
      obtain ⟨n4_7, rfl, f4_7⟩ := reads_int Tryd.underlying2 hr4_3_1
      exact ⟨n4_0, n4_1, n4_2, n4_3, n4_4, n4_5, n4_6, n4_7, rfl, f4_1, f4_3, f4_5, f4_7⟩
    exact ⟨n3_0_a, n3_0_l, n3_0_c, n3_0_x, rfl, ⟨f3_0, d3_0⟩⟩
  clear hA0 hval0
  refine (Go.Proofs.YtobgibmpodggkaaDoor.law_GsvTogether a0 len0 cap0 x0 a1 len1 cap1 x1 W w0 t0 w1 t1 (tab_of hL plainAll (.tail _ (.tail _ (.head _))))).mono fun e W' ⟨he, bel⟩ => ?_
  subst he
  exact ⟨_, rfl, _, _, _, [], _, [], hW', trodAll_mk1 (shut_bool Tryd.underlying4 _), (trodAll_cons_mk (Below.trod laidOut (by kernel_rfl) (of_decide_eq_true (by kernel_rfl)) k0 bel lt0) (trodAll_cons_mk (Below.trod laidOut (by kernel_rfl) (of_decide_eq_true (by kernel_rfl)) k1 bel lt1) trodAll_mk0)), rfl, bel.frame _, fun h => by cases h⟩

theorem over : Rows.gsvTogetherRow.holds Tryd.pinned (OpenSpec.ofChange Rows.gsvTogetherSpec) :=
  OpenClaim.holds_of_wide 6 Tryd.f6 rfl rfl rfl rfl rfl rfl rfl ⟨rfl, rfl, rfl, rfl, rfl⟩ rfl rfl rfl rfl rfl (by kernel_rfl) Tryd.func6 (by kernel_rfl)
    (of_decide_eq_true (by kernel_rfl)) (by unfold Func.isWrapper; first | (rw [if_pos (by decide +kernel)]; kernel_rfl) | (rw [if_neg (by decide +kernel)]; exact ⟨rfl, rfl⟩))
    (fun os started H enc _ => lifted os started H enc)

/-- The statement. -/
theorem proved : Rows.GsvTogetherCardSaid :=
  Claim7.holds_tied_plain_at .later [] [.data, .data, .data, .data, .pinned] true (true, "b03283d3ed18ab62db0838989c6cbcbbfea9d85d3188a78e69bb331b4442b6ec") false
    over (fun _ h => by cases h) (by kernel_rfl) (fun _ h => by cases h) gsvTogether_row_tie rfl ⟨rfl, rfl⟩ (by kernel_rfl) rfl
    (fun f fn hf hfn => by
      obtain rfl : f = 6 := Option.some.inj ((show Tryd.prog.funcNamed "landfall/landfalllaw29.GsvTogether" = some 6 by kernel_rfl).symm.trans hf) |>.symm
      obtain rfl : fn = Tryd.f6 := (Option.some.inj (Tryd.func6.symm.trans hfn)).symm
      exact ⟨by kernel_rfl, fun j t ht => by
        rw [Tryd.params6] at ht
        have hm : t ∈ [38, 51] := by simpa using Array.mem_of_getElem? ht
        have hall : ([38, 51].all fun u => !Tryd.prog.wantsStandIn u) = true := by kernel_rfl
        exact (show Tryd.prog.wantsStandIn t = false by simpa using List.all_eq_true.1 hall t hm)⟩)
    (by kernel_rfl)
#print axioms proved
end Go.Proofs.YtobgibmpodggkaaDoor.gsvTogether
