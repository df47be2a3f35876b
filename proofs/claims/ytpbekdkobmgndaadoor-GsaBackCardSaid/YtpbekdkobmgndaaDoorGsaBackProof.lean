/- GsaBack: for every input the law GsaBack returns true and leaves what it was given as it was. Conditions: none beyond those of the row. The walk is law_GsaBack of module Law27b. -/
import Derived.Test.YtpbekdkobmgndaaDoorRows
import Derived.Test.YtpbekdkobmgndaaDoorTie
import Derived.Test.YtpbekdkobmgndaaDoorCards
import Derived.Test.YtpbekdkobmgndaaDoorTie23
import Derived.Lay
import Derived.LaidOnce
import Derived.SevenTiedAt
import Derived.Handed
import Derived.MakeChecks
import Derived.Test.YtpbekdkobmgndaaDoorLaw27b
import Derived.WalkKit
import Derived.ProofKit
import Derived.OpenShut
import Derived.ShutString
import Derived.ChangeOld
import Derived.Below
import Derived.Lib.SmallJoins
namespace Go.Proofs.YtpbekdkobmgndaaDoor.gsaBack
open Go.ChangeShapes Go.WideShapes Go.ChangeAt Go.RowKit
open Go.ChangeMaps (open_string shut_string)
set_option linter.unusedVariables false

theorem own : ownKnob Tryd.prog.godebug = none := by kernel_rfl
theorem plainAll : (Rows.gsaBackRow.laid.all fun x => x.2.handleName?.isNone) = true := by kernel_rfl
theorem laidOut : laidOutB Tryd.prog = true := by kernel_rfl
theorem lenL1 {l : List Value} (h : l.length = 1) : ∃ y0, l = [y0] := by
  match l, h with
  | [y0], _ => exact ⟨_, rfl⟩
theorem lenL9 {l : List Value} (h : l.length = 9) : ∃ y0 y1 y2 y3 y4 y5 y6 y7 y8, l = [y0, y1, y2, y3, y4, y5, y6, y7, y8] := by
  match l, h with
  | [y0, y1, y2, y3, y4, y5, y6, y7, y8], _ => exact ⟨_, _, _, _, _, _, _, _, _, rfl⟩

set_option maxRecDepth 100000 in
theorem lifted (os : Os) (started : os.Started) (H : Type) (enc : TypeId × Value → H) :
    ReturnsInHanded {} Tryd.checked os 3 .any (fun w args => (Rows.gsaBackSpec.pre enc Tryd.prog Tryd.f3 Rows.gsaBackRow.domain false w args ∧ laidMetH Tryd.prog Rows.gsaBackRow.laid w) ∧ sizedMet enc Tryd.prog Tryd.f3 (OpenSpec.ofChange Rows.gsaBackSpec) false w args) (Rows.gsaBackSpec.post enc Tryd.prog Tryd.f3 false true false false) := by
  refine returnsInHanded_of_change_and (C := Tryd.checked) (X := fun w _ => laidMetH Tryd.prog Rows.gsaBackRow.laid w) (fun _ _ _ hh h => h.of_heap hh) own started (by kernel_rfl) Tryd.func3
    (ChangeSpec.witness_shaped (enc := enc) (C := Tryd.checked) (os := os) (X := fun w _ => laidMetH Tryd.prog Rows.gsaBackRow.laid w) false (World.laidAll Tryd.prog os Rows.gsaBackRow.laid) #[.agg #[.bool false, .int .i64 0, .slice none 0 0, .bool false, .int .i64 0, .bool false, .int .i64 0, .bool false, .int .i64 0], .slice none 0 0] 12 (World.laidAll_os _ _ _)
      (World.shaped_of_ZipB (by kernel_rfl) (by kernel_rfl)) (by kernel_rfl) (by kernel_rfl) (by kernel_rfl)
      (by rw [MakeChecks.laidMetH_plain _ _ _ plainAll]; exact laidMet_laidAll _ (by kernel_rfl) (by kernel_rfl))) ?_
  intro W base args ds gs before hval0 hW hcnd _ hL _
  have hval : ∀ (j : Nat) t v, Tryd.f3.params[j]? = some t → args[j]? = some v → Value.okWide Tryd.prog W .any base t v := hval0
  have hW' := hW
  obtain ⟨p, q, hA0, hV, rfl, hfz, hnd⟩ := hW
  have hA : DataW.TrodAll enc Tryd.prog W 0 (fun _ => true) true Tryd.f3.params.toList args.toList ds p := hA0
  rw [Tryd.params3] at hA hval
  obtain ⟨v0, vs0, d0, ds0, p0, q0, hargs, rfl, rfl, h0, r0⟩ := trodAll_cons hA
  obtain ⟨v1, vs1, d1, ds1, p1, q1, rfl, rfl, rfl, h1, r1⟩ := trodAll_cons r0
  obtain ⟨rfl, rfl, rfl⟩ := trodAll_nil r1
  obtain rfl : args = #[v0, v1] := by cases args; simp_all
  obtain ⟨rfl, rfl⟩ := trodVars_none hV
  have k0 := h0
  have lt0 : ∀ x ∈ p0, x.block < W.heap.size := by obtain ⟨m, hm⟩ := k0; exact DataW.trod_lt m _ _ _ hm
  obtain ⟨l0, rfl, hl0, hr0⟩ := reads_agg (P := Tryd.prog) Tryd.underlying26 (hval 0 26 v0 rfl rfl) h0 12
  have hl0' : l0.length = 9 := hl0.trans (by kernel_rfl)
  obtain ⟨y0_0, y0_1, y0_2, y0_3, y0_4, y0_5, y0_6, y0_7, y0_8, rfl⟩ := lenL9 hl0'
  have hr0_0 := reads_fld Tryd.underlying26 hr0 0 _ rfl (l := [y0_0]) (by kernel_rfl)
  have hr0_1 := reads_fld Tryd.underlying26 hr0 1 _ rfl (l := [y0_1]) (by kernel_rfl)
  have hr0_2 := reads_fld Tryd.underlying26 hr0 2 _ rfl (l := [y0_2]) (by kernel_rfl)
  have hr0_3 := reads_fld Tryd.underlying26 hr0 3 _ rfl (l := [y0_3, y0_4]) (by kernel_rfl)
  have hr0_3_0 := reads_fld Tryd.underlying24 hr0_3 0 _ rfl (l := [y0_3]) (by kernel_rfl)
  have hr0_3_1 := reads_fld Tryd.underlying24 hr0_3 1 _ rfl (l := [y0_4]) (by kernel_rfl)
  have hr0_4 := reads_fld Tryd.underlying26 hr0 4 _ rfl (l := [y0_5, y0_6]) (by kernel_rfl)
  have hr0_4_0 := reads_fld Tryd.underlying24 hr0_4 0 _ rfl (l := [y0_5]) (by kernel_rfl)
  have hr0_4_1 := reads_fld Tryd.underlying24 hr0_4 1 _ rfl (l := [y0_6]) (by kernel_rfl)
  have hr0_5 := reads_fld Tryd.underlying26 hr0 5 _ rfl (l := [y0_7, y0_8]) (by kernel_rfl)
  have hr0_5_0 := reads_fld Tryd.underlying24 hr0_5 0 _ rfl (l := [y0_7]) (by kernel_rfl)
  have hr0_5_1 := reads_fld Tryd.underlying24 hr0_5 1 _ rfl (l := [y0_8]) (by kernel_rfl)
  obtain ⟨a0_0, rfl⟩ := reads_bool Tryd.underlying4 hr0_0
  obtain ⟨a0_1, rfl, w0_1⟩ := reads_int Tryd.underlying2 hr0_1
  obtain ⟨a0_2, len0_2, cap0_2, z0_2, rfl, w0_2, t0_2⟩ := reads_ints Tryd.underlying22 Tryd.underlying2 (by kernel_rfl) hr0_2
  obtain ⟨a0_3, rfl⟩ := reads_bool Tryd.underlying4 hr0_3_0
  obtain ⟨a0_4, rfl, w0_4⟩ := reads_int Tryd.underlying2 hr0_3_1
  obtain ⟨a0_5, rfl⟩ := reads_bool Tryd.underlying4 hr0_4_0
  obtain ⟨a0_6, rfl, w0_6⟩ := reads_int Tryd.underlying2 hr0_4_1
  obtain ⟨a0_7, rfl⟩ := reads_bool Tryd.underlying4 hr0_5_0
  obtain ⟨a0_8, rfl, w0_8⟩ := reads_int Tryd.underlying2 hr0_5_1
  have k1 := h1
  have lt1 : ∀ x ∈ p1, x.block < W.heap.size := by obtain ⟨m, hm⟩ := k1; exact DataW.trod_lt m _ _ _ hm
  obtain ⟨a1, len1, cap1, x1, rfl, w1, g1⟩ := reads_els (m := 1) Tryd.underlying27 (by kernel_rfl) (by decide) (reads_sl Tryd.underlying27 (hval 1 27 v1 rfl rfl) h1 13)
  have t1 : ∀ x ∈ x1, (∃ (c0 : ByteArray), x = [.string c0] ∧ (c0.size ≤ maxLen)) := by
    intro x hx
    obtain ⟨hr1, hl1⟩ := (g1 x hx)
    obtain ⟨y1_0, rfl⟩ := lenL1 hl1
    obtain ⟨n1_0, rfl, f1_0⟩ := reads_string Tryd.underlying9 hr1
    exact ⟨n1_0, rfl, f1_0⟩
  clear hA0 hval0
  refine (Go.Proofs.YtpbekdkobmgndaaDoor.law_GsaBack a0_0 a0_1 a0_2 len0_2 cap0_2 z0_2 a0_3 a0_4 a0_5 a0_6 a0_7 a0_8 a1 len1 cap1 x1 W w0_1 w0_2 t0_2 w0_4 w0_6 w0_8 w1 t1 (tab_of hL plainAll (.tail _ (.tail _ (.head _))))).mono fun e W' ⟨he, bel⟩ => ?_
  subst he
  exact ⟨_, rfl, _, _, _, [], _, [], hW', trodAll_mk1 (shut_bool Tryd.underlying4 _), (trodAll_cons_mk (Below.trod laidOut (by kernel_rfl) (of_decide_eq_true (by kernel_rfl)) k0 bel lt0) (trodAll_cons_mk (Below.trod laidOut (by kernel_rfl) (of_decide_eq_true (by kernel_rfl)) k1 bel lt1) trodAll_mk0)), rfl, bel.frame _, fun h => by cases h⟩

theorem over : Rows.gsaBackRow.holds Tryd.pinned (OpenSpec.ofChange Rows.gsaBackSpec) :=
  OpenClaim.holds_of_wide 3 Tryd.f3 rfl rfl rfl rfl rfl rfl rfl ⟨rfl, rfl, rfl, rfl, rfl⟩ rfl rfl rfl rfl rfl (by kernel_rfl) Tryd.func3 (by kernel_rfl)
    (of_decide_eq_true (by kernel_rfl)) (by unfold Func.isWrapper; first | (rw [if_pos (by decide +kernel)]; kernel_rfl) | (rw [if_neg (by decide +kernel)]; exact ⟨rfl, rfl⟩))
    (fun os started H enc _ => lifted os started H enc)

/-- The statement. -/
theorem proved : Rows.GsaBackCardSaid :=
  Claim7.holds_tied_plain_at .later [] [.data, .data, .data, .data, .pinned] true (true, "cfb458701fac06e879c7fa9e8949e4c8ee818aac15e106da97a63c1dfee6affc") false
    over (fun _ h => by cases h) (by kernel_rfl) (fun _ h => by cases h) gsaBack_row_tie rfl ⟨rfl, rfl⟩ (by kernel_rfl) rfl
    (fun f fn hf hfn => by
      obtain rfl : f = 3 := Option.some.inj ((show Tryd.prog.funcNamed "landfall/landfalllaw27.GsaBack" = some 3 by kernel_rfl).symm.trans hf) |>.symm
      obtain rfl : fn = Tryd.f3 := (Option.some.inj (Tryd.func3.symm.trans hfn)).symm
      exact ⟨by kernel_rfl, fun j t ht => by
        rw [Tryd.params3] at ht
        have hm : t ∈ [26, 27] := by simpa using Array.mem_of_getElem? ht
        have hall : ([26, 27].all fun u => !Tryd.prog.wantsStandIn u) = true := by kernel_rfl
        exact (show Tryd.prog.wantsStandIn t = false by simpa using List.all_eq_true.1 hall t hm)⟩)
    (by kernel_rfl)
#print axioms proved
end Go.Proofs.YtpbekdkobmgndaaDoor.gsaBack
