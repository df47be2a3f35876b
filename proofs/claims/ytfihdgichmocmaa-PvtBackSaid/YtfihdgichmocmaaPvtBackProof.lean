/- PvtBack: for every input the law PvtBack returns true and leaves what it was given as it was. Conditions: none beyond those of the row. The walk is law_PvtBack of module Law16d. -/
import Derived.Test.YtfihdgichmocmaaRows
import Derived.Test.YtfihdgichmocmaaLaw16d
import Derived.WalkKit
import Derived.ProofKit
import Derived.OpenShut
import Derived.ShutString
import Derived.ChangeOld
import Derived.Below
import Derived.Lib.SmallJoins
namespace Go.Proofs.Ytfihdgichmocmaa.pvtBack
open Go.ChangeShapes Go.WideShapes Go.ChangeAt Go.RowKit
open Go.ChangeMaps (open_string shut_string)
set_option linter.unusedVariables false

theorem own : ownKnob Try.prog.godebug = none := by kernel_rfl
theorem laidOut : laidOutB Try.prog = true := by kernel_rfl
theorem lenL32 {l : List Value} (h : l.length = 32) : ∃ y0 y1 y2 y3 y4 y5 y6 y7 y8 y9 y10 y11 y12 y13 y14 y15 y16 y17 y18 y19 y20 y21 y22 y23 y24 y25 y26 y27 y28 y29 y30 y31, l = [y0, y1, y2, y3, y4, y5, y6, y7, y8, y9, y10, y11, y12, y13, y14, y15, y16, y17, y18, y19, y20, y21, y22, y23, y24, y25, y26, y27, y28, y29, y30, y31] := by
  match l, h with
  | [y0, y1, y2, y3, y4, y5, y6, y7, y8, y9, y10, y11, y12, y13, y14, y15, y16, y17, y18, y19, y20, y21, y22, y23, y24, y25, y26, y27, y28, y29, y30, y31], _ => exact ⟨_, _, _, _, _, _, _, _, _, _, _, _, _, _, _, _, _, _, _, _, _, _, _, _, _, _, _, _, _, _, _, _, rfl⟩

set_option maxRecDepth 100000 in
theorem lifted (os : Os) (started : os.Started) (H : Type) (enc : TypeId × Value → H) :
    ReturnsInHanded {} Try.checked os 6 .any (Rows.pvtBackSpec.pre6 enc Try.prog Try.f6 Rows.pvtBackRow.domain false) (Rows.pvtBackSpec.post enc Try.prog Try.f6 false true false false) := by
  refine returnsInHanded_of_change (C := Try.checked) own started (by kernel_rfl) Try.func6
    (ChangeSpec.witness6 (enc := enc) (C := Try.checked) false ⟨#[], #[.agg #[.int .i64 0, .int .i64 0, .int .i64 0, .int .i64 0, .int .i64 0, .int .i64 0, .int .i64 0, .int .i64 0, .int .i64 0, .int .i64 0, .int .i64 0, .int .i64 0, .int .i64 0, .int .i64 0, .int .i64 0, .int .i64 0, .int .i64 0, .int .i64 0, .int .i64 0, .int .i64 0, .int .i64 0, .int .i64 0, .int .i64 0, .int .i64 0, .int .i64 0, .int .i64 0, .int .i64 0, .int .i64 0, .int .i64 0, .int .i64 0, .int .i64 0, .int .i64 0], .slice none 0 0], []⟩ 8 (by kernel_rfl) (by kernel_rfl) (by kernel_rfl) (by kernel_rfl)) ?_
  intro W base args ds gs before hval0 hW hcnd _
  have hval : ∀ (j : Nat) t v, Try.f6.params[j]? = some t → args[j]? = some v → Value.okWide Try.prog W .any base t v := hval0
  have hW' := hW
  obtain ⟨p, q, hA0, hV, rfl, hfz, hnd⟩ := hW
  have hA : DataW.TrodAll enc Try.prog W 0 (fun _ => true) true Try.f6.params.toList args.toList ds p := hA0
  rw [Try.params6] at hA hval
  obtain ⟨v0, vs0, d0, ds0, p0, q0, hargs, rfl, rfl, h0, r0⟩ := trodAll_cons hA
  obtain ⟨v1, vs1, d1, ds1, p1, q1, rfl, rfl, rfl, h1, r1⟩ := trodAll_cons r0
  obtain ⟨rfl, rfl, rfl⟩ := trodAll_nil r1
  obtain rfl : args = #[v0, v1] := by cases args; simp_all
  obtain ⟨rfl, rfl⟩ := trodVars_none hV
  have k0 := h0
  have lt0 : ∀ x ∈ p0, x.block < W.heap.size := by obtain ⟨m, hm⟩ := k0; exact DataW.trod_lt m _ _ _ hm
  obtain ⟨l0, rfl, hl0, hr0⟩ := reads_agg (P := Try.prog) Try.underlying23 (hval 0 23 v0 rfl rfl) h0 12
  have hl0' : l0.length = 32 := hl0.trans (by kernel_rfl)
  obtain ⟨y0_0, y0_1, y0_2, y0_3, y0_4, y0_5, y0_6, y0_7, y0_8, y0_9, y0_10, y0_11, y0_12, y0_13, y0_14, y0_15, y0_16, y0_17, y0_18, y0_19, y0_20, y0_21, y0_22, y0_23, y0_24, y0_25, y0_26, y0_27, y0_28, y0_29, y0_30, y0_31, rfl⟩ := lenL32 hl0'
  have hr0_0 := reads_fld Try.underlying23 hr0 0 _ rfl (l := [y0_0]) (by kernel_rfl)
  have hr0_1 := reads_fld Try.underlying23 hr0 1 _ rfl (l := [y0_1]) (by kernel_rfl)
  have hr0_2 := reads_fld Try.underlying23 hr0 2 _ rfl (l := [y0_2]) (by kernel_rfl)
  have hr0_3 := reads_fld Try.underlying23 hr0 3 _ rfl (l := [y0_3]) (by kernel_rfl)
  have hr0_4 := reads_fld Try.underlying23 hr0 4 _ rfl (l := [y0_4]) (by kernel_rfl)
  have hr0_5 := reads_fld Try.underlying23 hr0 5 _ rfl (l := [y0_5]) (by kernel_rfl)
  have hr0_6 := reads_fld Try.underlying23 hr0 6 _ rfl (l := [y0_6]) (by kernel_rfl)
  have hr0_7 := reads_fld Try.underlying23 hr0 7 _ rfl (l := [y0_7]) (by kernel_rfl)
  have hr0_8 := reads_fld Try.underlying23 hr0 8 _ rfl (l := [y0_8]) (by kernel_rfl)
  have hr0_9 := reads_fld Try.underlying23 hr0 9 _ rfl (l := [y0_9]) (by kernel_rfl)
  have hr0_10 := reads_fld Try.underlying23 hr0 10 _ rfl (l := [y0_10]) (by kernel_rfl)
  have hr0_11 := reads_fld Try.underlying23 hr0 11 _ rfl (l := [y0_11]) (by kernel_rfl)
  have hr0_12 := reads_fld Try.underlying23 hr0 12 _ rfl (l := [y0_12]) (by kernel_rfl)
  have hr0_13 := reads_fld Try.underlying23 hr0 13 _ rfl (l := [y0_13]) (by kernel_rfl)
  have hr0_14 := reads_fld Try.underlying23 hr0 14 _ rfl (l := [y0_14]) (by kernel_rfl)
  have hr0_15 := reads_fld Try.underlying23 hr0 15 _ rfl (l := [y0_15]) (by kernel_rfl)
  have hr0_16 := reads_fld Try.underlying23 hr0 16 _ rfl (l := [y0_16]) (by kernel_rfl)
  have hr0_17 := reads_fld Try.underlying23 hr0 17 _ rfl (l := [y0_17]) (by kernel_rfl)
  have hr0_18 := reads_fld Try.underlying23 hr0 18 _ rfl (l := [y0_18]) (by kernel_rfl)
  have hr0_19 := reads_fld Try.underlying23 hr0 19 _ rfl (l := [y0_19]) (by kernel_rfl)
  have hr0_20 := reads_fld Try.underlying23 hr0 20 _ rfl (l := [y0_20]) (by kernel_rfl)
  have hr0_21 := reads_fld Try.underlying23 hr0 21 _ rfl (l := [y0_21]) (by kernel_rfl)
  have hr0_22 := reads_fld Try.underlying23 hr0 22 _ rfl (l := [y0_22]) (by kernel_rfl)
  have hr0_23 := reads_fld Try.underlying23 hr0 23 _ rfl (l := [y0_23]) (by kernel_rfl)
  have hr0_24 := reads_fld Try.underlying23 hr0 24 _ rfl (l := [y0_24]) (by kernel_rfl)
  have hr0_25 := reads_fld Try.underlying23 hr0 25 _ rfl (l := [y0_25]) (by kernel_rfl)
  have hr0_26 := reads_fld Try.underlying23 hr0 26 _ rfl (l := [y0_26]) (by kernel_rfl)
  have hr0_27 := reads_fld Try.underlying23 hr0 27 _ rfl (l := [y0_27]) (by kernel_rfl)
  have hr0_28 := reads_fld Try.underlying23 hr0 28 _ rfl (l := [y0_28]) (by kernel_rfl)
  have hr0_29 := reads_fld Try.underlying23 hr0 29 _ rfl (l := [y0_29]) (by kernel_rfl)
  have hr0_30 := reads_fld Try.underlying23 hr0 30 _ rfl (l := [y0_30]) (by kernel_rfl)
  have hr0_31 := reads_fld Try.underlying23 hr0 31 _ rfl (l := [y0_31]) (by kernel_rfl)
  obtain ⟨a0_0, rfl, w0_0⟩ := reads_int Try.underlying2 hr0_0
  obtain ⟨a0_1, rfl, w0_1⟩ := reads_int Try.underlying2 hr0_1
  obtain ⟨a0_2, rfl, w0_2⟩ := reads_int Try.underlying2 hr0_2
  obtain ⟨a0_3, rfl, w0_3⟩ := reads_int Try.underlying2 hr0_3
  obtain ⟨a0_4, rfl, w0_4⟩ := reads_int Try.underlying2 hr0_4
  obtain ⟨a0_5, rfl, w0_5⟩ := reads_int Try.underlying2 hr0_5
  obtain ⟨a0_6, rfl, w0_6⟩ := reads_int Try.underlying2 hr0_6
  obtain ⟨a0_7, rfl, w0_7⟩ := reads_int Try.underlying2 hr0_7
  obtain ⟨a0_8, rfl, w0_8⟩ := reads_int Try.underlying2 hr0_8
  obtain ⟨a0_9, rfl, w0_9⟩ := reads_int Try.underlying2 hr0_9
  obtain ⟨a0_10, rfl, w0_10⟩ := reads_int Try.underlying2 hr0_10
  obtain ⟨a0_11, rfl, w0_11⟩ := reads_int Try.underlying2 hr0_11
  obtain ⟨a0_12, rfl, w0_12⟩ := reads_int Try.underlying2 hr0_12
  obtain ⟨a0_13, rfl, w0_13⟩ := reads_int Try.underlying2 hr0_13
  obtain ⟨a0_14, rfl, w0_14⟩ := reads_int Try.underlying2 hr0_14
  obtain ⟨a0_15, rfl, w0_15⟩ := reads_int Try.underlying2 hr0_15
  obtain ⟨a0_16, rfl, w0_16⟩ := reads_int Try.underlying2 hr0_16
  obtain ⟨a0_17, rfl, w0_17⟩ := reads_int Try.underlying2 hr0_17
  obtain ⟨a0_18, rfl, w0_18⟩ := reads_int Try.underlying2 hr0_18
  obtain ⟨a0_19, rfl, w0_19⟩ := reads_int Try.underlying2 hr0_19
  obtain ⟨a0_20, rfl, w0_20⟩ := reads_int Try.underlying2 hr0_20
  obtain ⟨a0_21, rfl, w0_21⟩ := reads_int Try.underlying2 hr0_21
  obtain ⟨a0_22, rfl, w0_22⟩ := reads_int Try.underlying2 hr0_22
  obtain ⟨a0_23, rfl, w0_23⟩ := reads_int Try.underlying2 hr0_23
  obtain ⟨a0_24, rfl, w0_24⟩ := reads_int Try.underlying2 hr0_24
  obtain ⟨a0_25, rfl, w0_25⟩ := reads_int Try.underlying2 hr0_25
  obtain ⟨a0_26, rfl, w0_26⟩ := reads_int Try.underlying2 hr0_26
  obtain ⟨a0_27, rfl, w0_27⟩ := reads_int Try.underlying2 hr0_27
  obtain ⟨a0_28, rfl, w0_28⟩ := reads_int Try.underlying2 hr0_28
  obtain ⟨a0_29, rfl, w0_29⟩ := reads_int Try.underlying2 hr0_29
  obtain ⟨a0_30, rfl, w0_30⟩ := reads_int Try.underlying2 hr0_30
  obtain ⟨a0_31, rfl, w0_31⟩ := reads_int Try.underlying2 hr0_31
  obtain ⟨a1, len1, cap1, rfl⟩ := okWide_slice Try.underlying24 (hval 1 24 v1 rfl rfl)
  have k1 := h1
  have lt1 : ∀ x ∈ p1, x.block < W.heap.size := by obtain ⟨m, hm⟩ := k1; exact DataW.trod_lt m _ _ _ hm
  obtain ⟨z1, w1⟩ : ∃ zs, IsRow .u8 W a1 len1 cap1 zs := by
    obtain ⟨fuel, hf⟩ := h1
    rcases open_ints Try.underlying24 Try.underlying5 (by kernel_rfl) hf with ⟨hcs, _⟩ | ⟨x, l, c, zs, hcs, _, hl, hm, hz, _, hcell, hwz⟩
    · simp [Value.cells] at hcs
      obtain ⟨rfl, rfl, rfl⟩ := hcs
      exact ⟨[], .inl ⟨rfl, rfl, rfl, rfl⟩⟩
    · simp [Value.cells] at hcs
      obtain ⟨rfl, rfl, rfl⟩ := hcs
      exact ⟨zs, .inr ⟨_, rfl, hl, hm, by simpa using hz, hcell, hwz⟩⟩
  clear hA0 hval0
  refine (Go.Proofs.Ytfihdgichmocmaa.law_PvtBack a0_0 a0_1 a0_2 a0_3 a0_4 a0_5 a0_6 a0_7 a0_8 a0_9 a0_10 a0_11 a0_12 a0_13 a0_14 a0_15 a0_16 a0_17 a0_18 a0_19 a0_20 a0_21 a0_22 a0_23 a0_24 a0_25 a0_26 a0_27 a0_28 a0_29 a0_30 a0_31 a1 len1 cap1 z1 W w0_0 w0_1 w0_2 w0_3 w0_4 w0_5 w0_6 w0_7 w0_8 w0_9 w0_10 w0_11 w0_12 w0_13 w0_14 w0_15 w0_16 w0_17 w0_18 w0_19 w0_20 w0_21 w0_22 w0_23 w0_24 w0_25 w0_26 w0_27 w0_28 w0_29 w0_30 w0_31 w1).mono fun e W' ⟨he, bel⟩ => ?_
  subst he
  exact ⟨_, rfl, _, _, _, [], _, [], hW', trodAll_mk1 (shut_bool Try.underlying4 _), (trodAll_cons_mk (Below.trod laidOut (by kernel_rfl) (of_decide_eq_true (by kernel_rfl)) k0 bel lt0) (trodAll_cons_mk (Below.trod laidOut (by kernel_rfl) (of_decide_eq_true (by kernel_rfl)) k1 bel lt1) trodAll_mk0)), rfl, bel.frame _, fun h => by cases h⟩

theorem over : Rows.pvtBackRow.holds Try.pinned (OpenSpec.ofChange Rows.pvtBackSpec) :=
  OpenClaim.holds_of_wide 6 Try.f6 rfl rfl rfl rfl rfl rfl rfl ⟨rfl, rfl, rfl, rfl, rfl⟩ rfl rfl rfl rfl rfl (by kernel_rfl) Try.func6 (by kernel_rfl)
    (of_decide_eq_true (by kernel_rfl)) (by unfold Func.isWrapper; first | (rw [if_pos (by decide +kernel)]; kernel_rfl) | (rw [if_neg (by decide +kernel)]; exact ⟨rfl, rfl⟩))
    (fun os started H enc _ => lifted os started H enc)

/-- The statement. -/
theorem proved : Rows.PvtBackSaid := over
#print axioms proved
end Go.Proofs.Ytfihdgichmocmaa.pvtBack
