/- The laws of layer 23: DecimNil. -/
import Derived.Test.YtelffhelelbfiaaDoorRow6
import Derived.Test.YtelffhelelbfiaaDoorLaw23
import Derived.Laws.StructEq
import Derived.Deep.DeepCutAuto
namespace Go.Proofs.YtelffhelelbfiaaDoor
open Go.ChangeShapes Go.WideShapes Go.ChangeAt Go.RowKit
set_option linter.unusedVariables false
set_option linter.unusedSimpArgs false

set_option maxRecDepth 100000 in
set_option maxHeartbeats 8000000 in
theorem law_DecimNil (a0_0 : Bool) (a0_1 : Int) (a1_0 : Int) (a1_1 : Int) (a1_2 : Int) (a1_3 : Int) (a1_4 : Int) (W : World) (w0_1 : (Lit.int .i64 a0_1).wf = true) (w1_0 : (Lit.int .i64 a1_0).wf = true) (w1_1 : (Lit.int .i64 a1_1).wf = true) (w1_2 : (Lit.int .i64 a1_2).wf = true) (w1_3 : (Lit.int .i64 a1_3).wf = true) (w1_4 : (Lit.int .i64 a1_4).wf = true) (hT : Tab W) :
    Calls Tryd.prog 6 #[.agg #[.bool a0_0, .int .i64 a0_1], .agg #[.int .i64 a1_0, .int .i64 a1_1, .int .i64 a1_2, .int .i64 a1_3, .int .i64 a1_4]] W fun e w' => e = .returned (.bool true) ∧ Below W.heap.size W w' := by
  have hb := bounds_i64 w0_1
  have hlb := And.intro (bounds_i64 w1_3) (bounds_i64 w1_4)
  clear w0_1 w1_0 w1_1 w1_2 w1_3 w1_4
  replace hT := hid hT
  have k1 := hid (fun U p (h : Bad23 58 p U) (hT : Tab U) => pnum_bad p a0_0 a0_1 a1_0 a1_1 a1_2 a1_3 a1_4 U h hb hlb hT)
  have k2 := hid (fun U p (h : Bad23 58 p U) (hT : Tab U) => pang_bad p a0_0 a0_1 true U h hb hT)
  clear hb hlb
  go_enter Tryd.func6, Tryd.ntmps6
  go_upto_region 0 with (fail)
  apply wp_region_seg0 (w := W) (S := [.al 1000, .al 1000, .q []]) (E := [.al ((fun p => .pointer (some ⟨p, 0, none⟩)), _) 1000, .al ((fun p => .pointer (some ⟨p, 0, none⟩)), _) 1000, .q0 _]) rfl (by kernel_rfl) rfl rfl
  intro th hge hne
  refine Seg.step _ rfl ⟨by rfl, fun U hU => ?_⟩ ?_
  · go_simp; exact vp_alloc rfl rfl rfl
  refine ⟨_, by (simp only [Ent.val]; go_simp <;> exact rfl), ?_⟩
  refine Seg.step _ rfl ⟨by rfl, fun U hU => ?_⟩ ?_
  · go_simp; exact vp_alloc rfl rfl rfl
  refine ⟨_, by (simp only [Ent.val]; go_simp <;> exact rfl), ?_⟩
  refine Seg.step _ rfl (Or.inl ⟨by rfl, fun U hU => vp_quiet (by (go_simp <;> exact rfl))⟩) ⟨_, by (simp only [Ent.val]; go_simp <;> exact rfl), ?_⟩
  refine Seg.stop (fun U1 hU hk => ?_)
  have nb0 := hge 0 _ _ rfl
  have rb0 := (hk 0 _ _ rfl trivial).1.2 (by simp)
  have nb1 := hge 1 _ _ rfl
  have rb1 := (hk 1 _ _ rfl trivial).1.2 (by simp)
  have ne0_1 := hne 0 1 _ _ _ _ rfl rfl (by omega)
  clear hk hge hne
  generalize th (0 + 0) = p0_0 at *
  dsimp only at rb0
  generalize th (0 + 1) = p0_1 at *
  dsimp only at rb1
  have r_p0_0 := rb0
  clear rb0
  have n_p0_0 := nb0
  clear nb0
  have d_p0_0_p0_1 := ne0_1
  clear ne0_1
  have r_p0_1 := rb1
  clear rb1
  have n_p0_1 := nb1
  clear nb1
  have sz1 := hU.size
  have hB : Below W.heap.size W U1 := hU
  clear hU
  replace hT := hid (hT.out.on hB)
  replace hB := hid hB
  have rn := hid r_p0_0
  have rc := hid r_p0_1
  clear r_p0_0 r_p0_1 n_p0_0 n_p0_1 d_p0_0_p0_1
  go_wp2_with fail
  go_loopw [5, 6, 7] (fun pv rv iv wr => ∃ (k : Nat) (p r : Option Addr), k ≤ 2 ∧ iv = .int .i64 k ∧ pv = .pointer p ∧ rv = .pointer r ∧ Bad23 58 p wr ∧ Bad23 59 r wr ∧ Hid (wr.heap[p0_0]? = some (.cells #[.bool a0_0, .int .i64 a0_1] 23 (0, 0))) ∧ Hid (wr.heap[p0_1]? = some (.cells #[.int .i64 a1_0, .int .i64 a1_1, .int .i64 a1_2, .int .i64 a1_3, .int .i64 a1_4] 25 (0, 0))) ∧ Hid (Tab wr) ∧ Hid (Below W.heap.size W wr)) (fun _ _ iv _ => 2 - (intOf iv).toNat)
  case atStart => exact ⟨0, none, none, by omega, rfl, rfl, rfl, .inl rfl, .inl rfl, rn, rc, hT, hB⟩
  case round =>
    clear rn rc hT hB
    obtain ⟨k, p, r, hk, rfl, rfl, rfl, hp, hr, rn, rc, hT, hB⟩ := hrel
    replace hp := hid hp
    replace hr := hid hr
    by_cases hlt : k < 2
    case pos =>
      have b1 : decide ((k : Int) < 2) = true := by simp; omega
      have e1 : IntKind.i64.wrap ((k : Int) + 1) = (k : Int) + 1 := by simp [IntKind.wrap, IntKind.bits, IntKind.signed]; omega
      have x0 := held_cell rn.out 0 _ rfl
      have x1 := held_cell rn.out 1 _ rfl
      have y0 := held_cell rc.out 0 _ rfl
      have y1 := held_cell rc.out 1 _ rfl
      have y2 := held_cell rc.out 2 _ rfl
      have y3 := held_cell rc.out 3 _ rfl
      have y4 := held_cell rc.out 4 _ rfl
      go_wp2_with fail
      refine (k1.out _ _ hp.out hT.out).mono ?_
      rintro e V ⟨rfl, hA⟩
      replace hp := hid (hp.out.aft hA)
      replace hr := hid (hr.out.aft hA)
      replace rn := hid (held_after hA rn.out)
      replace rc := hid (held_after hA rc.out)
      replace hT := hid (hT.out.on hA)
      replace hB := hid (hB.out.trans (hA.mono (by have := hB.out.size; omega)))
      clear hA
      clear x0 x1 y0 y1 y2 y3 y4
      have x0 := held_cell rn.out 0 _ rfl
      have x1 := held_cell rn.out 1 _ rfl
      go_wp2_with fail
      refine (k2.out _ _ hp.out hT.out).mono ?_
      rintro e V2 ⟨rfl, hA⟩
      replace hp := hid (hp.out.aft hA)
      replace hr := hid (hr.out.aft hA)
      replace rn := hid (held_after hA rn.out)
      replace rc := hid (held_after hA rc.out)
      replace hT := hid (hT.out.on hA)
      replace hB := hid (hB.out.trans (hA.mono (by have := hB.out.size; omega)))
      clear hA
      clear x0 x1
      go_wp2_with fail
      refine (ptext_bad p _ 0 _ hp.out).mono ?_
      rintro e V3 ⟨rfl, hv⟩
      obtain rfl : V2 = V3 := hv.symm
      go_wp2_with fail
      refine (efail_bad r 4 _ hr.out).mono ?_
      rintro e V4 ⟨rfl, hv⟩
      obtain rfl : V2 = V4 := hv.symm
      go_wp2_with fail
      refine (pdone_bad p _ hp.out).mono ?_
      rintro e V5 ⟨rfl, hv⟩
      obtain rfl : V2 = V5 := hv.symm
      go_wp2_with fail
      refine (num23_any 1 _ (by omega) (by omega)).mono ?_
      rintro e V6 ⟨rfl, hv⟩
      obtain rfl : V2 = V6 := hv.symm
      go_wp2_with fail
      refine (num23_any 1 _ (by omega) (by omega)).mono ?_
      rintro e V7 ⟨rfl, hv⟩
      obtain rfl : V2 = V7 := hv.symm
      have y0 := held_cell rc.out 0 _ rfl
      have y1 := held_cell rc.out 1 _ rfl
      have y2 := held_cell rc.out 2 _ rfl
      have y3 := held_cell rc.out 3 _ rfl
      have y4 := held_cell rc.out 4 _ rfl
      go_wp2_with fail
      refine (enum_bad r _ _ _ _ _ _ hr.out).mono ?_
      rintro e V8 ⟨rfl, hA⟩
      replace hp := hid (hp.out.aft hA)
      replace hr := hid (hr.out.aft hA)
      replace rn := hid (held_after hA rn.out)
      replace rc := hid (held_after hA rc.out)
      replace hT := hid (hT.out.on hA)
      replace hB := hid (hB.out.trans (hA.mono (by have := hB.out.size; omega)))
      clear hA
      clear y0 y1 y2 y3 y4
      go_wp2_with fail
      refine (eang_bad r true _ hr.out).mono ?_
      rintro e V9 ⟨rfl, hA⟩
      replace hp := hid (hp.out.aft hA)
      replace hr := hid (hr.out.aft hA)
      replace rn := hid (held_after hA rn.out)
      replace rc := hid (held_after hA rc.out)
      replace hT := hid (hT.out.on hA)
      replace hB := hid (hB.out.trans (hA.mono (by have := hB.out.size; omega)))
      clear hA
      go_wp2_with fail
      refine (etext_bad r _ hr.out).mono ?_
      rintro e V10 ⟨rfl, hv⟩
      obtain rfl : V9 = V10 := hv.symm
      go_wp2_with fail
      refine (eleft_bad r _ hr.out).mono ?_
      rintro e V11 ⟨rfl, hv⟩
      obtain rfl : V9 = V11 := hv.symm
      go_wp2_with fail
      refine (eerr_bad r _ hr.out).mono ?_
      rintro e V12 ⟨rfl, hv⟩
      obtain rfl : V9 = V12 := hv.symm
      go_wp2_with fail
      refine (num23_any 1 _ (by omega) (by omega)).mono ?_
      rintro e V13 ⟨rfl, hv⟩
      obtain rfl : V9 = V13 := hv.symm
      go_wp2_with fail
      refine (num23_any 1 _ (by omega) (by omega)).mono ?_
      rintro e V14 ⟨rfl, hv⟩
      obtain rfl : V9 = V14 := hv.symm
      have nP := alloc_new V9 (.cells #[.bool false, .int .i64 0, .slice none 0 0] 58)
      have nE := alloc_new (V9.alloc (.cells #[.bool false, .int .i64 0, .slice none 0 0] 58)) (.cells #[.bool false, .int .i64 0, .slice none 0 0] 59)
      have hA := bthen nP.2.1 nE.2.1
      have bp : Bad23 58 (some ⟨V9.heap.size, 0, none⟩) _ := .inr ⟨_, rfl, held_after nE.2.1 nP.2.2⟩
      have be : Bad23 59 (some ⟨(V9.alloc (.cells #[.bool false, .int .i64 0, .slice none 0 0] 58)).heap.size, 0, none⟩) _ := .inr ⟨_, rfl, nE.2.2⟩
      clear nP nE hp hr
      simp only [World.size_alloc] at be
      replace bp := hid bp
      replace be := hid be
      replace rn := hid (held_after hA rn.out)
      replace rc := hid (held_after hA rc.out)
      replace hT := hid (hT.out.on hA)
      replace hB := hid (hB.out.trans (hA.mono (by have := hB.out.size; omega)))
      clear hA
      go_wp2_with fail
      go_roundw
      case rel => exact ⟨k + 1, _, _, by omega, by simp, rfl, rfl, bp.out, be.out, rn, rc, hT, hB⟩
      case measure => simp [intOf]; omega
    case neg =>
      have b1 : decide ((k : Int) < 2) = false := by simp; omega
      go_wp2_with fail
      refine (knows23_any _ hT.out).mono ?_
      rintro e V ⟨rfl, hA⟩
      replace hB := hid (hB.out.trans (hA.mono (by have := hB.out.size; omega)))
      clear hA
      go_wp2_with fail
      go_ret
      exact ⟨rfl, hB.out⟩

end Go.Proofs.YtelffhelelbfiaaDoor
