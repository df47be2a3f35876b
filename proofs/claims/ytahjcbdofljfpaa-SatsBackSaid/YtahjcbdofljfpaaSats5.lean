/- Package sats: the papers' Same. -/
import Derived.Test.YtahjcbdofljfpaaSats2
import Derived.Laws.StructEq
import Derived.Deep.DeepCutAuto
namespace Go.Proofs.Ytahjcbdofljfpaa
open Go.ChangeShapes Go.WideShapes Go.ChangeAt Go.RowKit
set_option linter.unusedVariables false
set_option linter.unusedSimpArgs false

set_option maxRecDepth 100000 in
set_option maxHeartbeats 4000000 in
theorem same17_refl (tow : Int) (a b : Option Addr) (ca cb : Nat) (l : List (List Int)) (w : World) (hA : Els w 7 a l.length ca (satsV l)) (hB9 : Els w 7 b l.length cb (satsV l)) (h100 : l.length ≤ 100) (hl7 : ∀ x ∈ l, x.length = 7) : Calls Try.prog 18 #[.agg #[.int .i64 tow, .slice a l.length ca], .agg #[.int .i64 tow, .slice b l.length cb]] w fun e w' => e = .returned (.bool true) ∧ After w w' := by
  have h40i : (l.length : Int) ≤ 100 := by omega
  replace hA := hid hA
  replace hB9 := hid hB9
  go_enter Try.func18, Try.ntmps18
  go_upto_region 0 with (fail)
  apply wp_region_seg0 (w := w) (S := [.al 1000, .al 1000, .q []]) (E := [.al ((fun p => .pointer (some ⟨p, 0, none⟩)), _) 1000, .al ((fun p => .pointer (some ⟨p, 0, none⟩)), _) 1000, .q0 _]) rfl (by kernel_rfl) rfl rfl
  intro th hge hne
  refine Seg.step _ rfl ⟨by rfl, fun U hU => ?_⟩ ?_
  · go_simp; exact vp_alloc rfl rfl rfl
  refine ⟨_, by (simp only [Ent.val]; go_simp <;> exact rfl), ?_⟩
  refine Seg.step _ rfl ⟨by rfl, fun U hU => ?_⟩ ?_
  · go_simp; exact vp_alloc rfl rfl rfl
  refine ⟨_, by (simp only [Ent.val]; go_simp <;> exact rfl), ?_⟩
  refine Seg.step _ rfl (Or.inl ⟨by rfl, fun U hU => vp_quiet (by (go_simp <;> exact rfl))⟩) ⟨_, by (simp only [Ent.val]; go_simp <;> exact rfl), ?_⟩
  refine Seg.stop (fun U1 hU hk => ?_)
  have nb0 := hge 0 _ _ rfl
  have rb0 := (hk 0 _ _ rfl trivial).1.2 (by simp)
  have nb1 := hge 1 _ _ rfl
  have rb1 := (hk 1 _ _ rfl trivial).1.2 (by simp)
  have ne0_1 := hne 0 1 _ _ _ _ rfl rfl (by omega)
  clear hk hge hne
  generalize th (0 + 0) = p0_0 at *
  dsimp only at rb0
  generalize th (0 + 1) = p0_1 at *
  dsimp only at rb1
  have r_p0_0 := rb0
  clear rb0
  have n_p0_0 := nb0
  clear nb0
  have d_p0_0_p0_1 := ne0_1
  clear ne0_1
  have r_p0_1 := rb1
  clear rb1
  have n_p0_1 := nb1
  clear nb1
  have sz1 := hU.size
  have hB : Below w.heap.size w U1 := hU
  clear hU
  replace hA := hid (hA.out.below hB)
  replace hB9 := hid (hB9.out.below hB)
  replace hB := hid hB
  have z0 := held_cell r_p0_0 0 _ rfl
  have z1 := held_cell r_p0_0 1 _ rfl
  have y0 := held_cell r_p0_1 0 _ rfl
  have y1 := held_cell r_p0_1 1 _ rfl
  replace r_p0_0 := hid r_p0_0
  replace r_p0_1 := hid r_p0_1
  go_wp2_with fail
  clear z0 z1 y0 y1
  go_loopw [5] (fun ix wr => ∃ k : Nat, k ≤ l.length ∧ ix = .int .i64 k ∧ After U1 wr) (fun ix _ => l.length - (intOf ix).toNat)
  case atStart => exact ⟨0, by omega, rfl, After.refl _⟩
  case round =>
    obtain ⟨k, hk, rfl, hT⟩ := hrel
    have r0 := held_after hT r_p0_0.out
    have r1 := held_after hT r_p0_1.out
    have z1 := held_cell r0 1 _ rfl
    have y1 := held_cell r1 1 _ rfl
    by_cases hlt : (k : Int) < l.length
    case neg =>
      go_wp2_with fail
      go_ret
      exact ⟨rfl, bthen hB.out hT⟩
    obtain ⟨x, hx⟩ : ∃ x, l[k]? = some x := ⟨_, List.getElem?_eq_getElem (show k < l.length by omega)⟩
    obtain ⟨x0, x1, x2, x3, x4, x5, x6, rfl⟩ := list7 (hl7 x (List.mem_of_getElem? hx))
    obtain ⟨ba, oa, rfl, a0, a1, a2, a3, a4, a5, a6⟩ := (hA.out.below hT).at7 (satsV_at hx)
    obtain ⟨bb, ob, rfl, b0, b1, b2, b3, b4, b5, b6⟩ := (hB9.out.below hT).at7 (satsV_at hx)
    have kz : (0 : Int) ≤ k := by omega
    have w1 : IntKind.i64.wrap ((k : Int) + 1) = (k : Int) + 1 := by rw [IntKind.wrap_i64]; omega
    have hk1 := hid (show k + 1 ≤ l.length by omega)
    clear hx hk
    replace hT := hid hT
    replace r0 := hid r0
    replace r1 := hid r1
    go_wp2_with fail
    go_quiet (fail)
    go_wp2_with fail
    go_roundw
    case rel => exact ⟨k + 1, hk1.out, by simp, below_drewN hT.out _⟩
    case measure => simp [intOf]; omega

end Go.Proofs.Ytahjcbdofljfpaa
