/- The laws of layer 29: GsvPuts, GsvNil. -/
import Derived.Test.YtobgibmpodggkaaDoorGsvK
import Derived.Test.YtobgibmpodggkaaDoorGsv3
import Derived.Test.YtobgibmpodggkaaDoorGR
import Derived.Laws.StructEq
import Derived.Laws.Tables
import Derived.Deep.DeepCutAuto
namespace Go.Proofs.YtobgibmpodggkaaDoor
open Go.ChangeShapes Go.WideShapes Go.ChangeAt Go.RowKit
set_option linter.unusedVariables false
set_option linter.unusedSimpArgs false

set_option maxRecDepth 100000 in
set_option maxHeartbeats 16000000 in
theorem law_GsvNil (a0_0 : Int) (a0_1 : Int) (a0_2 : Int) (a0_3 : Option Addr) (len0_3 cap0_3 : Nat) (x0_3 : List (List Value)) (W : World) (w0_0 : (Lit.int .i64 a0_0).wf = true) (w0_1 : (Lit.int .i64 a0_1).wf = true) (w0_2 : (Lit.int .i64 a0_2).wf = true) (w0_3 : Els W 8 a0_3 len0_3 cap0_3 x0_3) (t0_3 : ∀ x ∈ x0_3, (∃ (c0 : Bool) (c1 : Int) (c2 : Bool) (c3 : Int) (c4 : Bool) (c5 : Int) (c6 : Bool) (c7 : Int), x = [.bool c0, .int .i64 c1, .bool c2, .int .i64 c3, .bool c4, .int .i64 c5, .bool c6, .int .i64 c7] ∧ ((Lit.int .i64 c1).wf = true) ∧ ((Lit.int .i64 c3).wf = true) ∧ ((Lit.int .i64 c5).wf = true) ∧ ((Lit.int .i64 c7).wf = true))) (hT : Tab W) :
    Calls Tryd.prog 7 #[.agg #[.int .i64 a0_0, .int .i64 a0_1, .int .i64 a0_2, .slice a0_3 len0_3 cap0_3]] W fun e w' => e = .returned (.bool true) ∧ Below W.heap.size W w' := by
  clear w0_0 w0_1 w0_2 w0_3 t0_3
  replace hT := hid hT
  go_enter Tryd.func7, Tryd.ntmps7
  go_upto_region 0 with (fail)
  apply wp_region_seg0 (w := W) (S := [.al 1000, .q []]) (E := [.al ((fun p => .pointer (some ⟨p, 0, none⟩)), _) 1000, .q0 _]) rfl (by kernel_rfl) rfl rfl
  intro th hge hne
  refine Seg.step _ rfl ⟨by rfl, fun U hU => ?_⟩ ?_
  · go_simp; exact vp_alloc rfl rfl rfl
  refine Seg.sa ?_
  refine Seg.sq ?_
  refine Seg.stop (fun U1 hU hk => ?_)
  have nb0 := hge 0 _ _ rfl
  have rb0 := (hk 0 _ _ rfl trivial).1.2 (by simp)
  clear hk hge hne
  generalize th (0 + 0) = p0_0 at *
  dsimp only at rb0
  have r_p0_0 := rb0
  clear rb0
  have n_p0_0 := nb0
  clear nb0
  have sz1 := hU.size
  have hB : Below W.heap.size W U1 := hU
  clear hU
  have hm := r_p0_0
  have nm := n_p0_0
  clear r_p0_0 n_p0_0
  go_wp2_with fail
  go_loopw [3, 4] (fun s ix wr => ∃ i : Nat, ix = .int .i64 i ∧ i ≤ 2 ∧ ((s = .pointer none ∧ i = 0) ∨ (0 < i ∧ ∃ B, s = .pointer (some ⟨B, 0, none⟩) ∧ wr.heap[B]? = some (.cells #[.bool false, .int .i64 0, .int .i64 0, .slice none 0 0] 56 (0, 0)))) ∧ wr.heap[p0_0]? = some (.cells #[.int .i64 a0_0, .int .i64 a0_1, .int .i64 a0_2, .slice a0_3 len0_3 cap0_3] 24 (0, 0)) ∧ After W wr) (fun _ ix _ => 2 - (intOf ix).toNat)
  case atStart => exact ⟨0, rfl, by omega, .inl ⟨rfl, rfl⟩, hm, hB⟩
  case round =>
    clear hm hB sz1
    obtain ⟨i, rfl, hi, hk, hm, hB⟩ := hrel
    replace hB := hid hB
    by_cases hlt : (i : Int) < 2
    case neg =>
      clear hk hm hi
      replace hT := hid (hT.out.on hB.out)
      go_wp2_with fail
      refine (knows29_any _ hT.out).mono ?_
      rintro e V ⟨rfl, hA⟩
      replace hB := hid (bthen hB.out hA)
      clear hA
      go_wp2_with fail
      go_ret
      exact ⟨rfl, hB.out⟩
    have m0 := held_cell hm 0 _ rfl
    have m1 := held_cell hm 1 _ rfl
    have m2 := held_cell hm 2 _ rfl
    have m3 := held_cell hm 3 _ rfl
    have wi : IntKind.i64.wrap ((i : Int) + 1) = (i : Int) + 1 := by rw [IntKind.wrap_i64]; omega
    have hi1 := hid (show i + 1 ≤ 2 by omega)
    have hlt2 := hid (show i < 2 by omega)
    replace hm := hid hm
    clear hi
    rcases hk with ⟨rfl, hi0⟩ | ⟨hi0, B, rfl, hb⟩
    · replace hi0 := hid hi0
      go_wp2_with fail
      refine (baddnil29_any a0_0 a0_1 a0_2 a0_3 len0_3 cap0_3 _).mono ?_
      rintro r V1 ⟨rfl, hA⟩
      replace hB := hid (bthen hB.out hA)
      replace hm := hid (held_after hA hm.out)
      clear hA m0 m1 m2 m3
      go_wp2_with fail
      refine (bwaitnil29_any _).mono ?_
      rintro r V2 ⟨rfl, hv2⟩
      obtain rfl : V1 = V2 := hv2.symm
      clear hv2
      have nw := alloc_new V1 (.cells #[.bool false, .int .i64 0, .int .i64 0, .slice none 0 0] 56)
      obtain ⟨V3, hV3⟩ : ∃ X, V1.alloc (.cells #[.bool false, .int .i64 0, .int .i64 0, .slice none 0 0] 56) = X := ⟨_, rfl⟩
      rw [hV3] at nw
      replace hB := hid (bthen hB.out nw.2.1)
      replace hm := hid (held_after nw.2.1 hm.out)
      have hq := hid nw.2.2
      clear nw
      go_wp2_with fail
      go_roundw
      case rel => exact ⟨i + 1, by simp, hi1.out, .inr ⟨by omega, _, rfl, hq.out⟩, hm.out, hB.out⟩
      case measure => simp [intOf]; have := hlt2.out; omega
    · replace hi0 := hid hi0
      replace hb := hid hb
      go_wp2_with fail
      refine (baddun29_any B _ _ _ a0_0 a0_1 a0_2 a0_3 len0_3 cap0_3 _ hb.out).mono ?_
      rintro r V1 ⟨rfl, hA⟩
      replace hB := hid (bthen hB.out hA)
      replace hm := hid (held_after hA hm.out)
      replace hb := hid (held_after hA hb.out)
      clear hA m0 m1 m2 m3
      go_wp2_with fail
      refine (bwaitun29_any B _ _ _ _ hb.out).mono ?_
      rintro r V2 ⟨rfl, hv2⟩
      obtain rfl : V1 = V2 := hv2.symm
      clear hv2
      have nw := alloc_new V1 (.cells #[.bool false, .int .i64 0, .int .i64 0, .slice none 0 0] 56)
      obtain ⟨V3, hV3⟩ : ∃ X, V1.alloc (.cells #[.bool false, .int .i64 0, .int .i64 0, .slice none 0 0] 56) = X := ⟨_, rfl⟩
      rw [hV3] at nw
      replace hB := hid (bthen hB.out nw.2.1)
      replace hm := hid (held_after nw.2.1 hm.out)
      have hq := hid nw.2.2
      clear nw
      go_wp2_with fail
      go_roundw
      case rel => exact ⟨i + 1, by simp, hi1.out, .inr ⟨by omega, _, rfl, hq.out⟩, hm.out, hB.out⟩
      case measure => simp [intOf]; have := hlt2.out; omega
set_option maxRecDepth 100000 in
set_option maxHeartbeats 16000000 in
theorem law_GsvPuts (a0_0 : Int) (a0_1 : Int) (a0_2 : Int) (a0_3 : Option Addr) (len0_3 cap0_3 : Nat) (x0_3 : List (List Value)) (W : World) (w0_0 : (Lit.int .i64 a0_0).wf = true) (w0_1 : (Lit.int .i64 a0_1).wf = true) (w0_2 : (Lit.int .i64 a0_2).wf = true) (w0_3 : Els W 8 a0_3 len0_3 cap0_3 x0_3) (t0_3 : ∀ x ∈ x0_3, (∃ (c0 : Bool) (c1 : Int) (c2 : Bool) (c3 : Int) (c4 : Bool) (c5 : Int) (c6 : Bool) (c7 : Int), x = [.bool c0, .int .i64 c1, .bool c2, .int .i64 c3, .bool c4, .int .i64 c5, .bool c6, .int .i64 c7] ∧ ((Lit.int .i64 c1).wf = true) ∧ ((Lit.int .i64 c3).wf = true) ∧ ((Lit.int .i64 c5).wf = true) ∧ ((Lit.int .i64 c7).wf = true))) (hT : Tab W) :
    Calls Tryd.prog 3 #[.agg #[.int .i64 a0_0, .int .i64 a0_1, .int .i64 a0_2, .slice a0_3 len0_3 cap0_3]] W fun e w' => e = .returned (.bool true) ∧ Below W.heap.size W w' := by
  obtain ⟨vs, rfl, hv⟩ := views_of x0_3 t0_3
  have hlv : vs.length = len0_3 := by have := w0_3.1; rw [List.length_map] at this; exact this
  have b2 := bounds_i64 w0_2
  clear w0_0 w0_1 w0_2 t0_3
  by_cases hl : 20 < len0_3
  case pos =>
    have d1 : decide ((20 : Int) < (len0_3 : Int)) = true := by simp; omega
    replace hT := hid hT
    clear hl hv hlv b2 w0_3
    go_enter Tryd.func3, Tryd.ntmps3
    go_upto_region 0 with (fail)
    apply wp_region_seg0 (w := W) (S := [.al 1000, .q []]) (E := [.al ((fun p => .pointer (some ⟨p, 0, none⟩)), _) 1000, .q0 _]) rfl (by kernel_rfl) rfl rfl
    intro th hge hne
    refine Seg.step _ rfl ⟨by rfl, fun U hU => ?_⟩ ?_
    · go_simp; exact vp_alloc rfl rfl rfl
    refine Seg.sa ?_
    refine Seg.sq ?_
    refine Seg.stop (fun U1 hU hk => ?_)
    have nb0 := hge 0 _ _ rfl
    have rb0 := (hk 0 _ _ rfl trivial).1.2 (by simp)
    clear hk hge hne
    generalize th (0 + 0) = p0_0 at *
    dsimp only at rb0
    have r_p0_0 := rb0
    clear rb0
    have n_p0_0 := nb0
    clear nb0
    have sz1 := hU.size
    have hB : Below W.heap.size W U1 := hU
    clear hU
    have z3 := held_cell r_p0_0 3 _ rfl
    replace hT := hid (hT.out.on hB)
    go_wp2_with fail
    refine (knows29_any _ hT.out).mono ?_
    rintro r V ⟨rfl, hA⟩
    replace hB := bthen hB hA
    go_wp2_with fail
    go_ret
    exact ⟨rfl, hB⟩
  have d1 : decide ((20 : Int) < (len0_3 : Int)) = false := by simp; omega
  have k1 := hid (fun U (hA : After W U) (hTU : Tab U) => gvput_any a0_0 a0_1 a0_2 a0_3 len0_3 cap0_3 vs U b2 hv (w0_3.below hA) hTU)
  have k2 := hid (fun U (hA : After W U) => rgvput_any a0_0 a0_1 a0_2 a0_3 len0_3 cap0_3 vs U b2 hv (w0_3.below hA))
  obtain ⟨E, hE⟩ : ∃ E, gvE a0_0 a0_1 a0_2 vs = E := ⟨_, rfl⟩
  obtain ⟨L, hL⟩ : ∃ L, fL (gvI a0_0 a0_1 a0_2 vs) = L := ⟨_, rfl⟩
  rw [hE, hL] at k1 k2
  have hLl : L.length ≤ 100 := by rw [← hL]; unfold gvI; rw [fL9_app, List.length_append, vw_len, hlv]; have h3 : (fL (hdI a0_0 a0_1 a0_2)).length = 3 := rfl; omega
  obtain ⟨F, hF⟩ : ∃ F, (if E = 0 then L else []) = F := ⟨_, rfl⟩
  have hFl : F.length ≤ 100 := by rw [← hF]; split <;> first | omega | simp
  clear hE hL hLl hv hlv b2 w0_3 hl
  replace hT := hid hT
  replace hF := hid hF
  go_enter Tryd.func3, Tryd.ntmps3
  go_upto_region 0 with (fail)
  apply wp_region_seg0 (w := W) (S := [.al 1000, .q []]) (E := [.al ((fun p => .pointer (some ⟨p, 0, none⟩)), _) 1000, .q0 _]) rfl (by kernel_rfl) rfl rfl
  intro th hge hne
  refine Seg.step _ rfl ⟨by rfl, fun U hU => ?_⟩ ?_
  · go_simp; exact vp_alloc rfl rfl rfl
  refine Seg.sa ?_
  refine Seg.sq ?_
  refine Seg.stop (fun U1 hU hk => ?_)
  have nb0 := hge 0 _ _ rfl
  have rb0 := (hk 0 _ _ rfl trivial).1.2 (by simp)
  clear hk hge hne
  generalize th (0 + 0) = p0_0 at *
  dsimp only at rb0
  have r_p0_0 := rb0
  clear rb0
  have n_p0_0 := nb0
  clear nb0
  have sz1 := hU.size
  have hB : Below W.heap.size W U1 := hU
  clear hU
  replace hT := hid (hT.out.on hB)
  replace hB := hid hB
  have r1 := hid r_p0_0
  clear r_p0_0 n_p0_0
  have z3 := held_cell r1.out 3 _ rfl
  go_wp2_with fail
  refine (knows29_any _ hT.out).mono ?_
  rintro r V0 ⟨rfl, hA⟩
  replace hT := hid (hT.out.on hA)
  replace r1 := hid (held_after hA r1.out)
  replace hB := hid (bthen hB.out hA)
  clear hA z3
  have z0 := held_cell r1.out 0 _ rfl
  have z1 := held_cell r1.out 1 _ rfl
  have z2 := held_cell r1.out 2 _ rfl
  have z3 := held_cell r1.out 3 _ rfl
  go_wp2_with fail
  refine (k1.out _ hB.out hT.out).mono ?_
  rintro e V1 ⟨a1, c1, rfl, g1, -, hA⟩
  rw [hF.out] at g1 ⊢
  replace g1 := hid g1
  replace hB := hid (bthen hB.out hA)
  replace r1 := hid (held_after hA r1.out)
  clear hA z0 z1 z2 z3
  obtain ⟨m, hm⟩ : ∃ m, F.length = m := ⟨_, rfl⟩
  rw [hm] at hFl
  rw [hm]
  replace g1 := hid (show Els V1 1 a1 m c1 (strV23 F) from hm ▸ g1.out)
  have z0 := held_cell r1.out 0 _ rfl
  have z1 := held_cell r1.out 1 _ rfl
  have z2 := held_cell r1.out 2 _ rfl
  have z3 := held_cell r1.out 3 _ rfl
  go_wp2_with fail
  refine (k2.out _ hB.out).mono ?_
  rintro e V2 ⟨a2, c2, rfl, g2, -, hA⟩
  rw [hF.out] at g2 ⊢
  rw [hm]
  replace g2 := hid (show Els V2 1 a2 m c2 (strV23 F) from hm ▸ g2)
  replace g1 := hid (g1.out.below hA)
  replace hB := hid (bthen hB.out hA)
  clear hA r1 z0 z1 z2 z3
  have hFb := hid hFl
  have hm2 := hid hm
  clear hFl hm
  go_wp2_with fail
  refine (texts23_same a1 a2 c1 c2 m F _ hm2.out g1.out g2.out (by have := hFb.out; omega)).mono ?_
  rintro e V3 ⟨rfl, hA⟩
  replace hB := hid (bthen hB.out hA)
  clear hA
  go_wp2_with fail
  refine (num29_any E _).mono ?_
  rintro e V4 ⟨rfl, hA⟩
  replace hB := hid (bthen hB.out hA)
  clear hA
  go_wp2_with fail
  refine (num29_any E _).mono ?_
  rintro e V5 ⟨rfl, hA⟩
  replace hB := hid (bthen hB.out hA)
  clear hA
  go_wp2_with fail
  go_ret
  exact ⟨ret_bool (by simp), hB.out⟩

end Go.Proofs.YtobgibmpodggkaaDoor
