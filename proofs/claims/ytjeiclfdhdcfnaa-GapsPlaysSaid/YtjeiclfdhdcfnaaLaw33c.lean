/- The laws of layer 33: GapsPlays. -/
import Derived.Test.YtjeiclfdhdcfnaaGapC
import Derived.Test.YtjeiclfdhdcfnaaGapD
import Derived.Test.YtjeiclfdhdcfnaaGap4
import Derived.Laws.Tables
import Derived.Deep.DeepCutAuto
namespace Go.Proofs.Ytjeiclfdhdcfnaa
open Go.ChangeShapes Go.WideShapes Go.ChangeAt Go.RowKit
set_option linter.unusedVariables false
set_option linter.unusedSimpArgs false

theorem els_eff33 {w w2 : World} {g n c : Nat} {a : Option Addr} {L : List Ln} {xs : List (List Value)} (h : Els w 5 a n c xs) (hg : MapAt w g L) (hE : Eff g w w2) : Els w2 5 a n c xs :=
  ⟨h.1, h.2.1, h.2.2.1, h.2.2.2.1, fun i x hx => by
    obtain ⟨h1, b, off, e, hc⟩ := h.2.2.2.2 i x hx
    refine ⟨h1, b, off, e, fun j v hj => ?_⟩
    have h2 := hc j v hj
    have hne : b ≠ g := by
      rintro rfl
      unfold MapAt at hg
      simp [World.cell?, hg] at h2
    exact (World.cell?_of_block (w := w) (a := ⟨b, off + i * 5 + j, none⟩) (hE.block b (World.block_lt_of_cell? w _ h2) hne)).trans h2⟩
/-- A book and the document's list, side by side. -/
def GP (N B m : Nat) (K : Int) (W0 wr : World) (qv : Value) : Prop := ∃ (L T : List Ln) (a : Option Addr) (n c : Nat), qv = .slice a n c ∧ MapAt wr m L ∧ wr.heap[B]? = some (.cells #[.map (some m)] 47 (0, 0)) ∧ Dist L ∧ L.length ≤ 16 ∧ LnB K L ∧ T.Perm L ∧ Srt T ∧ Els wr 5 a n c (T.map enL) ∧ Below N W0 wr
theorem LnB.perm {K : Int} {T L : List Ln} (h : LnB K L) (hp : T.Perm L) : LnB K T := fun x hx => h x (hp.mem_iff.1 hx)
set_option maxRecDepth 100000 in
set_option maxHeartbeats 32000000 in
theorem law_GapsPlays (a0 : Option Addr) (len0 cap0 : Nat) (x0 : List (List Value)) (W : World) (w0 : Els W 3 a0 len0 cap0 x0) (t0 : ∀ x ∈ x0, (∃ (c0 : Int) (c1 : Int) (c2 : Int), x = [.int .i64 c0, .int .i64 c1, .int .i64 c2] ∧ ((Lit.int .i64 c0).wf = true) ∧ ((Lit.int .i64 c1).wf = true) ∧ ((Lit.int .i64 c2).wf = true))) :
    Calls Try.prog 3 #[.slice a0 len0 cap0] W fun e w' => e = .returned (.bool true) ∧ Below W.heap.size W w' := by
  have hEl := hid w0
  have hxl := hid w0.1
  replace t0 := hid t0
  clear w0
  have hBw := hid (Below.refl W.heap.size W)
  by_cases l0 : 100 < len0
  case pos =>
    have d0 : decide ((100 : Int) < (len0 : Int)) = true := by simp; omega
    clear l0
    go_enter Try.func3, Try.ntmps3
    go_wp2_with fail
    refine (knows33_any _).mono ?_
    rintro e V ⟨rfl, hA⟩
    replace hBw := hid (bthen hBw.out hA)
    clear hA
    go_wp2_with fail
    go_ret
    exact ⟨rfl, hBw.out⟩
  have d0 : decide ((100 : Int) < (len0 : Int)) = false := by simp; omega
  have hl := hid (show len0 ≤ 100 by omega)
  clear l0
  go_enter Try.func3, Try.ntmps3
  go_wp2_with fail
  refine (knows33_any _).mono ?_
  rintro e V0 ⟨rfl, hA⟩
  replace hBw := hid (bthen hBw.out hA)
  clear hA
  go_wp2_with fail
  refine (gnew_any _).mono ?_
  rintro r V ⟨B, m, rfl, hb, hm, hA, hwB, hwm⟩
  have hBm : B ≠ m := by
    intro e
    subst e
    rw [hm] at hb
    cases hb
  have hmW : W.heap.size ≤ m := by have := hBw.out.size; omega
  replace hBw := hid (bthen hBw.out hA)
  have hGP := hid (show GP W.heap.size B m 0 W V (.slice none 0 0) from ⟨[], [], none, 0, 0, rfl, hm, hb, List.Pairwise.nil, by show (0 : Nat) ≤ 16; omega, (fun x hx => by cases hx), .refl _, List.Pairwise.nil, Els.nil V 5, hBw.out⟩)
  clear hA hwB hwm hb hm hBw
  go_wp2_with fail
  go_loopw [4, 5] (fun qv ix wr => ∃ (k : Nat), ix = .int .i64 k ∧ k ≤ len0 ∧ GP W.heap.size B m k W wr qv) (fun _ ix _ => len0 - (intOf ix).toNat)
  case atStart => exact ⟨0, rfl, by omega, hGP.out⟩
  case round =>
    clear hGP
    obtain ⟨k, rfl, hk, L, T, qa, qn, qc, rfl, hm, hb, hd, h16, hL, hTp, hTs, hQ, hB⟩ := hrel
    by_cases hlt : (k : Int) < len0
    case neg =>
      obtain rfl : k = len0 := by omega
      have hL1 := hid (show LnB 1000 L from hL.mono (by have := hl.out; omega))
      have hTl := hid (show T.length = qn from by have := hQ.1; rw [List.length_map] at this; exact this)
      have hT1 := hid (hL1.out.perm hTp)
      have hqn : qn ≤ 16 := by have := hTp.length_eq; have := hTl.out; omega
      have kS := fun U hbU hmU => gsums_any B m L U hbU hmU hd h16 hL1.out
      replace kS := hid kS
      have huq := hid (fun (S : List Ln) (hS : S.Perm L) hSs => all_ref hTp hTs hd hS hSs)
      replace hb := hid hb
      replace hm := hid hm
      replace hQ := hid hQ
      replace hB := hid hB
      clear hd h16 hL hTp hTs
      go_wp2_with fail
      go_loopw [11, 12, 13] (fun hv lv ix wq => ∃ (j : Nat) (A D : Int), ix = .int .i64 j ∧ hv = .int .i64 A ∧ lv = .int .i64 D ∧ j ≤ qn ∧ A = tH (T.take j) ∧ D = tL (T.take j) ∧ After wr wq) (fun _ _ ix _ => qn - (intOf ix).toNat)
      case atStart => exact ⟨0, 0, 0, rfl, rfl, rfl, by omega, rfl, rfl, Below.refl _ _⟩
      case round =>
        obtain ⟨j, A, D, rfl, rfl, rfl, hj, eA, eD, hAr⟩ := hrel
        by_cases hlt : (j : Int) < qn
        case neg =>
          obtain rfl : j = qn := by omega
          rw [List.take_of_length_le (by have := hTl.out; omega)] at eA eD
          have kS2 := hid (kS.out _ (held_after hAr hb.out) (hm.out.aft hAr))
          have hBf := hid (bthen hB.out hAr)
          replace eA := hid eA
          replace eD := hid eD
          clear hAr kS
          go_wp2_with fail
          refine kS2.out.mono ?_
          rintro r V9 ⟨S, hSp, hSs, rfl, hA9⟩
          obtain rfl := huq.out S hSp hSs
          rw [← eA.out, ← eD.out]
          have qA : (A == A) = true := beq_self_eq_true A
          have qD : (D == D) = true := beq_self_eq_true D
          have hBz := hid (bthen hBf.out hA9)
          clear hA9 hSp hSs
          go_wp2_with fail
          go_ret
          exact ⟨rfl, hBz.out⟩
        obtain ⟨x, hx⟩ : ∃ x, T[j]? = some x := ⟨_, List.getElem?_eq_getElem (by have := hTl.out; omega)⟩
        have hxk : (T.map enL)[j]? = some (enL x) := by rw [List.getElem?_map, hx]; rfl
        obtain ⟨e1, e2⟩ := tH_next hx
        have hbd := tHL_bd (T.take j) (hT1.out.take j)
        have hxb := hT1.out x (List.mem_of_getElem? hx)
        have htl : (T.take j).length ≤ j := by rw [List.length_take]; omega
        rw [← eA] at e1 hbd
        rw [← eD] at e2 hbd
        obtain ⟨b, o, rfl, g0, g1, g2, g3, g4⟩ := els5_at2 (hQ.out.below hAr) hxk
        obtain ⟨xy, xc, xq, xh, xl⟩ := x
        dsimp only at e1 e2 hxb g0 g1 g2 g3 g4
        have wA : IntKind.i64.wrap (A + xh) = A + xh := by rw [IntKind.wrap_i64]; omega
        have wD : IntKind.i64.wrap (D + xl) = D + xl := by rw [IntKind.wrap_i64]; omega
        have kz : (0 : Int) ≤ j := by omega
        have wk : IntKind.i64.wrap ((j : Int) + 1) = (j : Int) + 1 := by rw [IntKind.wrap_i64]; omega
        have hk1 := hid (show j + 1 ≤ qn by omega)
        have hms := hid (show qn - (j + 1) < qn - j by omega)
        replace e1 := hid e1.symm
        replace e2 := hid e2.symm
        replace hAr := hid hAr
        clear hx hxk hj hbd hxb htl eA eD
        go_wp2_with fail
        go_roundw
        case rel => exact ⟨j + 1, A + xh, D + xl, by simp, rfl, rfl, hk1.out, e1.out, e2.out, hAr.out⟩
        case measure => simp [intOf]; have := hms.out; omega
    have kz : (0 : Int) ≤ k := by omega
    have wk : IntKind.i64.wrap ((k : Int) + 1) = (k : Int) + 1 := by rw [IntKind.wrap_i64]; have := hl.out; omega
    have hk1 := hid (show k + 1 ≤ len0 by omega)
    have hms := hid (show len0 - (k + 1) < len0 - k by omega)
    have hkl := hid (show k ≤ 100 by have := hl.out; omega)
    obtain ⟨x, hx⟩ : ∃ x, x0[k]? = some x := ⟨_, List.getElem?_eq_getElem (by have := hxl.out; omega)⟩
    obtain ⟨cq, cy, cc, rfl, -⟩ := t0.out x (List.mem_of_getElem? hx)
    skip
    have hcell := hid (fun (U : World) (h : After W U) => (hEl.out.below h).at3 hx)
    obtain ⟨b, o, rfl, g0, g1, g2⟩ := hcell.out wr hB
    have hbw : b < W.heap.size := by
      obtain ⟨b5, o5, e5, q0, -⟩ := hcell.out W (Below.refl _ _)
      cases e5
      exact World.block_lt_of_cell? W _ q0
    have hsim := hear_ref cq cy cc hTp hTs hd h16 (fun x hx => (hL x hx).1)
    obtain ⟨f1, f2, f3⟩ := hear_keep (q := cq) (y := cy) (c := cc) hd h16 hL (by omega)
    have hok := hL.ok (by have := hkl.out; omega)
    have hTok : LnOk T := fun x hx => hok x (hTp.mem_iff.1 hx)
    have hqn : qn ≤ 16 := by have h1 := hTp.length_eq; have h2 := hQ.1; rw [List.length_map] at h2; omega
    have kH0 := fun (U : World) hbU hmU => hear_any B m L cq cy cc U hbU hmU hok
    have kR0 := fun (U : World) hQU => rhear_any qa qn qc T cq cy cc U hQU hqn hTok hTs
    obtain ⟨L2, d, ok, hH⟩ : ∃ L2 d ok, hearS L cq cy cc = (L2, d, ok) := ⟨_, _, _, rfl⟩
    obtain ⟨T2, d2, ok2, hR⟩ : ∃ T2 d2 ok2, refH T cq cy cc = (T2, d2, ok2) := ⟨_, _, _, rfl⟩
    rw [hH, hR] at hsim
    rw [hH] at f1 f2 f3
    simp only [hH] at kH0
    simp only [hR] at kR0
    dsimp only at hsim f1 f2 f3
    obtain ⟨e9, hTp2, hTs2⟩ := hsim
    cases e9
    have qd : (d != d) = false := bne_self_eq_false d
    have qo : (ok != ok) = false := bne_self_eq_false ok
    replace kH0 := hid kH0
    replace kR0 := hid kR0
    replace hTp2 := hid hTp2
    replace hTs2 := hid hTs2
    replace f1 := hid f1
    replace f2 := hid f2
    replace f3 := hid f3
    clear hx hH hR hok hTok hd h16 hL hTp hTs hk hqn
    go_upto_region 8 with (fail)
    have bQ := hid (show wr.drew.heap[B]? = some (.cells #[.map (some m)] 47 (0, 0)) from hb)
    have mQ := hid (show MapAt wr.drew m L from hm)
    have qQ := hid (show Els wr.drew 5 qa qn qc (T.map enL) from hQ)
    have c0 := (show wr.drew.cell? _ = _ from g0)
    have c1 := (show wr.drew.cell? _ = _ from g1)
    have c2 := (show wr.drew.cell? _ = _ from g2)
    have hBQ := hid (show Below W.heap.size W wr.drew from hB.drew)
    obtain ⟨QQ, hQQ⟩ : ∃ X, wr.drew = X := ⟨_, rfl⟩
    rw [hQQ] at bQ mQ qQ c0 c1 c2 hBQ
    clear hb hm hB hQ g0 g1 g2
    refine wp_region_G (Below W.heap.size) 16 (by kernel_rfl) ?_
    rw [hQQ]
    refine wpAnyG_takeP (preB33 _) 0 rfl (by kernel_rfl) (by kernel_rfl) (by kernel_rfl) (fun _ _ _ _ h => h) ⟨_, Or.inl ⟨by rfl, fun w2 _ => by (go_simp; try with_reducible rfl)⟩, _, by (go_simp; try rfl), ?_⟩
    refine wpAnyG_takeP (preB33 _) 1 rfl (by kernel_rfl) (by kernel_rfl) (by kernel_rfl) (fun _ _ _ _ h => h) ⟨_, Or.inl ⟨by rfl, fun w2 _ => by (go_simp; try with_reducible rfl)⟩, _, by (go_simp; try rfl), ?_⟩
    refine wpAnyG_takeP (preB33 _) 2 rfl (by kernel_rfl) (by kernel_rfl) (by kernel_rfl) (fun _ _ _ _ h => h) ⟨_, Or.inl ⟨by rfl, fun w2 _ => by (go_simp; try with_reducible rfl)⟩, _, by (go_simp; try rfl), ?_⟩
    refine wpAnyG_takeP (preB33 _) 3 rfl (by kernel_rfl) (by kernel_rfl) (by kernel_rfl) (fun _ _ _ _ h => h) ⟨_, Or.inl ⟨by rfl, fun w2 _ => by (go_simp; try with_reducible rfl)⟩, _, by (go_simp; try rfl), ?_⟩
    refine wpAnyG_takeP (preB33 _) 4 rfl (by kernel_rfl) (by kernel_rfl) (by kernel_rfl) (fun _ _ _ _ h => h) ⟨_, Or.inl ⟨by rfl, fun w2 _ => by (go_simp; try with_reducible rfl)⟩, _, by (go_simp; try rfl), ?_⟩
    refine wpAnyG_take (preB33 _) 5 rfl (by kernel_rfl) (by kernel_rfl) (by kernel_rfl) (by kernel_rfl) (fun _ _ _ _ h => h) ⟨_, Or.inl ⟨by rfl, fun w2 hb2 => by (have h0 := cellN33 hb2 hbw c0; go_simp; try with_reducible rfl)⟩, _, by (go_simp; try rfl), ?_⟩
    refine wpAnyG_takeP (preB33 _) 6 rfl (by kernel_rfl) (by kernel_rfl) (by kernel_rfl) (fun _ _ _ _ h => h) ⟨_, Or.inl ⟨by rfl, fun w2 _ => by (go_simp; try with_reducible rfl)⟩, _, by (go_simp; try rfl), ?_⟩
    refine wpAnyG_takeP (preB33 _) 7 rfl (by kernel_rfl) (by kernel_rfl) (by kernel_rfl) (fun _ _ _ _ h => h) ⟨_, Or.inl ⟨by rfl, fun w2 _ => by (go_simp; try with_reducible rfl)⟩, _, by (go_simp; try rfl), ?_⟩
    refine wpAnyG_takeP (preB33 _) 8 rfl (by kernel_rfl) (by kernel_rfl) (by kernel_rfl) (fun _ _ _ _ h => h) ⟨_, Or.inl ⟨by rfl, fun w2 _ => by (go_simp; try with_reducible rfl)⟩, _, by (go_simp; try rfl), ?_⟩
    refine wpAnyG_takeP (preB33 _) 9 rfl (by kernel_rfl) (by kernel_rfl) (by kernel_rfl) (fun _ _ _ _ h => h) ⟨_, Or.inl ⟨by rfl, fun w2 _ => by (go_simp; try with_reducible rfl)⟩, _, by (go_simp; try rfl), ?_⟩
    refine wpAnyG_take (preB33 _) 10 rfl (by kernel_rfl) (by kernel_rfl) (by kernel_rfl) (by kernel_rfl) (fun _ _ _ _ h => h) ⟨_, Or.inl ⟨by rfl, fun w2 hb2 => by (have h1 := cellN33 hb2 hbw c1; go_simp; try with_reducible rfl)⟩, _, by (go_simp; try rfl), ?_⟩
    refine wpAnyG_takeP (preB33 _) 11 rfl (by kernel_rfl) (by kernel_rfl) (by kernel_rfl) (fun _ _ _ _ h => h) ⟨_, Or.inl ⟨by rfl, fun w2 _ => by (go_simp; try with_reducible rfl)⟩, _, by (go_simp; try rfl), ?_⟩
    refine wpAnyG_takeP (preB33 _) 12 rfl (by kernel_rfl) (by kernel_rfl) (by kernel_rfl) (fun _ _ _ _ h => h) ⟨_, Or.inl ⟨by rfl, fun w2 _ => by (go_simp; try with_reducible rfl)⟩, _, by (go_simp; try rfl), ?_⟩
    refine wpAnyG_takeP (preB33 _) 13 rfl (by kernel_rfl) (by kernel_rfl) (by kernel_rfl) (fun _ _ _ _ h => h) ⟨_, Or.inl ⟨by rfl, fun w2 _ => by (go_simp; try with_reducible rfl)⟩, _, by (go_simp; try rfl), ?_⟩
    refine wpAnyG_takeP (preB33 _) 14 rfl (by kernel_rfl) (by kernel_rfl) (by kernel_rfl) (fun _ _ _ _ h => h) ⟨_, Or.inl ⟨by rfl, fun w2 _ => by (go_simp; try with_reducible rfl)⟩, _, by (go_simp; try rfl), ?_⟩
    refine wpAnyG_take (preB33 _) 15 rfl (by kernel_rfl) (by kernel_rfl) (by kernel_rfl) (by kernel_rfl) (fun _ _ _ _ h => h) ⟨_, Or.inl ⟨by rfl, fun w2 hb2 => by (have h2 := cellN33 hb2 hbw c2; go_simp; try with_reducible rfl)⟩, _, by (go_simp; try rfl), ?_⟩
    refine wpAnyG_only 16 rfl (by kernel_rfl) (by rfl) (fun K hK => ?_)
    go_simp
    refine (kH0.out _ bQ.out mQ.out).mono ?_
    rintro r V6 ⟨rfl, hm6, hE⟩
    have hb6 := hid (eff_at33 hE bQ.out hBm)
    have hq6 := hid (els_eff33 qQ.out mQ.out hE)
    have hB6 := hid (eff_below33 hBQ.out hE hmW hBQ.out.size)
    replace hm6 := hid hm6
    clear hE
    go_simp
    refine hK _ _ ⟨fun h => (h rfl).elim, ?_⟩
    clear hK
    refine wpAnyG_takeP (preB33 _) 17 rfl (by kernel_rfl) (by kernel_rfl) (by kernel_rfl) (fun _ _ _ _ h => h) ⟨_, Or.inl ⟨by rfl, fun w2 _ => by (go_simp; try with_reducible rfl)⟩, _, by (go_simp; try rfl), ?_⟩
    refine wpAnyG_takeP (preB33 _) 18 rfl (by kernel_rfl) (by kernel_rfl) (by kernel_rfl) (fun _ _ _ _ h => h) ⟨_, Or.inl ⟨by rfl, fun w2 _ => by (go_simp; try with_reducible rfl)⟩, _, by (go_simp; try rfl), ?_⟩
    refine wpAnyG_takeP (preB33 _) 19 rfl (by kernel_rfl) (by kernel_rfl) (by kernel_rfl) (fun _ _ _ _ h => h) ⟨_, Or.inl ⟨by rfl, fun w2 _ => by (go_simp; try with_reducible rfl)⟩, _, by (go_simp; try rfl), ?_⟩
    refine wpAnyG_takeP (preB33 _) 20 rfl (by kernel_rfl) (by kernel_rfl) (by kernel_rfl) (fun _ _ _ _ h => h) ⟨_, Or.inl ⟨by rfl, fun w2 _ => by (go_simp; try with_reducible rfl)⟩, _, by (go_simp; try rfl), ?_⟩
    refine wpAnyG_takeP (preB33 _) 21 rfl (by kernel_rfl) (by kernel_rfl) (by kernel_rfl) (fun _ _ _ _ h => h) ⟨_, Or.inl ⟨by rfl, fun w2 _ => by (go_simp; try with_reducible rfl)⟩, _, by (go_simp; try rfl), ?_⟩
    refine wpAnyG_done (by kernel_rfl) ?_ _
    clear c0 c1 c2 kH0 bQ mQ qQ hBQ hQQ
    obtain ⟨b3, o3, e3, g0, g1, g2⟩ := hcell.out V6 hB6.out
    cases e3
    go_upto_region 9 with (fail)
    have bQ := hid (show V6.drew.heap[B]? = some (.cells #[.map (some m)] 47 (0, 0)) from hb6.out)
    have mQ := hid (show MapAt V6.drew m L2 from hm6.out)
    have qQ := hid (show Els V6.drew 5 qa qn qc (T.map enL) from hq6.out)
    have c0 := (show V6.drew.cell? _ = _ from g0)
    have c1 := (show V6.drew.cell? _ = _ from g1)
    have c2 := (show V6.drew.cell? _ = _ from g2)
    have hBQ := hid (show Below W.heap.size W V6.drew from hB6.out.drew)
    obtain ⟨Q2, hQ2⟩ : ∃ X, V6.drew = X := ⟨_, rfl⟩
    rw [hQ2] at bQ mQ qQ c0 c1 c2 hBQ
    clear hb6 hm6 hB6 hq6 g0 g1 g2
    refine wp_region_G (Below W.heap.size) 16 (by kernel_rfl) ?_
    rw [hQ2]
    refine wpAnyG_takeP (preB33 _) 0 rfl (by kernel_rfl) (by kernel_rfl) (by kernel_rfl) (fun _ _ _ _ h => h) ⟨_, Or.inl ⟨by rfl, fun w2 _ => by (go_simp; try with_reducible rfl)⟩, _, by (go_simp; try rfl), ?_⟩
    refine wpAnyG_takeP (preB33 _) 1 rfl (by kernel_rfl) (by kernel_rfl) (by kernel_rfl) (fun _ _ _ _ h => h) ⟨_, Or.inl ⟨by rfl, fun w2 _ => by (go_simp; try with_reducible rfl)⟩, _, by (go_simp; try rfl), ?_⟩
    refine wpAnyG_takeP (preB33 _) 2 rfl (by kernel_rfl) (by kernel_rfl) (by kernel_rfl) (fun _ _ _ _ h => h) ⟨_, Or.inl ⟨by rfl, fun w2 _ => by (go_simp; try with_reducible rfl)⟩, _, by (go_simp; try rfl), ?_⟩
    refine wpAnyG_takeP (preB33 _) 3 rfl (by kernel_rfl) (by kernel_rfl) (by kernel_rfl) (fun _ _ _ _ h => h) ⟨_, Or.inl ⟨by rfl, fun w2 _ => by (go_simp; try with_reducible rfl)⟩, _, by (go_simp; try rfl), ?_⟩
    refine wpAnyG_takeP (preB33 _) 4 rfl (by kernel_rfl) (by kernel_rfl) (by kernel_rfl) (fun _ _ _ _ h => h) ⟨_, Or.inl ⟨by rfl, fun w2 _ => by (go_simp; try with_reducible rfl)⟩, _, by (go_simp; try rfl), ?_⟩
    refine wpAnyG_take (preB33 _) 5 rfl (by kernel_rfl) (by kernel_rfl) (by kernel_rfl) (by kernel_rfl) (fun _ _ _ _ h => h) ⟨_, Or.inl ⟨by rfl, fun w2 hb2 => by (have h0 := cellN33 hb2 hbw c0; go_simp; try with_reducible rfl)⟩, _, by (go_simp; try rfl), ?_⟩
    refine wpAnyG_takeP (preB33 _) 6 rfl (by kernel_rfl) (by kernel_rfl) (by kernel_rfl) (fun _ _ _ _ h => h) ⟨_, Or.inl ⟨by rfl, fun w2 _ => by (go_simp; try with_reducible rfl)⟩, _, by (go_simp; try rfl), ?_⟩
    refine wpAnyG_takeP (preB33 _) 7 rfl (by kernel_rfl) (by kernel_rfl) (by kernel_rfl) (fun _ _ _ _ h => h) ⟨_, Or.inl ⟨by rfl, fun w2 _ => by (go_simp; try with_reducible rfl)⟩, _, by (go_simp; try rfl), ?_⟩
    refine wpAnyG_takeP (preB33 _) 8 rfl (by kernel_rfl) (by kernel_rfl) (by kernel_rfl) (fun _ _ _ _ h => h) ⟨_, Or.inl ⟨by rfl, fun w2 _ => by (go_simp; try with_reducible rfl)⟩, _, by (go_simp; try rfl), ?_⟩
    refine wpAnyG_takeP (preB33 _) 9 rfl (by kernel_rfl) (by kernel_rfl) (by kernel_rfl) (fun _ _ _ _ h => h) ⟨_, Or.inl ⟨by rfl, fun w2 _ => by (go_simp; try with_reducible rfl)⟩, _, by (go_simp; try rfl), ?_⟩
    refine wpAnyG_take (preB33 _) 10 rfl (by kernel_rfl) (by kernel_rfl) (by kernel_rfl) (by kernel_rfl) (fun _ _ _ _ h => h) ⟨_, Or.inl ⟨by rfl, fun w2 hb2 => by (have h1 := cellN33 hb2 hbw c1; go_simp; try with_reducible rfl)⟩, _, by (go_simp; try rfl), ?_⟩
    refine wpAnyG_takeP (preB33 _) 11 rfl (by kernel_rfl) (by kernel_rfl) (by kernel_rfl) (fun _ _ _ _ h => h) ⟨_, Or.inl ⟨by rfl, fun w2 _ => by (go_simp; try with_reducible rfl)⟩, _, by (go_simp; try rfl), ?_⟩
    refine wpAnyG_takeP (preB33 _) 12 rfl (by kernel_rfl) (by kernel_rfl) (by kernel_rfl) (fun _ _ _ _ h => h) ⟨_, Or.inl ⟨by rfl, fun w2 _ => by (go_simp; try with_reducible rfl)⟩, _, by (go_simp; try rfl), ?_⟩
    refine wpAnyG_takeP (preB33 _) 13 rfl (by kernel_rfl) (by kernel_rfl) (by kernel_rfl) (fun _ _ _ _ h => h) ⟨_, Or.inl ⟨by rfl, fun w2 _ => by (go_simp; try with_reducible rfl)⟩, _, by (go_simp; try rfl), ?_⟩
    refine wpAnyG_takeP (preB33 _) 14 rfl (by kernel_rfl) (by kernel_rfl) (by kernel_rfl) (fun _ _ _ _ h => h) ⟨_, Or.inl ⟨by rfl, fun w2 _ => by (go_simp; try with_reducible rfl)⟩, _, by (go_simp; try rfl), ?_⟩
    refine wpAnyG_take (preB33 _) 15 rfl (by kernel_rfl) (by kernel_rfl) (by kernel_rfl) (by kernel_rfl) (fun _ _ _ _ h => h) ⟨_, Or.inl ⟨by rfl, fun w2 hb2 => by (have h2 := cellN33 hb2 hbw c2; go_simp; try with_reducible rfl)⟩, _, by (go_simp; try rfl), ?_⟩
    refine wpAnyG_only 16 rfl (by kernel_rfl) (by rfl) (fun K hK => ?_)
    go_simp
    refine (kR0.out _ qQ.out).mono ?_
    rintro r V7 ⟨qa2, qn2, qc2, rfl, hq7, hA7⟩
    have hb7 := hid (held_after hA7 bQ.out)
    have hm7 := hid (mQ.out.aft hA7)
    have hB7 := hid (bthen hBQ.out hA7)
    replace hq7 := hid hq7
    clear hA7
    go_simp
    refine hK _ _ ⟨fun h => (h rfl).elim, ?_⟩
    clear hK
    refine wpAnyG_takeP (preB33 _) 17 rfl (by kernel_rfl) (by kernel_rfl) (by kernel_rfl) (fun _ _ _ _ h => h) ⟨_, Or.inl ⟨by rfl, fun w2 _ => by (go_simp; try with_reducible rfl)⟩, _, by (go_simp; try rfl), ?_⟩
    refine wpAnyG_takeP (preB33 _) 18 rfl (by kernel_rfl) (by kernel_rfl) (by kernel_rfl) (fun _ _ _ _ h => h) ⟨_, Or.inl ⟨by rfl, fun w2 _ => by (go_simp; try with_reducible rfl)⟩, _, by (go_simp; try rfl), ?_⟩
    refine wpAnyG_takeP (preB33 _) 19 rfl (by kernel_rfl) (by kernel_rfl) (by kernel_rfl) (fun _ _ _ _ h => h) ⟨_, Or.inl ⟨by rfl, fun w2 _ => by (go_simp; try with_reducible rfl)⟩, _, by (go_simp; try rfl), ?_⟩
    refine wpAnyG_takeP (preB33 _) 20 rfl (by kernel_rfl) (by kernel_rfl) (by kernel_rfl) (fun _ _ _ _ h => h) ⟨_, Or.inl ⟨by rfl, fun w2 _ => by (go_simp; try with_reducible rfl)⟩, _, by (go_simp; try rfl), ?_⟩
    refine wpAnyG_takeP (preB33 _) 21 rfl (by kernel_rfl) (by kernel_rfl) (by kernel_rfl) (fun _ _ _ _ h => h) ⟨_, Or.inl ⟨by rfl, fun w2 _ => by (go_simp; try with_reducible rfl)⟩, _, by (go_simp; try rfl), ?_⟩
    refine wpAnyG_takeP (preB33 _) 22 rfl (by kernel_rfl) (by kernel_rfl) (by kernel_rfl) (fun _ _ _ _ h => h) ⟨_, Or.inl ⟨by rfl, fun w2 _ => by (go_simp; try with_reducible rfl)⟩, _, by (go_simp; try rfl), ?_⟩
    refine wpAnyG_takeP (preB33 _) 23 rfl (by kernel_rfl) (by kernel_rfl) (by kernel_rfl) (fun _ _ _ _ h => h) ⟨_, Or.inl ⟨by rfl, fun w2 _ => by (go_simp; try with_reducible rfl)⟩, _, by (go_simp; try rfl), ?_⟩
    refine wpAnyG_done (by kernel_rfl) ?_ _
    clear c0 c1 c2 kR0 bQ mQ qQ hBQ hQ2
    have kA := hid (gall_any B m L2 V7 hb7.out hm7.out f1.out f2.out)
    obtain ⟨nn, hnn⟩ : ∃ nn, L2.length = nn := ⟨_, rfl⟩
    have hn2 : qn2 = nn := by have h1 := hTp2.out.length_eq; have h2 := hq7.out.1; rw [List.length_map] at h2; omega
    subst hn2
    rw [hnn] at kA
    have hnb := hid (show qn2 ≤ 16 by have := f2.out; omega)
    replace hnn := hid hnn
    go_wp2_with fail
    refine kA.out.mono ?_
    rintro r V8 ⟨sa, sc, S, rfl, hSp, hSs, hS, hA8⟩
    obtain rfl := all_ref hTp2.out hTs2.out f1.out hSp hSs
    have kL := hid (lines_any sa qn2 sc S V8 hS (by have := hnb.out; omega))
    have hq8 := hid (hq7.out.below (hA8 : After V7 V8))
    have hb8 := hid (held_after hA8 hb7.out)
    have hm8 := hid (hm7.out.aft hA8)
    have hB8 := hid (bthen hB7.out hA8)
    clear hSp hSs hS hA8 hq7 hb7 hm7 hB7 kA
    go_wp2_with fail
    refine kL.out.mono ?_
    rintro r V9 ⟨la, lc, rfl, hL9, hA9⟩
    have hq9 := hid (hq8.out.below hA9)
    have hb9 := hid (held_after hA9 hb8.out)
    have hm9 := hid (hm8.out.aft hA9)
    have hB9 := hid (bthen hB8.out hA9)
    have kS := hid (same33_any la qa2 lc qc2 qn2 S V9 (by have h2 := hq9.out.1; rw [List.length_map] at h2; exact h2) hL9 hq9.out (by have := hnb.out; omega))
    clear hL9 hA9 hq8 hb8 hm8 hB8 kL
    go_wp2_with fail
    refine kS.out.mono ?_
    rintro r V5 ⟨rfl, hA5⟩
    have hGP := hid (show GP W.heap.size B m ((k + 1 : Nat) : Int) W V5 (.slice qa2 qn2 qc2) from ⟨L2, S, qa2, qn2, qc2, rfl, hm9.out.aft hA5, held_after hA5 hb9.out, f1.out, f2.out, f3.out.mono (by omega), hTp2.out, hTs2.out, hq9.out.below hA5, bthen hB9.out hA5⟩)
    clear hA5 hq9 hb9 hm9 hB9 kS
    go_wp2_with fail
    go_roundw
    case rel => exact ⟨k + 1, by simp, hk1.out, hGP.out⟩
    case measure => simp [intOf]; have := hms.out; omega

end Go.Proofs.Ytjeiclfdhdcfnaa
