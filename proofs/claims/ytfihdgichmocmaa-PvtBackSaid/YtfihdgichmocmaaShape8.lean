/- The papers' Put. -/
import Derived.Test.YtfihdgichmocmaaShape7
import Derived.Deep.DeepCutAuto
namespace Go.Proofs.Ytfihdgichmocmaa
open Go.ChangeShapes Go.WideShapes Go.ChangeAt Go.RowKit
set_option linter.unusedVariables false
set_option linter.unusedSimpArgs false

set_option maxRecDepth 100000 in
set_option maxHeartbeats 4000000 in
theorem rsput_any (a : Option Addr) (len cap : Nat) (f0 : Nat → Int) (f1 : Nat → Bool) (f2 f3 : Nat → Int) (va : Option Addr) (vl vc : Nat) (zs : List Int) (w : World) (hF : Flds w a len cap f0 f1 f2 f3) (hS : Sl .i64 w va vl vc zs) (hz : ∀ x ∈ zs, -9223372036854775808 ≤ x ∧ x ≤ 9223372036854775807) (h200 : len ≤ 1000) : Calls Try.prog 23 #[.slice a len cap, .slice va vl vc] w (BsOk w (putF f0 f1 f2 f3 len zs)) := by
  have kr := fun v : World => fun h : Flds v a len cap f0 f1 f2 f3 => rrightl_any a len cap f0 f1 f2 f3 v h
  have ezl := hS.1
  have cm := hS.2.2.1
  unfold maxLen at cm
  cases hal : allR f0 f1 f2 f3 len
  · have hV : putF f0 f1 f2 f3 len zs = ([], 1) := by unfold putF; rw [if_neg (fun h => by rw [hal] at h; exact absurd h.1 (by simp))]
    rw [hV]
    rw [hal] at kr
    clear hV
    replace kr := hid kr
    replace hF := hid hF
    replace hS := hid hS
    clear hal hz ezl
    go_enter Try.func23, Try.ntmps23
    go_wp2_with fail
    refine (kr.out _ hF.out).mono ?_
    rintro e V ⟨rfl, hst⟩
    replace hst := hid hst
    go_wp2_with fail
    go_ret2
    exact BsOk.no hst.out
  by_cases hvl : vl = len
  case neg =>
    have hV : putF f0 f1 f2 f3 len zs = ([], 1) := by unfold putF; rw [if_neg (fun h => hvl (by rw [← ezl]; exact h.2))]
    rw [hV]
    rw [hal] at kr
    clear hV
    replace kr := hid kr
    replace hF := hid hF
    have nv : ¬ (vl : Int) = len := by omega
    replace hS := hid hS
    clear hal hz ezl
    go_enter Try.func23, Try.ntmps23
    go_wp2_with fail
    refine (kr.out _ hF.out).mono ?_
    rintro e V ⟨rfl, hst⟩
    replace hst := hid hst
    go_wp2_with fail
    go_ret2
    exact BsOk.no hst.out
  subst hvl
  have hG : putF f0 f1 f2 f3 vl zs = (if inV f2 f3 (fun k => zs.getD k 0) vl = true then (putB f0 (fun k => zs.getD k 0) vl, 0) else ([], 5)) := by unfold putF; rw [if_pos ⟨hal, ezl⟩]
  obtain ⟨r, hr⟩ : ∃ r, putF f0 f1 f2 f3 vl zs = r := ⟨_, rfl⟩
  rw [hr] at hG
  rw [hr]
  replace hG := hid hG
  clear hr
  have hgb : ∀ k, -9223372036854775808 ≤ zs.getD k 0 ∧ zs.getD k 0 ≤ 9223372036854775807 := by
    intro k
    rcases Nat.lt_or_ge k zs.length with c | c
    · have e : zs.getD k 0 = zs[k] := by simp [c]
      rw [e]; exact hz _ (List.getElem_mem c)
    · have e : zs.getD k 0 = 0 := by simp [c]
      rw [e]; omega
  obtain ⟨g, hg⟩ : ∃ g : Nat → Int, (fun k => zs.getD k 0) = g := ⟨_, rfl⟩
  have hg2 : ∀ k, zs.getD k 0 = g k := fun k => congrFun hg k
  rw [hg] at hG
  replace hg := hid hg
  replace hg2 := hid hg2
  replace hgb := hid (fun k : Nat => (show -9223372036854775808 ≤ g k ∧ g k ≤ 9223372036854775807 from hg2.out k ▸ hgb k))
  rw [hal] at kr
  replace hal := hid hal
  replace kr := hid kr
  replace hF := hid hF
  replace hS := hid hS
  clear hz hg
  go_enter Try.func23, Try.ntmps23
  go_wp2_with fail
  refine (kr.out _ hF.out).mono ?_
  rintro e V ⟨rfl, hst⟩
  have hsz := hst.size
  replace hst := hid hst
  replace ezl := hid ezl
  go_wp2_with fail
  go_loopw [6, 7] (fun out i wr => ∃ (k : Nat) (oa : Option Addr) (oc : Nat), k ≤ vl ∧ i = .int .i64 k ∧ out = .slice oa (putB f0 g k).length oc ∧ Go.RowKit.Hid (inV f2 f3 g k = true) ∧ Own .u8 5 wr w.heap.size (.slice oa (putB f0 g k).length oc) (putB f0 g k) ∧ Below w.heap.size w wr) (fun _ i _ => vl - (intOf i).toNat)
  case atStart => exact ⟨0, none, 0, by omega, rfl, rfl, hid rfl, Own.nil _ _ _ _, hst.out⟩
  case round =>
    clear hst
    obtain ⟨k, oa, oc, hk, rfl, rfl, hd, hO, hB⟩ := hrel
    have hpl := putB_le (g := g) hal.out h200 k hk
    have hws := hB.size
    have hpE : Go.RowKit.Hid (putB f0 g k = putB f0 g k) := hid rfl
    by_cases hlt : (k : Int) < vl
    case neg =>
      obtain rfl : k = vl := by omega
      replace hG := hid (hG.out.trans (if_pos hd.out))
      generalize putB f0 g k = L at *
      replace hB := hid hB
      replace hO := hid hO
      go_wp2_with fail
      go_ret2
      rw [hG.out]
      exact ⟨oa, oc, rfl, hO.out, hB.out⟩
    have hlt2 : k < vl := by omega
    obtain ⟨b, off, rfl, l0, l1, l2, l3⟩ := (hF.out.below hB).2.2.2 k hlt2
    obtain ⟨bv, ov, rfl, lv⟩ := ((hS.out).below hB).2.2.2.2 k (by rw [ezl.out]; exact hlt2)
    rw [hg2.out k] at lv
    have blt : b < w.heap.size := by obtain ⟨b2, o2, e2, l2, -⟩ := hF.out.2.2.2 k hlt2; cases e2; exact World.block_lt_of_cell? w _ l2
    have bvlt : bv < w.heap.size := by obtain ⟨b2, o2, e2, l2⟩ := hS.out.2.2.2.2 k (by rw [ezl.out]; exact hlt2); cases e2; exact World.block_lt_of_cell? w _ l2
    have kz : (0 : Int) ≤ k := by omega
    have hri := right_sz (allR_at hal.out hlt2)
    have n1 := hri.1
    have n8 := hri.2.1
    clear hri
    have hy := fun (h1 : f2 k ≤ g k) (h2 : g k ≤ f3 k) => inV_yes hd.out h1 h2
    have hn := fun (h : ¬ (f2 k ≤ g k ∧ g k ≤ f3 k)) => inV_no h vl hlt2
    have hp : putB f0 g (k + 1) = putB f0 g k ++ bytesL (wrapU (g k)) (f0 k).toNat := rfl
    generalize hx0 : f0 k = x0 at *
    generalize hx1 : f1 k = x1 at *
    generalize hx2 : f2 k = x2 at *
    generalize hx3 : f3 k = x3 at *
    generalize hgg : g k = y at *
    generalize hLL : putB f0 g k = L at *
    replace hy := hid hy
    replace hn := hid hn
    clear hx0 hx1 hx2 hx3 hgg hLL hpE
    replace hO := hid hO
    replace hd := hid hd.out
    by_cases c1 : y < x2
    case pos =>
      replace hG := hid (hG.out.trans (if_neg (by rw [hn.out (by omega)]; simp)))
      replace hB := hid hB
      go_wp2_with fail
      go_quiet (fail)
      go_wp2_with fail
      go_ret2
      rw [hG.out]
      exact BsOk.no (below_drewN hB.out _)
    by_cases c2 : x3 < y
    case pos =>
      replace hG := hid (hG.out.trans (if_neg (by rw [hn.out (by omega)]; simp)))
      replace hB := hid hB
      go_wp2_with fail
      go_quiet (fail)
      go_wp2_with fail
      go_ret2
      rw [hG.out]
      exact BsOk.no (below_drewN hB.out _)
    replace hd := hid (hy.out (by omega) (by omega))
    clear hn hy
    obtain ⟨n, rfl⟩ := Int.eq_ofNat_of_zero_le (show 0 ≤ x0 by omega)
    have n8b : n ≤ 8 := by omega
    rw [Int.toNat_natCast] at hp
    obtain ⟨u, hu⟩ := Int.eq_ofNat_of_zero_le (wrapU_b y).1
    have hub := (wrapU_b y).2
    rw [hu] at hub hp
    have ew : IntKind.u64.wrap y = (u : Int) := by rw [wrapU_is, hu]
    have hu1 : u ≤ 18446744073709551615 := by omega
    clear hub hu
    replace hp := hid hp
    go_wp2_with fail
    go_quiet (fail)
    go_upto_region 9 with (fail)
    have hBq := below_drewN hB nq
    replace l0 : (wr.drewN nq).cell? _ = _ := l0
    replace lv : (wr.drewN nq).cell? _ = _ := lv
    have hOq := hid (hO.out.drewN nq)
    clear hB hO
    generalize wr.drewN nq = wq at *
    have hB := hBq
    clear hBq
    have ne0 : some b ≠ (Value.slice oa L.length oc).ownBlock := fun e => by have := Own.block hOq.out b e.symm; omega
    have nev : some bv ≠ (Value.slice oa L.length oc).ownBlock := fun e => by have := Own.block hOq.out bv e.symm; omega
    have hOd := hid (hOq.out.drewN 1)
    replace hB := hid (hB.drew)
    clear hOq
    refine wp_region_T ((Value.slice oa L.length oc).ownBlock) 13 (by kernel_rfl) ?_
    refine wpAnyT_take 0 rfl (by kernel_rfl) (by kernel_rfl) (by kernel_rfl) (by kernel_rfl) (fun _ _ _ _ h => h) ⟨_, Or.inl ⟨by rfl, fun w2 hb2 => by (go_simp; try with_reducible rfl)⟩, _, by (go_simp; try rfl), ?_⟩
    refine wpAnyT_take 1 rfl (by kernel_rfl) (by kernel_rfl) (by kernel_rfl) (by kernel_rfl) (fun _ _ _ _ h => h) ⟨_, Or.inl ⟨by rfl, fun w2 hb2 => by (go_simp; try with_reducible rfl)⟩, _, by (go_simp; try rfl), ?_⟩
    refine wpAnyT_take 2 rfl (by kernel_rfl) (by kernel_rfl) (by kernel_rfl) (by kernel_rfl) (fun _ _ _ _ h => h) ⟨_, Or.inl ⟨by rfl, fun w2 hb2 => by (go_simp; try with_reducible rfl)⟩, _, by (go_simp; try rfl), ?_⟩
    refine wpAnyT_take 3 rfl (by kernel_rfl) (by kernel_rfl) (by kernel_rfl) (by kernel_rfl) (fun _ _ _ _ h => h) ⟨_, Or.inl ⟨by rfl, fun w2 hb2 => by (go_simp; try with_reducible rfl)⟩, _, by (go_simp; try rfl), ?_⟩
    refine wpAnyT_take 4 rfl (by kernel_rfl) (by kernel_rfl) (by kernel_rfl) (by kernel_rfl) (fun _ _ _ _ h => h) ⟨_, Or.inl ⟨by rfl, fun w2 hb2 => by (go_simp; try with_reducible rfl)⟩, _, by (go_simp; try rfl), ?_⟩
    refine wpAnyT_take 5 rfl (by kernel_rfl) (by kernel_rfl) (by kernel_rfl) (by kernel_rfl) (fun _ _ _ _ h => h) ⟨_, Or.inl ⟨by rfl, fun w2 hb2 => by (have hx := hb2.cell (show wq.drew.cell? _ = _ from l0) ne0; go_simp; try with_reducible rfl)⟩, _, by (go_simp; try rfl), ?_⟩
    refine wpAnyT_take 6 rfl (by kernel_rfl) (by kernel_rfl) (by kernel_rfl) (by kernel_rfl) (fun _ _ _ _ h => h) ⟨_, Or.inl ⟨by rfl, fun w2 hb2 => by (go_simp; try with_reducible rfl)⟩, _, by (go_simp; try rfl), ?_⟩
    refine wpAnyT_take 7 rfl (by kernel_rfl) (by kernel_rfl) (by kernel_rfl) (by kernel_rfl) (fun _ _ _ _ h => h) ⟨_, Or.inl ⟨by rfl, fun w2 hb2 => by (go_simp; try with_reducible rfl)⟩, _, by (go_simp; try rfl), ?_⟩
    refine wpAnyT_take 8 rfl (by kernel_rfl) (by kernel_rfl) (by kernel_rfl) (by kernel_rfl) (fun _ _ _ _ h => h) ⟨_, Or.inl ⟨by rfl, fun w2 hb2 => by (go_simp; try with_reducible rfl)⟩, _, by (go_simp; try rfl), ?_⟩
    refine wpAnyT_take 9 rfl (by kernel_rfl) (by kernel_rfl) (by kernel_rfl) (by kernel_rfl) (fun _ _ _ _ h => h) ⟨_, Or.inl ⟨by rfl, fun w2 hb2 => by (have hx := hb2.cell (show wq.drew.cell? _ = _ from lv) nev; go_simp; try with_reducible rfl)⟩, _, by (go_simp; try rfl), ?_⟩
    refine wpAnyT_take 10 rfl (by kernel_rfl) (by kernel_rfl) (by kernel_rfl) (by kernel_rfl) (fun _ _ _ _ h => h) ⟨_, Or.inl ⟨by rfl, fun w2 hb2 => by (go_simp; try with_reducible rfl)⟩, _, by (go_simp; try rfl), ?_⟩
    refine wpAnyT_only 11 rfl (by kernel_rfl) (by rfl) (fun K hK => ?_)
    go_simp
    refine (rbytes_any n n8b u hu1 _).mono ?_
    rintro e V2 ⟨ra, rc, rfl, hO2, hA2⟩
    have hO3 := hid (hOd.out.below hA2)
    have hB3 := bthen hB.out hA2
    have hws3 := hB3.size
    replace hB3 := hid hB3
    have hS2 := hid hO2.slf
    have hbl : (bytesL (u : Int) n).length ≤ 8 := by rw [bytesL_len]; exact n8b
    replace hO2 := hid hO2
    go_simp
    refine hK _ _ ⟨fun _ => rx_after hA2, ?_⟩
    clear hK
    clear hA2 hOd hB l0 l1 l2 l3 lv
    refine wpAnyT_only 12 rfl (by kernel_rfl) (by rfl) (fun K hK => ?_)
    refine wp_appK (.tmp 46) (.tmp 57) 24 rfl w.heap.size 5 .u8 1 bytesOf _ L rfl hO3.out ra _ rc (bytesL u n) rfl hS2.out (by simp; omega) (by decide) hws3 ?_
    intro a9 c9 W9 hO9 hG9 hq9
    have hB9 := hid (Own.grew hO3.out hG9 hB3.out (Nat.le_refl _) hws3)
    rw [← List.length_append, ← hp.out] at hO9
    have el : L.length + (bytesL (u : Int) n).length = (putB f0 g (k + 1)).length := by rw [hp.out, List.length_append]
    rw [el]
    clear el hq9 hO3 hB3 hS2
    replace hO9 := hid hO9
    obtain ⟨L9, hL9⟩ : ∃ L9, putB f0 g (k + 1) = L9 := ⟨_, rfl⟩
    rw [hL9]
    rw [hL9] at hO9
    replace hL9 := hid hL9
    refine hK _ _ ⟨fun _ => RX.of_grown hG9, ?_⟩
    clear hK
    clear hG9
    refine wpAnyT_only 13 rfl (by kernel_rfl) (by rfl) (fun K hK => ?_)
    go_simp
    refine hK _ _ ⟨fun h => (h rfl).elim, ?_⟩
    clear hK
    refine wpAnyT_done (by kernel_rfl) ?_ _
    go_wp2_with fail
    go_roundw
    case rel => exact ⟨k + 1, a9, c9, by omega, by simp, by rw [hL9.out], hd, by rw [hL9.out]; exact hO9.out, hB9.out⟩
    case measure => simp [intOf]; omega

end Go.Proofs.Ytfihdgichmocmaa
