/- The laws of layer 29: GsvBack. -/
import Derived.Test.YtobgibmpodggkaaDoorGV3
import Derived.Test.YtobgibmpodggkaaDoorGsvB
import Derived.Test.YtobgibmpodggkaaDoorGsv9
import Derived.Test.YtobgibmpodggkaaDoorGR
import Derived.Laws.StructEq
import Derived.Laws.Tables
import Derived.Deep.DeepCutAuto
namespace Go.Proofs.YtobgibmpodggkaaDoor
open Go.ChangeShapes Go.WideShapes Go.ChangeAt Go.RowKit
set_option linter.unusedVariables false
set_option linter.unusedSimpArgs false

theorem list29 {F : List ByteArray} {k : Nat} (h : F.length = 3 + 4 * k) : ∃ s0 s1 s2 R, R.length = 4 * k ∧ F = s0 :: s1 :: s2 :: R := by
  match F, h with
  | [], h => exact absurd (show 0 = 3 + 4 * k from h) (by omega)
  | [_], h => exact absurd (show 1 = 3 + 4 * k from h) (by omega)
  | [_, _], h => exact absurd (show 2 = 3 + 4 * k from h) (by omega)
  | s0 :: s1 :: s2 :: R, h => exact ⟨s0, s1, s2, R, by simp at h; omega, rfl⟩
set_option maxRecDepth 100000 in
set_option maxHeartbeats 4000000 in
theorem gback1t (tt no sn : Int) (vs : List V4) (h0 : gvE tt no sn vs = 0) : (fL (gvI tt no sn vs)).length = 3 + 4 * vs.length ∧ vs.length ≤ 4 ∧ ∀ (U : World) (a : Option Addr) (cap : Nat), Els U 1 a (3 + 4 * vs.length) cap (strV23 (fL (gvI tt no sn vs))) → Calls Tryd.prog 14 #[.slice a (3 + 4 * vs.length) cap] U fun r w' => After U w' ∧ ∃ (a1 : Option Addr) (n1 c1 : Nat), r = .returned (.tuple #[.agg #[.int .i64 tt, .int .i64 no, .int .i64 sn, .slice a1 n1 c1], .int .i64 0]) ∧ Els w' 8 a1 n1 c1 (vs.map enV) := by
  obtain ⟨hz, s0, s1, s2, R, hL, hR, hs, hg⟩ := gback1 tt no sn vs h0
  rw [hL]
  refine ⟨by simp; omega, hz, fun U a cap hE => ?_⟩
  refine (gvtake_any s0 s1 s2 R vs.length hz hR U a _ cap rfl hE hs).mono ?_
  rw [hg]
  rintro r w' ⟨hA, ⟨h0, -⟩ | ⟨-, a1, n1, c1, hr, hsl⟩⟩
  · exact absurd rfl h0
  · exact ⟨hA, a1, n1, c1, hr, hsl⟩
def NoB29 (F : List ByteArray) (len1 : Nat) : Prop := ∃ X : Int, X ≠ 0 ∧ ∀ (U : World) (a : Option Addr) (cap : Nat), Els U 1 a len1 cap (strV23 F) → Calls Tryd.prog 14 #[.slice a len1 cap] U fun r w' => r = .returned (.tuple #[.agg #[.int .i64 0, .int .i64 0, .int .i64 0, .slice none 0 0], .int .i64 X]) ∧ After U w'
def YesB29 (F : List ByteArray) (len1 : Nat) : Prop := ∃ (tt no sn : Int) (vs : List V4) (M : List ByteArray), vs.length ≤ 4 ∧ (∀ (U : World) (a : Option Addr) (cap : Nat), Els U 1 a len1 cap (strV23 F) → Calls Tryd.prog 14 #[.slice a len1 cap] U fun r w' => After U w' ∧ ∃ (a1 : Option Addr) (n1 c1 : Nat), r = .returned (.tuple #[.agg #[.int .i64 tt, .int .i64 no, .int .i64 sn, .slice a1 n1 c1], .int .i64 0]) ∧ Els w' 8 a1 n1 c1 (vs.map enV)) ∧ len1 ≤ 19 ∧ M.length = len1 ∧ (∀ (U : World) (a1 : Option Addr) (n1 c1 : Nat), Els U 8 a1 n1 c1 (vs.map enV) → Tab U → Calls Tryd.prog 9 #[.agg #[.int .i64 tt, .int .i64 no, .int .i64 sn, .slice a1 n1 c1]] U fun r w' => DnOk U 0 M r w') ∧ (∀ (U : World) (a : Option Addr) (cap : Nat), Els U 1 a len1 cap (strV23 M) → Calls Tryd.prog 14 #[.slice a len1 cap] U fun r w' => After U w' ∧ ∃ (a1 : Option Addr) (n1 c1 : Nat), r = .returned (.tuple #[.agg #[.int .i64 tt, .int .i64 no, .int .i64 sn, .slice a1 n1 c1], .int .i64 0]) ∧ Els w' 8 a1 n1 c1 (vs.map enV)) ∧ LeL M F
set_option maxRecDepth 100000 in
set_option maxHeartbeats 4000000 in
theorem two29b (F : List ByteArray) (len1 : Nat) (hlen : F.length = len1) (h40 : len1 ≤ 40) (h100 : ∀ f ∈ F, f.size ≤ 100) : NoB29 F len1 ∨ YesB29 F len1 := by
  by_cases hl : ∃ k, k ≤ 4 ∧ len1 = 3 + 4 * k
  case neg => exact .inl ⟨3, by decide, fun U a cap _ => gvtake_no a len1 cap U (by omega) (fun k h1 h2 => hl ⟨k, h1, h2⟩)⟩
  obtain ⟨k, hk, rfl⟩ := hl
  obtain ⟨s0, s1, s2, R, hR, rfl⟩ := list29 hlen
  have h1000 : ∀ s ∈ s0 :: s1 :: s2 :: R, s.size ≤ 1000 := fun s hs => Nat.le_trans (h100 s hs) (by decide)
  have kt := fun U a cap hU => gvtake_any s0 s1 s2 R k hk hR U a _ cap rfl hU h1000
  obtain ⟨g, hg⟩ : ∃ g, gvR s0 s1 s2 R k = g := ⟨_, rfl⟩
  rw [hg] at kt
  by_cases hE0 : g.e = 0
  · obtain ⟨q1, q2, q3, q4, q5⟩ := gback2 s0 s1 s2 R k hk hR g hg hE0
    obtain ⟨l1, l2, l3⟩ := gback1t g.tt g.no g.sn g.vs q1
    rw [q4] at l1 l3
    refine .inr ⟨g.tt, g.no, g.sn, g.vs, fL (gvI g.tt g.no g.sn g.vs), l2, fun U a cap hU => ?_, by omega, l1, fun U a n c hS hTU => ?_, l3, q5⟩
    · refine (kt U a cap hU).mono ?_
      rintro r w' ⟨hA, ⟨h0, -⟩ | ⟨-, a1, n1, c1, hr, hsl⟩⟩
      · exact absurd hE0 h0
      · exact ⟨hA, a1, n1, c1, hr, hsl⟩
    · have k := gvput_any g.tt g.no g.sn a n c g.vs U q2 q3 hS hTU
      rw [q1] at k
      exact k
  · refine .inl ⟨g.e, hE0, fun U a cap hU => ?_⟩
    refine (kt U a cap hU).mono ?_
    rintro r w' ⟨hA, ⟨-, hr⟩ | ⟨h0, -⟩⟩
    · exact ⟨hr, hA⟩
    · exact absurd h0 hE0
set_option maxRecDepth 100000 in
set_option maxHeartbeats 32000000 in
theorem law_GsvBack (a0_0 : Int) (a0_1 : Int) (a0_2 : Int) (a0_3 : Option Addr) (len0_3 cap0_3 : Nat) (x0_3 : List (List Value)) (a1 : Option Addr) (len1 cap1 : Nat) (x1 : List (List Value)) (W : World) (w0_0 : (Lit.int .i64 a0_0).wf = true) (w0_1 : (Lit.int .i64 a0_1).wf = true) (w0_2 : (Lit.int .i64 a0_2).wf = true) (w0_3 : Els W 8 a0_3 len0_3 cap0_3 x0_3) (t0_3 : ∀ x ∈ x0_3, (∃ (c0 : Bool) (c1 : Int) (c2 : Bool) (c3 : Int) (c4 : Bool) (c5 : Int) (c6 : Bool) (c7 : Int), x = [.bool c0, .int .i64 c1, .bool c2, .int .i64 c3, .bool c4, .int .i64 c5, .bool c6, .int .i64 c7] ∧ ((Lit.int .i64 c1).wf = true) ∧ ((Lit.int .i64 c3).wf = true) ∧ ((Lit.int .i64 c5).wf = true) ∧ ((Lit.int .i64 c7).wf = true))) (w1 : Els W 1 a1 len1 cap1 x1) (t1 : ∀ x ∈ x1, (∃ (c0 : ByteArray), x = [.string c0] ∧ (c0.size ≤ maxLen))) (hT : Tab W) :
    Calls Tryd.prog 4 #[.agg #[.int .i64 a0_0, .int .i64 a0_1, .int .i64 a0_2, .slice a0_3 len0_3 cap0_3], .slice a1 len1 cap1] W fun e w' => e = .returned (.bool true) ∧ Below W.heap.size W w' := by
  obtain ⟨vs, rfl, hv⟩ := views_of x0_3 t0_3
  have hlv : vs.length = len0_3 := by have := w0_3.1; rw [List.length_map] at this; exact this
  have b2 := bounds_i64 w0_2
  clear w0_0 w0_1 w0_2 t0_3
  obtain ⟨F, rfl⟩ : ∃ F, x1 = strV23 F := strV23_of x1 (fun x hx => by obtain ⟨c, h, -⟩ := t1 x hx; exact ⟨c, h⟩)
  have hlen := w1.1
  rw [strV23_len] at hlen
  have hEl := hid w1
  clear t1 w1
  by_cases hl : 20 < len0_3
  case pos =>
    have d1 : decide ((20 : Int) < (len0_3 : Int)) = true := by simp; omega
    clear hl hv hlv b2 w0_3 hEl hlen
    replace hT := hid hT
    go_enter Tryd.func4, Tryd.ntmps4
    go_upto_region 0 with (fail)
    apply wp_region_seg0 (w := W) (S := [.al 1000, .q []]) (E := [.al ((fun p => .pointer (some ⟨p, 0, none⟩)), _) 1000, .q0 _]) rfl (by kernel_rfl) rfl rfl
    intro th hge hne
    refine Seg.step _ rfl ⟨by rfl, fun U hU => ?_⟩ ?_
    · go_simp; exact vp_alloc rfl rfl rfl
    refine Seg.sa ?_
    refine Seg.sq ?_
    refine Seg.stop (fun U1 hU hk => ?_)
    have nb0 := hge 0 _ _ rfl
    have rb0 := (hk 0 _ _ rfl trivial).1.2 (by simp)
    clear hk hge hne
    generalize th (0 + 0) = p0_0 at *
    dsimp only at rb0
    have r_p0_0 := rb0
    clear rb0
    have n_p0_0 := nb0
    clear nb0
    have sz1 := hU.size
    have hB : Below W.heap.size W U1 := hU
    clear hU
    have z3 := held_cell r_p0_0 3 _ rfl
    replace hT := hid (hT.out.on hB)
    go_wp2_with fail
    refine (knows29_any _ hT.out).mono ?_
    rintro r V ⟨rfl, hA⟩
    replace hB := bthen hB hA
    go_wp2_with fail
    go_ret
    exact ⟨rfl, hB⟩
  have d1 : decide ((20 : Int) < (len0_3 : Int)) = false := by simp; omega
  have kP := hid (fun U (hA : After W U) (hTU : Tab U) => gvput_any a0_0 a0_1 a0_2 a0_3 len0_3 cap0_3 vs U b2 hv (w0_3.below hA) hTU)
  have kB := hid (fun h => gback1t a0_0 a0_1 a0_2 vs h)
  obtain ⟨E, hE⟩ : ∃ E, gvE a0_0 a0_1 a0_2 vs = E := ⟨_, rfl⟩
  obtain ⟨L, hL⟩ : ∃ L, fL (gvI a0_0 a0_1 a0_2 vs) = L := ⟨_, rfl⟩
  rw [hE, hL] at kP kB
  rw [hlv] at kB
  have hS0 := hid w0_3
  have hzl := hid (show len0_3 ≤ 100000 by omega)
  clear hE hL hlv hv b2 w0_3 hl
  obtain ⟨m3, hm3⟩ : ∃ x, 3 + 4 * len0_3 = x := ⟨_, rfl⟩
  rw [hm3] at kB
  clear hm3
  replace hT := hid hT
  go_enter Tryd.func4, Tryd.ntmps4
  go_upto_region 0 with (fail)
  apply wp_region_seg0 (w := W) (S := [.al 1000, .q []]) (E := [.al ((fun p => .pointer (some ⟨p, 0, none⟩)), _) 1000, .q0 _]) rfl (by kernel_rfl) rfl rfl
  intro th hge hne
  refine Seg.step _ rfl ⟨by rfl, fun U hU => ?_⟩ ?_
  · go_simp; exact vp_alloc rfl rfl rfl
  refine Seg.sa ?_
  refine Seg.sq ?_
  refine Seg.stop (fun U1 hU hk => ?_)
  have nb0 := hge 0 _ _ rfl
  have rb0 := (hk 0 _ _ rfl trivial).1.2 (by simp)
  clear hk hge hne
  generalize th (0 + 0) = p0_0 at *
  dsimp only at rb0
  have r_p0_0 := rb0
  clear rb0
  have n_p0_0 := nb0
  clear nb0
  have sz1 := hU.size
  have hB : Below W.heap.size W U1 := hU
  clear hU
  replace hT := hid (hT.out.on hB)
  replace hEl := hid (hEl.out.below hB)
  replace hS0 := hid (hS0.out.below hB)
  replace hB := hid hB
  have r1 := hid r_p0_0
  clear r_p0_0 n_p0_0
  have z3 := held_cell r1.out 3 _ rfl
  go_wp2_with fail
  refine (few25_any a1 len1 cap1 F _ hlen hEl.out).mono ?_
  rintro e V1 ⟨fb, rfl, hfew, hA⟩
  replace hB := hid (bthen hB.out hA)
  replace hT := hid (hT.out.on hA)
  replace hEl := hid (hEl.out.below hA)
  replace hS0 := hid (hS0.out.below hA)
  replace r1 := hid (held_after hA r1.out)
  clear z3
  clear hA
  cases fb
  case false =>
    clear hfew
    go_wp2_with fail
    refine (knows29_any _ hT.out).mono ?_
    rintro e V2 ⟨rfl, hA⟩
    replace hB := hid (bthen hB.out hA)
    clear hA
    go_wp2_with fail
    go_ret
    exact ⟨rfl, hB.out⟩
  obtain ⟨h40, h100⟩ := hfew rfl
  clear hfew
  have two := hid (two29b F len1 hlen h40 h100)
  clear h100 h40
  go_wp2_with fail
  refine (knows29_any _ hT.out).mono ?_
  rintro e V2 ⟨rfl, hA⟩
  replace hB := hid (bthen hB.out hA)
  replace hT := hid (hT.out.on hA)
  replace hEl := hid (hEl.out.below hA)
  replace hS0 := hid (hS0.out.below hA)
  replace r1 := hid (held_after hA r1.out)
  clear hA
  have z0 := held_cell r1.out 0 _ rfl
  have z1 := held_cell r1.out 1 _ rfl
  have z2 := held_cell r1.out 2 _ rfl
  have z3 := held_cell r1.out 3 _ rfl
  go_wp2_with fail
  refine (kP.out _ hB.out hT.out).mono ?_
  rintro e V3 ⟨pa, pc, rfl, g1, -, hA⟩
  replace hB := hid (bthen hB.out hA)
  replace hT := hid (hT.out.on hA)
  replace hEl := hid (hEl.out.below hA)
  replace hS0 := hid (hS0.out.below hA)
  replace r1 := hid (held_after hA r1.out)
  clear z0 z1 z2 z3
  clear hA
  obtain ⟨ln, hln⟩ : ∃ n, (if E = 0 then L else []).length = n := ⟨_, rfl⟩
  rw [hln]
  have hl0 := hid (fun (h : E ≠ 0) => (show ln = 0 by rw [← hln, if_neg h]; rfl))
  have g14 := hid (fun (h : E = 0) => (show ln = m3 ∧ Els V3 1 pa m3 pc (strV23 L) by have h1 := (kB.out h).1; rw [if_pos h] at hln g1; rw [h1] at hln g1; exact ⟨hln.symm, g1⟩))
  clear hln g1 kP
  go_wp2_with fail
  refine (num29_any E _).mono ?_
  rintro e V4 ⟨rfl, hA⟩
  replace g14 := hid (fun (h : E = 0) => (⟨(g14.out h).1, (g14.out h).2.below hA⟩ : ln = m3 ∧ Els V4 1 pa m3 pc (strV23 L)))
  replace hB := hid (bthen hB.out hA)
  replace hT := hid (hT.out.on hA)
  replace hEl := hid (hEl.out.below hA)
  replace hS0 := hid (hS0.out.below hA)
  replace r1 := hid (held_after hA r1.out)
  clear hA
  go_upto_if 37 with (fail)
  go_cut [7, 8] (fun _ _ W0 => W0.heap[p0_0]? = some (.cells #[.int .i64 a0_0, .int .i64 a0_1, .int .i64 a0_2, .slice a0_3 len0_3 cap0_3] 24 (0, 0)) ∧ Tab W0 ∧ Els W0 1 a1 len1 cap1 (strV23 F) ∧ Below W.heap.size W W0)
  case first =>
    by_cases c0 : E = 0
    case neg =>
      have t0 : (E == 0) = false := by simpa using c0
      go_wp2_with fail
      go_meet
      exact ⟨r1.out, hT.out, hEl.out, hB.out⟩
    have g2 := g14.out c0
    obtain ⟨rfl, g3⟩ := g2
    have kX := hid (kB.out c0).2.2
    subst c0
    clear g14 hl0 kB two
    replace g3 := hid g3
    go_wp2_with fail
    refine (kX.out _ _ _ g3.out).mono ?_
    rintro e V5 ⟨hA, a5, n5, c5, rfl, hs5⟩
    replace hB := hid (bthen hB.out hA)
    replace hT := hid (hT.out.on hA)
    replace hEl := hid (hEl.out.below hA)
    replace hS0 := hid (hS0.out.below hA)
    replace r1 := hid (held_after hA r1.out)
    clear g3
    clear hA
    have nw := alloc_new V5 (.cells #[.int .i64 a0_0, .int .i64 a0_1, .int .i64 a0_2, .slice a5 n5 c5] 24)
    go_upto_region 6 with (fail)
    obtain ⟨S5, hS5⟩ : ∃ X, V5.alloc (.cells #[.int .i64 a0_0, .int .i64 a0_1, .int .i64 a0_2, .slice a5 n5 c5] 24) = X := ⟨_, rfl⟩
    rw [hS5] at nw ⊢
    obtain ⟨q5, hq5⟩ : ∃ X, V5.heap.size = X := ⟨_, rfl⟩
    rw [hq5] at nw ⊢
    replace hS5 := hid hS5
    replace hq5 := hid hq5
    have r_q5 := hid nw.2.2
    have hA := nw.2.1
    clear nw
    replace hB := hid (bthen hB.out hA)
    replace hT := hid (hT.out.on hA)
    replace hEl := hid (hEl.out.below hA)
    replace hS0 := hid (hS0.out.below hA)
    replace r1 := hid (held_after hA r1.out)
    replace hs5 := hid (hs5.below hA)
    clear hA
    have kS := hid (same29_any a0_0 a0_1 a0_2 a5 a0_3 n5 c5 len0_3 cap0_3 vs _ hs5.out hS0.out (by have := hs5.out.1; have := hS0.out.1; have := hzl.out; omega))
    have y0 := held_cell r_q5.out 0 _ rfl
    have y1 := held_cell r_q5.out 1 _ rfl
    have y2 := held_cell r_q5.out 2 _ rfl
    have y3 := held_cell r_q5.out 3 _ rfl
    have z0 := held_cell r1.out 0 _ rfl
    have z1 := held_cell r1.out 1 _ rfl
    have z2 := held_cell r1.out 2 _ rfl
    have z3 := held_cell r1.out 3 _ rfl
    go_wp2_with fail
    refine kS.out.mono ?_
    rintro e V6 ⟨rfl, hA⟩
    replace hB := hid (bthen hB.out hA)
    replace hT := hid (hT.out.on hA)
    replace hEl := hid (hEl.out.below hA)
    replace hS0 := hid (hS0.out.below hA)
    replace r1 := hid (held_after hA r1.out)
    clear kS hs5 r_q5
    clear y0 y1 y2 y3
    clear z0 z1 z2 z3
    clear hA
    go_wp2_with fail
    refine (num29_any 0 _).mono ?_
    rintro e V7 ⟨rfl, hA⟩
    replace hB := hid (bthen hB.out hA)
    replace hT := hid (hT.out.on hA)
    replace hEl := hid (hEl.out.below hA)
    replace hS0 := hid (hS0.out.below hA)
    replace r1 := hid (held_after hA r1.out)
    clear hA
    go_wp2_with fail
    go_meet
    exact ⟨r1.out, hT.out, hEl.out, hB.out⟩
  case rest =>
    clear r1 hT hEl hB g14 kB hS0
    obtain ⟨r1, hT, hEl, hB⟩ := hcut
    replace hT := hid hT
    replace hEl := hid hEl
    replace hB := hid hB
    clear r1
    rcases two.out with ⟨X, hX, kN⟩ | ⟨tt, no, sn, us, M, hxl, kT, h19, hMl, kM, kR, hle⟩
    · replace kN := hid kN
      clear two
      go_wp2_with fail
      refine (kN.out _ _ _ hEl.out).mono ?_
      rintro e V8 ⟨rfl, hA⟩
      replace hB := hid (bthen hB.out hA)
      clear hA hT hEl
      have nw := alloc_new V8 (.cells #[.int .i64 0, .int .i64 0, .int .i64 0, .slice none 0 0] 24)
      go_upto_region 9 with (fail)
      obtain ⟨S8, hS8⟩ : ∃ X, V8.alloc (.cells #[.int .i64 0, .int .i64 0, .int .i64 0, .slice none 0 0] 24) = X := ⟨_, rfl⟩
      rw [hS8] at nw ⊢
      obtain ⟨q8, hq8⟩ : ∃ X, V8.heap.size = X := ⟨_, rfl⟩
      rw [hq8] at nw ⊢
      replace hS8 := hid hS8
      replace hq8 := hid hq8
      have r_q8 := hid nw.2.2
      have hA := nw.2.1
      clear nw
      replace hB := hid (bthen hB.out hA)
      clear hA
      have tX : (X != 0) = true := by simpa using hX
      go_wp2_with fail
      refine (num29_any X _).mono ?_
      rintro e V9 ⟨rfl, hA⟩
      replace hB := hid (bthen hB.out hA)
      replace r_q8 := hid (held_after hA r_q8.out)
      clear hA
      have z0 := held_cell r_q8.out 0 _ rfl
      have z1 := held_cell r_q8.out 1 _ rfl
      have z2 := held_cell r_q8.out 2 _ rfl
      have z3 := held_cell r_q8.out 3 _ rfl
      go_wp2_with fail
      refine (same29_any 0 0 0 none none 0 0 0 0 [] _ (Els.nil _ _) (Els.nil _ _) (by decide)).mono ?_
      rintro e V10 ⟨rfl, hA⟩
      replace hB := hid (bthen hB.out hA)
      clear hA
      clear z0 z1 z2 z3
      go_wp2_with fail
      refine (num29_any E _).mono ?_
      rintro e V11 ⟨rfl, hA⟩
      replace hB := hid (bthen hB.out hA)
      clear hA
      by_cases c0 : E = 0
      · have t0 : (E == 0) = true := by simpa using c0
        go_wp2_with fail
        go_ret
        exact ⟨ret_bool (by simp), hB.out⟩
      · have t0 : (E == 0) = false := by simpa using c0
        have tl := hl0.out c0
        have tl2 : ((ln : Int) == 0) = true := by simp; omega
        go_wp2_with fail
        go_ret
        exact ⟨ret_bool (by simp [tl]), hB.out⟩
    · replace kT := hid kT
      replace kM := hid kM
      replace kR := hid kR
      replace hle := hid hle
      replace hxl := hid hxl
      replace hMl := hid hMl
      replace hlen := hid hlen
      clear two hl0
      go_wp2_with fail
      refine (kT.out _ _ _ hEl.out).mono ?_
      rintro e V8 ⟨hA, a8, n8, c8, rfl, hs8⟩
      replace hB := hid (bthen hB.out hA)
      replace hT := hid (hT.out.on hA)
      replace hEl := hid (hEl.out.below hA)
      replace hs8 := hid hs8
      clear hA
      have nw := alloc_new V8 (.cells #[.int .i64 tt, .int .i64 no, .int .i64 sn, .slice a8 n8 c8] 24)
      go_upto_region 9 with (fail)
      obtain ⟨S8, hS8⟩ : ∃ X, V8.alloc (.cells #[.int .i64 tt, .int .i64 no, .int .i64 sn, .slice a8 n8 c8] 24) = X := ⟨_, rfl⟩
      rw [hS8] at nw ⊢
      obtain ⟨q8, hq8⟩ : ∃ X, V8.heap.size = X := ⟨_, rfl⟩
      rw [hq8] at nw ⊢
      replace hS8 := hid hS8
      replace hq8 := hid hq8
      have r_q8 := hid nw.2.2
      have hA := nw.2.1
      clear nw
      replace hB := hid (bthen hB.out hA)
      replace hT := hid (hT.out.on hA)
      replace hEl := hid (hEl.out.below hA)
      replace hs8 := hid (hs8.out.below hA)
      clear hA
      go_wp2_with fail
      refine (num29_any 0 _).mono ?_
      rintro e V9 ⟨rfl, hA⟩
      replace hB := hid (bthen hB.out hA)
      replace hT := hid (hT.out.on hA)
      replace hEl := hid (hEl.out.below hA)
      replace hs8 := hid (hs8.out.below hA)
      replace r_q8 := hid (held_after hA r_q8.out)
      clear hA
      have z0 := held_cell r_q8.out 0 _ rfl
      have z1 := held_cell r_q8.out 1 _ rfl
      have z2 := held_cell r_q8.out 2 _ rfl
      have z3 := held_cell r_q8.out 3 _ rfl
      go_wp2_with fail
      refine (kM.out _ _ _ _ hs8.out hT.out).mono ?_
      rintro e V11 ⟨qa, qc, rfl, g1, -, hA⟩
      rw [if_pos rfl] at g1 ⊢
      rw [hMl.out] at g1 ⊢
      replace g1 := hid g1
      replace hB := hid (bthen hB.out hA)
      replace hT := hid (hT.out.on hA)
      replace hEl := hid (hEl.out.below hA)
      replace hs8 := hid (hs8.out.below hA)
      replace r_q8 := hid (held_after hA r_q8.out)
      clear z0 z1 z2 z3
      clear hA
      go_wp2_with fail
      refine (kR.out _ _ _ g1.out).mono ?_
      rintro e V12 ⟨hA, a12, n12, c12, rfl, hs12⟩
      replace hB := hid (bthen hB.out hA)
      replace hT := hid (hT.out.on hA)
      replace hEl := hid (hEl.out.below hA)
      replace hs8 := hid (hs8.out.below hA)
      replace r_q8 := hid (held_after hA r_q8.out)
      replace g1 := hid (g1.out.below hA)
      replace hs12 := hid hs12
      clear hA
      have nw := alloc_new V12 (.cells #[.int .i64 tt, .int .i64 no, .int .i64 sn, .slice a12 n12 c12] 24)
      go_upto_region 13 with (fail)
      obtain ⟨S12, hS12⟩ : ∃ X, V12.alloc (.cells #[.int .i64 tt, .int .i64 no, .int .i64 sn, .slice a12 n12 c12] 24) = X := ⟨_, rfl⟩
      rw [hS12] at nw ⊢
      obtain ⟨q12, hq12⟩ : ∃ X, V12.heap.size = X := ⟨_, rfl⟩
      rw [hq12] at nw ⊢
      replace hS12 := hid hS12
      replace hq12 := hid hq12
      have r_q12 := hid nw.2.2
      have hA := nw.2.1
      clear nw
      replace hB := hid (bthen hB.out hA)
      replace hT := hid (hT.out.on hA)
      replace hEl := hid (hEl.out.below hA)
      replace hs8 := hid (hs8.out.below hA)
      replace r_q8 := hid (held_after hA r_q8.out)
      replace g1 := hid (g1.out.below hA)
      replace hs12 := hid (hs12.out.below hA)
      clear hA
      have kS := hid (fun U (hA : After S12 U) => same29_any tt no sn a8 a12 n8 c8 n12 c12 us U (hs8.out.below hA) (hs12.out.below hA) (by have := hs8.out.1; rw [List.length_map] at this; have := hxl.out; omega))
      clear hs8 hs12 hT kT kM kR
      have hA0 := hid (Below.refl S12.heap.size S12)
      go_wp2_with fail
      refine (num29_any 0 _).mono ?_
      rintro e V20 ⟨rfl, hA⟩
      replace hB := hid (bthen hB.out hA)
      replace r_q8 := hid (held_after hA r_q8.out)
      replace r_q12 := hid (held_after hA r_q12.out)
      replace hA0 := hid (bthen hA0.out hA)
      clear hA
      go_wp2_with fail
      refine (num29_any 0 _).mono ?_
      rintro e V21 ⟨rfl, hA⟩
      replace hB := hid (bthen hB.out hA)
      replace r_q8 := hid (held_after hA r_q8.out)
      replace r_q12 := hid (held_after hA r_q12.out)
      replace hA0 := hid (bthen hA0.out hA)
      clear hA
      have tq : ((len1 : Int) != (len1 : Int)) = false := bne_self_eq_false _
      have z0 := held_cell r_q8.out 0 _ rfl
      have z1 := held_cell r_q8.out 1 _ rfl
      have z2 := held_cell r_q8.out 2 _ rfl
      have z3 := held_cell r_q8.out 3 _ rfl
      have y0 := held_cell r_q12.out 0 _ rfl
      have y1 := held_cell r_q12.out 1 _ rfl
      have y2 := held_cell r_q12.out 2 _ rfl
      have y3 := held_cell r_q12.out 3 _ rfl
      go_wp2_with fail
      refine (kS.out _ hA0.out).mono ?_
      rintro e V22 ⟨rfl, hA⟩
      replace hB := hid (bthen hB.out hA)
      replace hA0 := hid (bthen hA0.out hA)
      clear hA kS r_q8 r_q12
      clear z0 z1 z2 z3
      clear y0 y1 y2 y3
      replace g1 := hid (g1.out.below hA0.out)
      replace hEl := hid (hEl.out.below hA0.out)
      go_wp2_with fail
      go_loopw [15] (fun ix wr => ∃ k : Nat, ix = .int .i64 k ∧ k ≤ len1 ∧ After V22 wr) (fun ix _ => len1 - (intOf ix).toNat)
      case atStart => exact ⟨0, rfl, by omega, Below.refl _ _⟩
      case round =>
        obtain ⟨k, rfl, hk, hA⟩ := hrel
        by_cases hlt : (k : Int) < len1
        case neg =>
          replace hB := hid (bthen hB.out hA)
          clear hA
          go_wp2_with fail
          go_ret
          exact ⟨rfl, hB.out⟩
        obtain ⟨t, ht⟩ : ∃ x, M[k]? = some x := ⟨_, List.getElem?_eq_getElem (show k < M.length by have := hMl.out; omega)⟩
        obtain ⟨s, hs⟩ : ∃ x, F[k]? = some x := ⟨_, List.getElem?_eq_getElem (show k < F.length by have := hlen.out; omega)⟩
        have hts := hle.out.at ht hs
        obtain ⟨b1, o1, rfl, g0⟩ := (g1.out.below hA).at1 (strV23_at ht)
        obtain ⟨b2, o2, rfl, d0⟩ := (hEl.out.below hA).at1 (strV23_at hs)
        have tle : decide (s.size < t.size) = false := by simp; omega
        have tle2 : ¬ s.size < t.size := by omega
        have kz : (0 : Int) ≤ k := by omega
        have wk : IntKind.i64.wrap ((k : Int) + 1) = (k : Int) + 1 := by rw [IntKind.wrap_i64]; omega
        have hk1 := hid (show k + 1 ≤ len1 by omega)
        have hms := hid (show len1 - (k + 1) < len1 - k by omega)
        have hA2 := hid hA.drew
        clear ht hs hts hA hk
        go_upto_region 18 with (fail)
        refine wp_region_R (by kernel_rfl) ?_
        refine wpAnyR_take 0 rfl (by kernel_rfl) (by kernel_rfl) (by kernel_rfl) (fun _ _ _ _ h => h) ⟨_, Or.inl ⟨by rfl, fun w2 hb2 => by (go_simp; try with_reducible rfl)⟩, _, by (go_simp; try rfl), ?_⟩
        refine wpAnyR_take 1 rfl (by kernel_rfl) (by kernel_rfl) (by kernel_rfl) (fun _ _ _ _ h => h) ⟨_, Or.inl ⟨by rfl, fun w2 hb2 => by (go_simp; try with_reducible rfl)⟩, _, by (go_simp; try rfl), ?_⟩
        refine wpAnyR_take 2 rfl (by kernel_rfl) (by kernel_rfl) (by kernel_rfl) (fun _ _ _ _ h => h) ⟨_, Or.inl ⟨by rfl, fun w2 hb2 => by (go_simp; try with_reducible rfl)⟩, _, by (go_simp; try rfl), ?_⟩
        refine wpAnyR_take 3 rfl (by kernel_rfl) (by kernel_rfl) (by kernel_rfl) (fun _ _ _ _ h => h) ⟨_, Or.inl ⟨by rfl, fun w2 hb2 => by (have h0 := (Below.cell hb2 (World.block_lt_of_cell? wr _ g0)).trans g0; go_simp; try with_reducible rfl)⟩, _, by (go_simp; try rfl), ?_⟩
        refine wpAnyR_take 4 rfl (by kernel_rfl) (by kernel_rfl) (by kernel_rfl) (fun _ _ _ _ h => h) ⟨_, Or.inl ⟨by rfl, fun w2 hb2 => by (go_simp; try with_reducible rfl)⟩, _, by (go_simp; try rfl), ?_⟩
        refine wpAnyR_take 5 rfl (by kernel_rfl) (by kernel_rfl) (by kernel_rfl) (fun _ _ _ _ h => h) ⟨_, Or.inl ⟨by rfl, fun w2 hb2 => by (go_simp; try with_reducible rfl)⟩, _, by (go_simp; try rfl), ?_⟩
        refine wpAnyR_take 6 rfl (by kernel_rfl) (by kernel_rfl) (by kernel_rfl) (fun _ _ _ _ h => h) ⟨_, Or.inl ⟨by rfl, fun w2 hb2 => by (go_simp; try with_reducible rfl)⟩, _, by (go_simp; try rfl), ?_⟩
        refine wpAnyR_take 7 rfl (by kernel_rfl) (by kernel_rfl) (by kernel_rfl) (fun _ _ _ _ h => h) ⟨_, Or.inl ⟨by rfl, fun w2 hb2 => by (go_simp; try with_reducible rfl)⟩, _, by (go_simp; try rfl), ?_⟩
        refine wpAnyR_take 8 rfl (by kernel_rfl) (by kernel_rfl) (by kernel_rfl) (fun _ _ _ _ h => h) ⟨_, Or.inl ⟨by rfl, fun w2 hb2 => by (have h0 := (Below.cell hb2 (World.block_lt_of_cell? wr _ d0)).trans d0; go_simp; try with_reducible rfl)⟩, _, by (go_simp; try rfl), ?_⟩
        refine wpAnyR_take 9 rfl (by kernel_rfl) (by kernel_rfl) (by kernel_rfl) (fun _ _ _ _ h => h) ⟨_, Or.inl ⟨by rfl, fun w2 hb2 => by (go_simp; try with_reducible rfl)⟩, _, by (go_simp; try rfl), ?_⟩
        refine wpAnyR_take 10 rfl (by kernel_rfl) (by kernel_rfl) (by kernel_rfl) (fun _ _ _ _ h => h) ⟨_, Or.inl ⟨by rfl, fun w2 hb2 => by (go_simp; try with_reducible rfl)⟩, _, by (go_simp; try rfl), ?_⟩
        refine wpAnyR_done (by kernel_rfl) ?_ _
        go_wp2_with fail
        go_roundw
        case rel => exact ⟨k + 1, by simp, hk1.out, hA2.out⟩
        case measure => simp [intOf]; have := hms.out; omega

end Go.Proofs.YtobgibmpodggkaaDoor
