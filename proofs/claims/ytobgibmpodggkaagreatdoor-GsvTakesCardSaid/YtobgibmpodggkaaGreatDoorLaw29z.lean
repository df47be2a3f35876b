/- The laws of layer 29: GsvTakes. -/
import Derived.Test.YtobgibmpodggkaaGreatDoorGV5
import Derived.Test.YtobgibmpodggkaaGreatDoorGV3
import Derived.Test.YtobgibmpodggkaaGreatDoorGR
import Derived.Laws.StructEq
import Derived.Laws.Tables
import Derived.Deep.DeepCutAuto
namespace Go.Proofs.YtobgibmpodggkaaGreatDoor
open Go.ChangeShapes Go.WideShapes Go.ChangeAt Go.RowKit
set_option linter.unusedVariables false
set_option linter.unusedSimpArgs false

theorem list29 {F : List ByteArray} {k : Nat} (h : F.length = 3 + 4 * k) : ∃ s0 s1 s2 R, R.length = 4 * k ∧ F = s0 :: s1 :: s2 :: R := by
  match F, h with
  | [], h => exact absurd (show 0 = 3 + 4 * k from h) (by omega)
  | [_], h => exact absurd (show 1 = 3 + 4 * k from h) (by omega)
  | [_, _], h => exact absurd (show 2 = 3 + 4 * k from h) (by omega)
  | s0 :: s1 :: s2 :: R, h => exact ⟨s0, s1, s2, R, by simp at h; omega, rfl⟩
set_option maxRecDepth 100000 in
set_option maxHeartbeats 4000000 in
theorem two29 (F : List ByteArray) (len : Nat) (hlen : F.length = len) (h40 : len ≤ 40) (h100 : ∀ f ∈ F, f.size ≤ 100) : ∃ (tt no sn : Int) (vs : List V4) (E : Int), vs.length ≤ 4 ∧ (∀ (U : World) (a : Option Addr) (cap : Nat), Els U 1 a len cap (strV23 F) → Calls Tryz.prog 6 #[.slice a len cap] U fun r w' => After U w' ∧ ∃ (a1 : Option Addr) (n1 c1 : Nat), r = .returned (.tuple #[.agg #[.int .i64 tt, .int .i64 no, .int .i64 sn, .slice a1 n1 c1], .int .i64 E]) ∧ Els w' 8 a1 n1 c1 (vs.map enV)) ∧ (∀ (U : World) (a : Option Addr) (cap : Nat), Els U 1 a len cap (strV23 F) → Calls Tryz.prog 7 #[.slice a len cap] U fun r w' => After U w' ∧ ∃ (a1 : Option Addr) (n1 c1 : Nat), r = .returned (.tuple #[.agg #[.int .i64 tt, .int .i64 no, .int .i64 sn, .slice a1 n1 c1], .int .i64 E]) ∧ Els w' 8 a1 n1 c1 (vs.map enV)) := by
  by_cases hl : ∃ k, k ≤ 4 ∧ len = 3 + 4 * k
  case neg => exact ⟨0, 0, 0, [], 3, by simp, fun U a cap _ => (gvtake_no a len cap U (by omega) (fun k h1 h2 => hl ⟨k, h1, h2⟩)).mono (fun r w' ⟨h1, h2⟩ => ⟨h2, none, 0, 0, h1, Els.nil _ _⟩), fun U a cap _ => (rgvtake_no a len cap U (by omega) (fun k h1 h2 => hl ⟨k, h1, h2⟩)).mono (fun r w' ⟨h1, h2⟩ => ⟨h2, none, 0, 0, h1, Els.nil _ _⟩)⟩
  obtain ⟨k, hk, rfl⟩ := hl
  obtain ⟨s0, s1, s2, R, hR, rfl⟩ := list29 hlen
  have h1000 : ∀ s ∈ s0 :: s1 :: s2 :: R, s.size ≤ 1000 := fun s hs => Nat.le_trans (h100 s hs) (by decide)
  have k1 := fun U a cap hU => gvtake_any s0 s1 s2 R k hk hR U a _ cap rfl hU h1000
  have k2 := fun U a cap hU => rgvtake_any s0 s1 s2 R k hk hR U a _ cap rfl hU h1000
  have hvl : (gvR s0 s1 s2 R k).vs.length = k := by unfold gvR; exact vwS_len _ _ k
  obtain ⟨g, hg⟩ : ∃ g, gvR s0 s1 s2 R k = g := ⟨_, rfl⟩
  rw [hg] at k1 k2 hvl
  by_cases hE0 : g.e = 0
  · refine ⟨g.tt, g.no, g.sn, g.vs, 0, by omega, fun U a cap hU => ?_, fun U a cap hU => ?_⟩
    · refine (k1 U a cap hU).mono ?_
      rintro r w2 ⟨hA, ⟨h0, hr⟩ | ⟨h0, a1, n1, c1, hr, hsl⟩⟩
      · exact absurd hE0 h0
      · exact ⟨hA, a1, n1, c1, hr, hsl⟩
    · refine (k2 U a cap hU).mono ?_
      rintro r w2 ⟨hA, ⟨h0, hr⟩ | ⟨h0, a1, n1, c1, hr, hsl⟩⟩
      · exact absurd hE0 h0
      · exact ⟨hA, a1, n1, c1, hr, hsl⟩
  · refine ⟨0, 0, 0, [], g.e, by simp, fun U a cap hU => ?_, fun U a cap hU => ?_⟩
    · refine (k1 U a cap hU).mono ?_
      rintro r w2 ⟨hA, ⟨h0, hr⟩ | ⟨h0, a1, n1, c1, hr, hsl⟩⟩
      · exact ⟨hA, none, 0, 0, hr, Els.nil _ _⟩
      · exact absurd h0 hE0
    · refine (k2 U a cap hU).mono ?_
      rintro r w2 ⟨hA, ⟨h0, hr⟩ | ⟨h0, a1, n1, c1, hr, hsl⟩⟩
      · exact ⟨hA, none, 0, 0, hr, Els.nil _ _⟩
      · exact absurd h0 hE0
set_option maxRecDepth 100000 in
set_option maxHeartbeats 16000000 in
theorem law_GsvTakes (a0 : Option Addr) (len0 cap0 : Nat) (x0 : List (List Value)) (W : World) (w0 : Els W 1 a0 len0 cap0 x0) (t0 : ∀ x ∈ x0, (∃ (c0 : ByteArray), x = [.string c0] ∧ (c0.size ≤ maxLen))) (hT : Tab W) :
    Calls Tryz.prog 3 #[.slice a0 len0 cap0] W fun e w' => e = .returned (.bool true) ∧ Below W.heap.size W w' := by
  obtain ⟨F, rfl⟩ : ∃ F, x0 = strV23 F := strV23_of x0 (fun x hx => by obtain ⟨c, h, -⟩ := t0 x hx; exact ⟨c, h⟩)
  have hlen := w0.1
  rw [strV23_len] at hlen
  have hEl := hid w0
  clear t0 w0
  replace hT := hid hT
  go_enter Tryz.func3, Tryz.ntmps3
  go_wp2_with fail
  refine (few25_any a0 len0 cap0 F _ hlen hEl.out).mono ?_
  rintro e V1 ⟨b, rfl, hfew, hA⟩
  have hB := hid hA
  replace hEl := hid (hEl.out.below hA)
  clear hA
  cases b
  case false =>
    clear hfew
    go_wp2_with fail
    refine (knows29_any _ (hT.out.on hB.out)).mono ?_
    rintro e V2 ⟨rfl, hA⟩
    replace hB := hid (bthen hB.out hA)
    clear hA
    go_wp2_with fail
    go_ret
    exact ⟨rfl, hB.out⟩
  obtain ⟨h40, h100⟩ := hfew rfl
  clear hfew
  go_wp2_with fail
  refine (knows29_any _ (hT.out.on hB.out)).mono ?_
  rintro e V2 ⟨rfl, hA⟩
  replace hB := hid (bthen hB.out hA)
  replace hEl := hid (hEl.out.below hA)
  clear hA
  obtain ⟨tt, no, sn, vs, E, hxl, k1, k2⟩ := two29 F len0 hlen h40 h100
  clear h40 h100 hlen
  replace k1 := hid k1
  replace k2 := hid k2
  replace hxl := hid hxl
  go_wp2_with fail
  refine (k1.out _ _ _ hEl.out).mono ?_
  rintro e Y1 ⟨hA, a1, n1, c1, rfl, hs1⟩
  replace hB := hid (bthen hB.out hA)
  replace hEl := hid (hEl.out.below hA)
  clear hA
  have nw := alloc_new Y1 (.cells #[.int .i64 tt, .int .i64 no, .int .i64 sn, .slice a1 n1 c1] 27)
  go_upto_region 4 with (fail)
  obtain ⟨Z1, hZ1⟩ : ∃ X, Y1.alloc (.cells #[.int .i64 tt, .int .i64 no, .int .i64 sn, .slice a1 n1 c1] 27) = X := ⟨_, rfl⟩
  rw [hZ1] at nw ⊢
  obtain ⟨p1, hp1⟩ : ∃ X, Y1.heap.size = X := ⟨_, rfl⟩
  rw [hp1] at nw ⊢
  replace hZ1 := hid hZ1
  replace hp1 := hid hp1
  have r1 := hid nw.2.2
  replace hB := hid (bthen hB.out nw.2.1)
  replace hEl := hid (hEl.out.below nw.2.1)
  replace hs1 := hid (hs1.below nw.2.1)
  clear nw
  go_wp2_with fail
  refine (k2.out _ _ _ hEl.out).mono ?_
  rintro e Y2 ⟨hA, a2, n2, c2, rfl, hs2⟩
  replace hB := hid (bthen hB.out hA)
  replace hEl := hid (hEl.out.below hA)
  replace hs1 := hid (hs1.out.below hA)
  replace r1 := hid (held_after hA r1.out)
  clear hA
  have nw := alloc_new Y2 (.cells #[.int .i64 tt, .int .i64 no, .int .i64 sn, .slice a2 n2 c2] 27)
  go_upto_region 5 with (fail)
  obtain ⟨Z2, hZ2⟩ : ∃ X, Y2.alloc (.cells #[.int .i64 tt, .int .i64 no, .int .i64 sn, .slice a2 n2 c2] 27) = X := ⟨_, rfl⟩
  rw [hZ2] at nw ⊢
  obtain ⟨p2, hp2⟩ : ∃ X, Y2.heap.size = X := ⟨_, rfl⟩
  rw [hp2] at nw ⊢
  replace hZ2 := hid hZ2
  replace hp2 := hid hp2
  have r2 := hid nw.2.2
  replace hB := hid (bthen hB.out nw.2.1)
  replace hEl := hid (hEl.out.below nw.2.1)
  replace hs2 := hid (hs2.below nw.2.1)
  replace hs1 := hid (hs1.out.below nw.2.1)
  replace r1 := hid (held_after nw.2.1 r1.out)
  clear nw
  clear k1 k2 hEl
  have kS := hid (same29_any tt no sn a1 a2 n1 c1 n2 c2 vs _ hs1.out hs2.out (by have := hs1.out.1; rw [List.length_map] at this; have := hxl.out; omega))
  clear hs1 hs2 hxl
  have z0 := held_cell r1.out 0 _ rfl
  have z1 := held_cell r1.out 1 _ rfl
  have z2 := held_cell r1.out 2 _ rfl
  have z3 := held_cell r1.out 3 _ rfl
  have y0 := held_cell r2.out 0 _ rfl
  have y1 := held_cell r2.out 1 _ rfl
  have y2 := held_cell r2.out 2 _ rfl
  have y3 := held_cell r2.out 3 _ rfl
  go_wp2_with fail
  refine kS.out.mono ?_
  rintro e V5 ⟨rfl, hA⟩
  replace hB := hid (bthen hB.out hA)
  clear hA r1 r2 kS
  go_wp2_with fail
  refine (num29_any E _).mono ?_
  rintro e V6 ⟨rfl, hA⟩
  replace hB := hid (bthen hB.out hA)
  clear hA
  go_wp2_with fail
  refine (num29_any E _).mono ?_
  rintro e V7 ⟨rfl, hA⟩
  replace hB := hid (bthen hB.out hA)
  clear hA
  go_wp2_with fail
  go_ret
  exact ⟨ret_bool (by simp), hB.out⟩

end Go.Proofs.YtobgibmpodggkaaGreatDoor
