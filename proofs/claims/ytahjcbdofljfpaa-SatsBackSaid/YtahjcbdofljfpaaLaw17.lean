/- The laws of layer 17: knows, SatsPuts. -/
import Derived.Test.YtahjcbdofljfpaaSats4
import Derived.Test.YtahjcbdofljfpaaSats7
import Derived.Deep.DeepCutAuto
namespace Go.Proofs.Ytahjcbdofljfpaa
open Go.ChangeShapes Go.WideShapes Go.ChangeAt Go.RowKit
set_option linter.unusedVariables false
set_option linter.unusedSimpArgs false

theorem txt17 {w : World} {a : Option Addr} {len cap : Nat} {zs : List Int} (h : Sl .u8 w a len cap zs) : (convert 26 9 (.slice a len cap)).run Try.prog w = .ok (.string (textOf zs)) w :=
  h.text 26 9 5 Try.underlying26 Try.underlying5 Try.underlying9
theorem num17_any (n : Int) (w : World) (h1 : -9223372036854775808 ≤ n) (h2 : n ≤ 9223372036854775807) :
    Calls Try.prog 11 #[.int .i64 n] w fun e w' => e = .returned (.int .i64 n) ∧ w' = w := by
  go_enter Try.func11, Try.ntmps11
  go_wp2_with fail
  go_ret
  exact ⟨rfl, rfl⟩
theorem els_sats : ∀ {x : List (List Value)}, (∀ y ∈ x, ∃ (c0 : Int) (c1 : Int) (c2 : Int) (c3 : Int) (c4 : Int) (c5 : Int) (c6 : Int), y = [.int .i64 c0, .int .i64 c1, .int .i64 c2, .int .i64 c3, .int .i64 c4, .int .i64 c5, .int .i64 c6] ∧ ((Lit.int .i64 c0).wf = true) ∧ ((Lit.int .i64 c1).wf = true) ∧ ((Lit.int .i64 c2).wf = true) ∧ ((Lit.int .i64 c3).wf = true) ∧ ((Lit.int .i64 c4).wf = true) ∧ ((Lit.int .i64 c5).wf = true) ∧ ((Lit.int .i64 c6).wf = true)) → ∃ l : List (List Int), x = satsV l ∧ ∀ z ∈ l, z.length = 7 ∧ ∀ u ∈ z, -9223372036854775808 ≤ u ∧ u ≤ 9223372036854775807
  | [], _ => ⟨[], rfl, fun z hz => by cases hz⟩
  | y :: x, h => by
    obtain ⟨c0, c1, c2, c3, c4, c5, c6, rfl, h0, h1, h2, h3, h4, h5, h6⟩ := h y (by simp)
    obtain ⟨l, rfl, hl⟩ := els_sats (x := x) (fun z hz => h z (List.mem_cons_of_mem _ hz))
    refine ⟨[c0, c1, c2, c3, c4, c5, c6] :: l, rfl, fun z hz => ?_⟩
    rcases List.mem_cons.1 hz with rfl | hz
    · refine ⟨rfl, fun u hu => ?_⟩
      simp only [List.mem_cons, List.not_mem_nil, or_false] at hu
      rcases hu with rfl | rfl | rfl | rfl | rfl | rfl | rfl
      · exact bounds_i64 h0
      · exact bounds_i64 h1
      · exact bounds_i64 h2
      · exact bounds_i64 h3
      · exact bounds_i64 h4
      · exact bounds_i64 h5
      · exact bounds_i64 h6
    · exact hl z hz
theorem putSS_e (tow : Int) (l : List (List Int)) : 0 ≤ (putSS tow l).2 ∧ (putSS tow l).2 ≤ 9 := by
  have h : ∀ ps : List (List Int × Int), (∀ p ∈ ps, 0 ≤ p.2 ∧ p.2 ≤ 9) → 0 ≤ errJ ps ∧ errJ ps ≤ 9 := by
    intro ps
    induction ps with
    | nil => intro _; simp [errJ]
    | cons p r ih =>
      intro hp
      unfold errJ
      split
      · exact ih (fun q hq => hp q (List.mem_cons_of_mem _ hq))
      · exact hp p (by simp)
  have h2 := h (pieces tow l) (by
    intro p hp
    rcases List.mem_cons.1 hp with rfl | hp
    · exact putF_e (fN HD17) (fS HD17) (fL HD17) (fH HD17) HD17.length _
    · obtain ⟨x, _, rfl⟩ := List.mem_map.1 hp
      exact putF_e (fN SD17) (fS SD17) (fL SD17) (fH SD17) SD17.length _)
  unfold putSS
  split
  · simp
  · split
    · simp
    · exact h2
set_option maxRecDepth 100000 in
set_option maxHeartbeats 2000000 in
theorem knows17_any (w : World) : Calls Try.prog 6 #[] w fun e w' => e = .returned (.bool true) ∧ Below w.heap.size w w' := by
  have e1 : putSS 0 [] = ([0, 0, 0, 0, 1, 0, 0, 0], 0) := by decide +kernel
  replace e1 := hid e1
  go_enter Try.func6, Try.ntmps6
  go_wp2_with fail
  refine (putS_any 0 none 0 [] _ (Els.nil _ _) (by simp) (by omega) (fun x hx => by cases hx)).mono ?_
  rintro e w1 ⟨a1, c1, rfl, hO, hB⟩
  rw [e1.out] at hO ⊢
  have sO : Sl .u8 w1 a1 8 c1 [0, 0, 0, 0, 1, 0, 0, 0] := hO.slf
  have t1 := txt17 sO
  have t2 := txt17 (row_lit .u8 5 w1 [0, 0, 0, 0, 1, 0, 0, 0] #[.int .u8 0, .int .u8 0, .int .u8 0, .int .u8 0, .int .u8 1, .int .u8 0, .int .u8 0, .int .u8 0] 8 w1.heap.size rfl rfl (by unfold maxLen; omega) rfl)
  have hA2 := hid (bthen hB (alloc_new w1 (.cells #[.int .u8 0, .int .u8 0, .int .u8 0, .int .u8 0, .int .u8 1, .int .u8 0, .int .u8 0, .int .u8 0] 5)).2.1)
  clear hB hO sO
  generalize textOf [0, 0, 0, 0, 1, 0, 0, 0] = TX at *
  go_wp2_with fail
  refine (num17_any 0 _ (by omega) (by omega)).mono ?_
  rintro e V ⟨rfl, rfl⟩
  go_wp2_with fail
  go_ret
  exact ⟨rfl, hA2.out⟩
set_option maxRecDepth 100000 in
set_option maxHeartbeats 8000000 in
theorem law_SatsPuts (a0_0 : Int) (a0_1 : Option Addr) (len0_1 cap0_1 : Nat) (x0_1 : List (List Value)) (W : World) (w0_0 : (Lit.int .i64 a0_0).wf = true) (w0_1 : Els W 7 a0_1 len0_1 cap0_1 x0_1) (t0_1 : ∀ x ∈ x0_1, (∃ (c0 : Int) (c1 : Int) (c2 : Int) (c3 : Int) (c4 : Int) (c5 : Int) (c6 : Int), x = [.int .i64 c0, .int .i64 c1, .int .i64 c2, .int .i64 c3, .int .i64 c4, .int .i64 c5, .int .i64 c6] ∧ ((Lit.int .i64 c0).wf = true) ∧ ((Lit.int .i64 c1).wf = true) ∧ ((Lit.int .i64 c2).wf = true) ∧ ((Lit.int .i64 c3).wf = true) ∧ ((Lit.int .i64 c4).wf = true) ∧ ((Lit.int .i64 c5).wf = true) ∧ ((Lit.int .i64 c6).wf = true))) :
    Calls Try.prog 3 #[.agg #[.int .i64 a0_0, .slice a0_1 len0_1 cap0_1]] W fun e w' => e = .returned (.bool true) ∧ Below W.heap.size W w' := by
  have hly := hid (bounds_i64 w0_0)
  obtain ⟨l, rfl, hwf⟩ := els_sats t0_1
  obtain rfl : l.length = len0_1 := by have := w0_1.1; simpa [satsV] using this
  replace hwf := hid hwf
  have nw := alloc_new W (.cells #[.int .i64 a0_0, .slice a0_1 l.length cap0_1] 24)
  have hB := hid nw.2.1
  have rm := hid nw.2.2
  have hE := hid (w0_1.below nw.2.1)
  clear nw w0_0 w0_1 t0_1
  obtain ⟨V0, hV0⟩ : ∃ X, W.alloc (.cells #[.int .i64 a0_0, .slice a0_1 l.length cap0_1] 24) = X := ⟨_, rfl⟩
  rw [hV0] at hB rm hE
  by_cases cb : (70 : Int) < l.length
  case pos =>
    have z0 := held_cell rm.out 0 _ rfl
    have z1 := held_cell rm.out 1 _ rfl
    go_enter Try.func3, Try.ntmps3
    go_wp2_with fail
    refine (knows17_any _).mono ?_
    rintro e V ⟨rfl, hst⟩
    replace hst := hid (bthen hB.out hst)
    go_wp2_with fail
    go_ret
    exact ⟨rfl, hst.out⟩
  have h100 := hid (show l.length ≤ 100 by omega)
  have hw7 := hid (fun x hx => (hwf.out x hx).1)
  have pe := putSS_e a0_0 l
  obtain ⟨⟨L, ee⟩, hr⟩ : ∃ r, putSS a0_0 l = r := ⟨_, rfl⟩
  rw [hr] at pe
  dsimp only at pe
  replace hr := hid hr
  have k4 := hid (fun U h => used_any a0_0 a0_1 cap0_1 l U h h100.out hw7.out)
  have k5 := hid (fun U h => rused_any a0_0 a0_1 cap0_1 l U h h100.out hw7.out)
  obtain ⟨⟨gv, gb⟩, hg⟩ : ∃ g, usedS l = g := ⟨_, rfl⟩
  rw [hg] at k4 k5
  clear hg
  dsimp only at k4 k5
  have z0 := held_cell rm.out 0 _ rfl
  have z1 := held_cell rm.out 1 _ rfl
  go_enter Try.func3, Try.ntmps3
  go_wp2_with fail
  clear hV0
  refine (knows17_any _).mono ?_
  rintro e V1 ⟨rfl, hA⟩
  replace hE := hid (hE.out.below hA)
  replace rm := hid (held_after hA rm.out)
  replace hB := hid (bthen hB.out hA)
  clear hA
  clear z0 z1
  have z0 := held_cell rm.out 0 _ rfl
  have z1 := held_cell rm.out 1 _ rfl
  go_wp2_with fail
  clear z0 z1
  refine (putS_any a0_0 a0_1 cap0_1 l _ hE.out h100.out hly.out hwf.out).mono ?_
  rintro e V2 ⟨r1a, r1c, rfl, hO1, hA⟩
  replace hE := hid (hE.out.below hA)
  replace rm := hid (held_after hA rm.out)
  replace hB := hid (bthen hB.out hA)
  clear hA
  rw [hr.out] at hO1 ⊢
  replace hO1 := hid hO1
  have z0 := held_cell rm.out 0 _ rfl
  have z1 := held_cell rm.out 1 _ rfl
  go_wp2_with fail
  clear z0 z1
  refine (rputS_any a0_0 a0_1 cap0_1 l _ hE.out h100.out hly.out hwf.out).mono ?_
  rintro e V3 ⟨r2a, r2c, rfl, hO2, hA⟩
  replace hE := hid (hE.out.below hA)
  replace hO1 := hid (hO1.out.below hA)
  replace rm := hid (held_after hA rm.out)
  replace hB := hid (bthen hB.out hA)
  clear hA
  rw [hr.out] at hO2 ⊢
  replace hO2 := hid hO2
  have z0 := held_cell rm.out 0 _ rfl
  have z1 := held_cell rm.out 1 _ rfl
  go_wp2_with fail
  clear z0 z1
  refine (k4.out _ hE.out).mono ?_
  rintro e V4 ⟨rfl, hA⟩
  replace hE := hid (hE.out.below hA)
  replace hO1 := hid (hO1.out.below hA)
  replace hO2 := hid (hO2.out.below hA)
  replace rm := hid (held_after hA rm.out)
  replace hB := hid (bthen hB.out hA)
  clear hA
  have z0 := held_cell rm.out 0 _ rfl
  have z1 := held_cell rm.out 1 _ rfl
  go_wp2_with fail
  clear z0 z1
  refine (k5.out _ hE.out).mono ?_
  rintro e V5 ⟨rfl, hA⟩
  replace hE := hid (hE.out.below hA)
  replace hO1 := hid (hO1.out.below hA)
  replace hO2 := hid (hO2.out.below hA)
  replace rm := hid (held_after hA rm.out)
  replace hB := hid (bthen hB.out hA)
  clear hA
  have c1 := txt17 hO1.out.slf
  have c2 := txt17 hO2.out.slf
  try dsimp only at c1 c2
  generalize textOf L = TX at *
  go_wp2_with fail
  refine (num17_any ee _ (by omega) (by omega)).mono ?_
  rintro e V ⟨rfl, rfl⟩
  go_wp2_with fail
  refine (num17_any ee _ (by omega) (by omega)).mono ?_
  rintro e V ⟨rfl, rfl⟩
  go_wp2_with fail
  go_ret
  exact ⟨ret_bool (by simp), hB.out⟩

end Go.Proofs.Ytahjcbdofljfpaa
