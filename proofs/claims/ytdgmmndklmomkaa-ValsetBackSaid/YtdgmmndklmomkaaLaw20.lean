/- The laws of layer 20: knows, ValsetPuts. -/
import Derived.Test.YtdgmmndklmomkaaValM
import Derived.Deep.DeepCutAuto
namespace Go.Proofs.Ytdgmmndklmomkaa
open Go.ChangeShapes Go.WideShapes Go.ChangeAt Go.RowKit
set_option linter.unusedVariables false
set_option linter.unusedSimpArgs false

theorem txt20 {w : World} {a : Option Addr} {len cap : Nat} {zs : List Int} (h : Sl .u8 w a len cap zs) : (convert 26 9 (.slice a len cap)).run Try.prog w = .ok (.string (textOf zs)) w :=
  h.text 26 9 5 Try.underlying26 Try.underlying5 Try.underlying9
theorem num20_any (n : Int) (w : World) (h1 : -9223372036854775808 ≤ n) (h2 : n ≤ 9223372036854775807) :
    Calls Try.prog 13 #[.int .i64 n] w fun e w' => e = .returned (.int .i64 n) ∧ w' = w := by
  go_enter Try.func13, Try.ntmps13
  go_wp2_with fail
  go_ret
  exact ⟨rfl, rfl⟩
theorem els_pairs : ∀ {x : List (List Value)}, (∀ y ∈ x, ∃ (c0 : Int) (c1 : Int), y = [.int .i64 c0, .int .i64 c1] ∧ ((Lit.int .i64 c0).wf = true) ∧ ((Lit.int .i64 c1).wf = true)) → ∃ l : List (Int × Int), x = prsV l ∧ ∀ z ∈ l, (-9223372036854775808 ≤ z.1 ∧ z.1 ≤ 9223372036854775807) ∧ (-9223372036854775808 ≤ z.2 ∧ z.2 ≤ 9223372036854775807)
  | [], _ => ⟨[], rfl, fun z hz => by cases hz⟩
  | y :: x, h => by
    obtain ⟨c0, c1, rfl, h0, h1⟩ := h y (by simp)
    obtain ⟨l, rfl, hl⟩ := els_pairs (x := x) (fun z hz => h z (List.mem_cons_of_mem _ hz))
    refine ⟨(c0, c1) :: l, rfl, fun z hz => ?_⟩
    rcases List.mem_cons.1 hz with rfl | hz
    · exact ⟨bounds_i64 h0, bounds_i64 h1⟩
    · exact hl z hz
set_option maxRecDepth 100000 in
set_option maxHeartbeats 2000000 in
theorem knows20_any (w : World) : Calls Try.prog 6 #[] w fun e w' => e = .returned (.bool true) ∧ Below w.heap.size w w' := by
  have e1 : putVS 1 [(268435457, 1)] = ([0, 1, 0, 0, 1, 0, 0, 16, 1], 0) := by decide +kernel
  replace e1 := hid e1
  have s1 := hid (els_one w #[.int .i64 268435457, .int .i64 1] 43 2 rfl)
  have hA := hid (alloc_new w (.cells #[.int .i64 268435457, .int .i64 1] 43)).2.1
  have hw1 := hid (show ∀ x ∈ [((268435457 : Int), (1 : Int))], (-9223372036854775808 ≤ x.1 ∧ x.1 ≤ 9223372036854775807) ∧ (-9223372036854775808 ≤ x.2 ∧ x.2 ≤ 9223372036854775807) from by intro x hx; simp at hx; subst hx; decide)
  go_enter Try.func6, Try.ntmps6
  go_wp2_with fail
  refine (putV_any 1 (some ⟨w.heap.size, 0, none⟩) 1 1 [(268435457, 1)] _ s1.out rfl (by omega) (by omega) hw1.out).mono ?_
  rintro e w1 ⟨a1, c1, rfl, hO, hB⟩
  rw [e1.out] at hO ⊢
  have sO : Sl .u8 w1 a1 9 c1 [0, 1, 0, 0, 1, 0, 0, 16, 1] := hO.slf
  have t1 := txt20 sO
  have t2 := txt20 (row_lit .u8 5 w1 [0, 1, 0, 0, 1, 0, 0, 16, 1] #[.int .u8 0, .int .u8 1, .int .u8 0, .int .u8 0, .int .u8 1, .int .u8 0, .int .u8 0, .int .u8 16, .int .u8 1] 9 w1.heap.size rfl rfl (by unfold maxLen; omega) rfl)
  have hA2 := hid (bthen hA.out (bthen hB (alloc_new w1 (.cells #[.int .u8 0, .int .u8 1, .int .u8 0, .int .u8 0, .int .u8 1, .int .u8 0, .int .u8 0, .int .u8 16, .int .u8 1] 5)).2.1))
  clear hB hA s1 hO sO
  generalize textOf [0, 1, 0, 0, 1, 0, 0, 16, 1] = TX at *
  go_wp2_with fail
  refine (num20_any 0 _ (by omega) (by omega)).mono ?_
  rintro e V ⟨rfl, rfl⟩
  go_wp2_with fail
  go_ret
  exact ⟨rfl, hA2.out⟩
set_option maxRecDepth 100000 in
set_option maxHeartbeats 8000000 in
theorem law_ValsetPuts (a0_0 : Int) (a0_1 : Option Addr) (len0_1 cap0_1 : Nat) (x0_1 : List (List Value)) (a1 : Int) (W : World) (w0_0 : (Lit.int .i64 a0_0).wf = true) (w0_1 : Els W 2 a0_1 len0_1 cap0_1 x0_1) (t0_1 : ∀ x ∈ x0_1, (∃ (c0 : Int) (c1 : Int), x = [.int .i64 c0, .int .i64 c1] ∧ ((Lit.int .i64 c0).wf = true) ∧ ((Lit.int .i64 c1).wf = true))) (w1 : (Lit.int .i64 a1).wf = true) :
    Calls Try.prog 3 #[.agg #[.int .i64 a0_0, .slice a0_1 len0_1 cap0_1], .int .i64 a1] W fun e w' => e = .returned (.bool true) ∧ Below W.heap.size W w' := by
  have hly := hid (bounds_i64 w0_0)
  obtain ⟨l, rfl, hwf⟩ := els_pairs t0_1
  obtain rfl : l.length = len0_1 := by have := w0_1.1; simpa [prsV] using this
  replace hwf := hid hwf
  have nw := alloc_new W (.cells #[.int .i64 a0_0, .slice a0_1 l.length cap0_1] 24)
  have hB := hid nw.2.1
  have rm := hid nw.2.2
  have hE := hid (w0_1.below nw.2.1)
  clear nw w0_0 w0_1 t0_1
  obtain ⟨V0, hV0⟩ : ∃ X, W.alloc (.cells #[.int .i64 a0_0, .slice a0_1 l.length cap0_1] 24) = X := ⟨_, rfl⟩
  rw [hV0] at hB rm hE
  have b1 := bounds_i64 w1
  clear w1
  by_cases cb : (40 : Int) < l.length
  case pos =>
    have z0 := held_cell rm.out 0 _ rfl
    have z1 := held_cell rm.out 1 _ rfl
    go_enter Try.func3, Try.ntmps3
    go_wp2_with fail
    refine (knows20_any _).mono ?_
    rintro e V ⟨rfl, hst⟩
    replace hst := hid (bthen hB.out hst)
    go_wp2_with fail
    go_ret
    exact ⟨rfl, hst.out⟩
  have h40 := hid (show l.length ≤ 40 by omega)
  have pe := putVS_e a0_0 l
  obtain ⟨⟨L, ee⟩, hr⟩ : ∃ r, putVS a0_0 l = r := ⟨_, rfl⟩
  rw [hr] at pe
  dsimp only at pe
  replace hr := hid hr
  have k0 := hid (fun U => vsize_any a1 U b1.1 b1.2)
  have k1 := hid (fun U => vrsize_any a1 U b1.1 b1.2)
  have k2 := hid (fun U => vmost_any a1 U b1.1 b1.2)
  have k3 := hid (fun U => vrmost_any a1 U b1.1 b1.2)
  obtain ⟨BD, hBD⟩ : ∃ b, decide (kindS a1 ≠ 0) = b := ⟨_, rfl⟩
  rw [hBD] at k0 k1
  clear hBD
  generalize szT (kindS a1) = SZ at *
  generalize moT (kindS a1) = MO at *
  have k4 := hid (fun U h => getV_any a0_0 a0_1 cap0_1 l a1 U h h40.out)
  have k5 := hid (fun U h => rgetV_any a0_0 a0_1 cap0_1 l a1 U h h40.out)
  obtain ⟨⟨gv, gb⟩, hg⟩ : ∃ g, vgS l a1 = g := ⟨_, rfl⟩
  rw [hg] at k4 k5
  clear hg
  dsimp only at k4 k5
  clear b1
  have z0 := held_cell rm.out 0 _ rfl
  have z1 := held_cell rm.out 1 _ rfl
  go_enter Try.func3, Try.ntmps3
  go_wp2_with fail
  clear hV0
  refine (knows20_any _).mono ?_
  rintro e V1 ⟨rfl, hA⟩
  replace hE := hid (hE.out.below hA)
  replace rm := hid (held_after hA rm.out)
  replace hB := hid (bthen hB.out hA)
  clear hA
  clear z0 z1
  have z0 := held_cell rm.out 0 _ rfl
  have z1 := held_cell rm.out 1 _ rfl
  go_wp2_with fail
  clear z0 z1
  refine (putV_any a0_0 a0_1 l.length cap0_1 l _ hE.out rfl h40.out hly.out hwf.out).mono ?_
  rintro e V2 ⟨r1a, r1c, rfl, hO1, hA⟩
  replace hE := hid (hE.out.below hA)
  replace rm := hid (held_after hA rm.out)
  replace hB := hid (bthen hB.out hA)
  clear hA
  rw [hr.out] at hO1 ⊢
  replace hO1 := hid hO1
  have z0 := held_cell rm.out 0 _ rfl
  have z1 := held_cell rm.out 1 _ rfl
  go_wp2_with fail
  clear z0 z1
  refine (rputV_any a0_0 a0_1 l.length cap0_1 l _ hE.out rfl h40.out hly.out hwf.out).mono ?_
  rintro e V3 ⟨r2a, r2c, rfl, hO2, hA⟩
  replace hE := hid (hE.out.below hA)
  replace hO1 := hid (hO1.out.below hA)
  replace rm := hid (held_after hA rm.out)
  replace hB := hid (bthen hB.out hA)
  clear hA
  rw [hr.out] at hO2 ⊢
  replace hO2 := hid hO2
  go_wp2_with fail
  refine (k0.out _).mono ?_
  rintro e V4 ⟨rfl, hA⟩
  replace hE := hid (hE.out.below hA)
  replace hO1 := hid (hO1.out.below hA)
  replace hO2 := hid (hO2.out.below hA)
  replace rm := hid (held_after hA rm.out)
  replace hB := hid (bthen hB.out hA)
  clear hA
  go_wp2_with fail
  refine (k1.out _).mono ?_
  rintro e V5 ⟨rfl, hA⟩
  replace hE := hid (hE.out.below hA)
  replace hO1 := hid (hO1.out.below hA)
  replace hO2 := hid (hO2.out.below hA)
  replace rm := hid (held_after hA rm.out)
  replace hB := hid (bthen hB.out hA)
  clear hA
  have z0 := held_cell rm.out 0 _ rfl
  have z1 := held_cell rm.out 1 _ rfl
  go_wp2_with fail
  clear z0 z1
  refine (k4.out _ hE.out).mono ?_
  rintro e V6 ⟨rfl, hA⟩
  replace hE := hid (hE.out.below hA)
  replace hO1 := hid (hO1.out.below hA)
  replace hO2 := hid (hO2.out.below hA)
  replace rm := hid (held_after hA rm.out)
  replace hB := hid (bthen hB.out hA)
  clear hA
  have z0 := held_cell rm.out 0 _ rfl
  have z1 := held_cell rm.out 1 _ rfl
  go_wp2_with fail
  clear z0 z1
  refine (k5.out _ hE.out).mono ?_
  rintro e V7 ⟨rfl, hA⟩
  replace hE := hid (hE.out.below hA)
  replace hO1 := hid (hO1.out.below hA)
  replace hO2 := hid (hO2.out.below hA)
  replace rm := hid (held_after hA rm.out)
  replace hB := hid (bthen hB.out hA)
  clear hA
  have c1 := txt20 hO1.out.slf
  have c2 := txt20 hO2.out.slf
  try dsimp only at c1 c2
  generalize textOf L = TX at *
  go_wp2_with fail
  refine (num20_any ee _ (by omega) (by omega)).mono ?_
  rintro e V ⟨rfl, rfl⟩
  go_wp2_with fail
  refine (num20_any ee _ (by omega) (by omega)).mono ?_
  rintro e V ⟨rfl, rfl⟩
  go_wp2_with fail
  refine (k2.out _).mono ?_
  rintro e V8 ⟨rfl, hA⟩
  replace hE := hid (hE.out.below hA)
  replace hO1 := hid (hO1.out.below hA)
  replace hO2 := hid (hO2.out.below hA)
  replace rm := hid (held_after hA rm.out)
  replace hB := hid (bthen hB.out hA)
  clear hA
  go_wp2_with fail
  refine (k3.out _).mono ?_
  rintro e V9 ⟨rfl, hA⟩
  replace hE := hid (hE.out.below hA)
  replace hO1 := hid (hO1.out.below hA)
  replace hO2 := hid (hO2.out.below hA)
  replace rm := hid (held_after hA rm.out)
  replace hB := hid (bthen hB.out hA)
  clear hA
  go_wp2_with fail
  go_ret
  exact ⟨ret_bool (by simp), hB.out⟩

end Go.Proofs.Ytdgmmndklmomkaa
