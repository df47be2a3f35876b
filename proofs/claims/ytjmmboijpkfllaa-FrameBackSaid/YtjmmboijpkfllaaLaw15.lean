/- The laws of layer 15: knows, FramePuts. -/
import Derived.Test.YtjmmboijpkfllaaFrame2
import Derived.Test.YtjmmboijpkfllaaKA
import Derived.Deep.DeepCutAuto
namespace Go.Proofs.Ytjmmboijpkfllaa
open Go.ChangeShapes Go.WideShapes Go.ChangeAt Go.RowKit
set_option linter.unusedVariables false

theorem txt15 {w : World} {a : Option Addr} {len cap : Nat} {zs : List Int} (h : Sl .u8 w a len cap zs) : (convert 22 9 (.slice a len cap)).run Try.prog w = .ok (.string (textOf zs)) w :=
  h.text 22 9 5 Try.underlying22 Try.underlying5 Try.underlying9
theorem num15_any (n : Int) (w : World) (h1 : -9223372036854775808 ≤ n) (h2 : n ≤ 9223372036854775807) :
    Calls Try.prog 10 #[.int .i64 n] w fun e w' => e = .returned (.int .i64 n) ∧ w' = w := by
  go_enter Try.func10, Try.ntmps10
  go_wp2_with fail
  go_ret
  exact ⟨rfl, rfl⟩
theorem row_of (k : IntKind) (E : TypeId) (w : World) (zs : List Int) (c : Array Value) (n p : Nat) (hc : c = (zs.map (Value.int k)).toArray) (hn : zs.length = n) (hm : n ≤ maxLen) (hp : p = w.heap.size) : Sl k (w.alloc (.cells c E)) (some ⟨p, 0, none⟩) n n zs := by
  subst hc hn hp
  exact Row.sl (show Row k E (w.alloc (.cells (zs.map (Value.int k)).toArray E)) w.heap.size zs from (alloc_new w _).2.2) hm
set_option maxRecDepth 100000 in
set_option maxHeartbeats 2000000 in
theorem knows15_any (w : World) : Calls Try.prog 7 #[] w fun e w' => e = .returned (.bool true) ∧ Below w.heap.size w w' := by
  have e1 : putFr 6 1 [240, 1] = ([181, 98, 6, 1, 2, 0, 240, 1, 250, 18], 0) := by decide +kernel
  replace e1 := hid e1
  have s1 := hid (row_of .u8 5 w [240, 1] #[.int .u8 240, .int .u8 1] 2 w.heap.size rfl rfl (by unfold maxLen; omega) rfl)
  have hA := hid (alloc_new w (.cells #[.int .u8 240, .int .u8 1] 5)).2.1
  go_enter Try.func7, Try.ntmps7
  go_wp2_with fail
  refine (fput_any 6 1 (some ⟨w.heap.size, 0, none⟩) 2 2 [240, 1] _ (by omega) s1.out (by decide)).mono ?_
  rintro e w1 ⟨a1, c1, rfl, hO, hB⟩
  rw [e1.out] at hO ⊢
  have sO : Sl .u8 w1 a1 10 c1 [181, 98, 6, 1, 2, 0, 240, 1, 250, 18] := hO.slf
  have t1 := txt15 sO
  have t2 := txt15 (row_of .u8 5 w1 [181, 98, 6, 1, 2, 0, 240, 1, 250, 18] #[.int .u8 181, .int .u8 98, .int .u8 6, .int .u8 1, .int .u8 2, .int .u8 0, .int .u8 240, .int .u8 1, .int .u8 250, .int .u8 18] 10 w1.heap.size rfl rfl (by unfold maxLen; omega) rfl)
  have hA2 := hid (bthen hA.out (bthen hB (alloc_new w1 (.cells #[.int .u8 181, .int .u8 98, .int .u8 6, .int .u8 1, .int .u8 2, .int .u8 0, .int .u8 240, .int .u8 1, .int .u8 250, .int .u8 18] 5)).2.1))
  clear hB hA s1 hO sO
  generalize textOf [181, 98, 6, 1, 2, 0, 240, 1, 250, 18] = TX at *
  go_wp2_with fail
  refine (num15_any 0 _ (by omega) (by omega)).mono ?_
  rintro e V ⟨rfl, rfl⟩
  go_wp2_with fail
  go_ret
  exact ⟨rfl, hA2.out⟩
theorem putFr_e (c i : Int) (zs : List Int) : 0 ≤ (putFr c i zs).2 ∧ (putFr c i zs).2 ≤ 9 := by
  unfold putFr; split
  · split <;> simp
  · simp
set_option maxRecDepth 100000 in
set_option maxHeartbeats 8000000 in
theorem law_FramePuts (a0_0 a0_1 : Int) (a0_2 : Option Addr) (len0_2 cap0_2 : Nat) (z0_2 : List Int) (a1 : Int) (W : World) (w0_0 : (Lit.int .i64 a0_0).wf = true) (w0_1 : (Lit.int .i64 a0_1).wf = true) (w0_2 : IsRow .u8 W a0_2 len0_2 cap0_2 z0_2) (w1 : (Lit.int .i64 a1).wf = true) :
    Calls Try.prog 3 #[.agg #[.int .i64 a0_0, .int .i64 a0_1, .slice a0_2 len0_2 cap0_2], .int .i64 a1] W fun e w' => e = .returned (.bool true) ∧ Below W.heap.size W w' := by
  have b1 := bounds_i64 w1
  clear w0_0 w0_1 w1
  obtain ⟨hs1, hw1⟩ := w0_2.sl
  generalize z0_2.take len0_2 = zs at hs1 hw1
  clear w0_2
  replace hs1 := hid hs1
  replace hw1 := hid hw1
  have nw := alloc_new W (.cells #[.int .i64 a0_0, .int .i64 a0_1, .slice a0_2 len0_2 cap0_2] 24)
  have hB := hid nw.2.1
  have rm := hid nw.2.2
  have z0 := held_cell nw.2.2 0 _ rfl
  have z1 := held_cell nw.2.2 1 _ rfl
  have z2 := held_cell nw.2.2 2 _ rfl
  clear nw
  obtain ⟨V0, hV0⟩ : ∃ X, W.alloc (.cells #[.int .i64 a0_0, .int .i64 a0_1, .slice a0_2 len0_2 cap0_2] 24) = X := ⟨_, rfl⟩
  rw [hV0] at hB rm z0 z1 z2
  by_cases cb : (1100 : Int) < len0_2
  case pos =>
    go_enter Try.func3, Try.ntmps3
    go_wp2_with fail
    refine (knows15_any _).mono ?_
    rintro e V ⟨rfl, hst⟩
    replace hst := hid (bthen hB.out hst)
    go_wp2_with fail
    go_ret
    exact ⟨rfl, hst.out⟩
  have hl : len0_2 ≤ 1000000 := by omega
  have pe := putFr_e a0_0 a0_1 zs
  obtain ⟨⟨L, ee⟩, hr⟩ : ∃ r, putFr a0_0 a0_1 zs = r := ⟨_, rfl⟩
  rw [hr] at pe
  dsimp only at pe
  replace hr := hid hr
  have kz := hid (fun U => fsize_any a1 U)
  have hsz : sizeS a1 = if 0 ≤ a1 ∧ a1 ≤ 1016 then a1 + 8 else 0 := rfl
  have hsb : 0 ≤ sizeS a1 ∧ sizeS a1 ≤ 2000 := by rw [hsz]; split <;> omega
  generalize sizeS a1 = SZ at *
  go_enter Try.func3, Try.ntmps3
  go_wp2_with fail
  refine (knows15_any _).mono ?_
  rintro e V1 ⟨rfl, hA⟩
  clear hV0
  clear z0 z1 z2
  replace rm := hid (held_after hA rm.out)
  replace hB := hid (bthen hB.out hA)
  clear hA
  have z0 := held_cell rm.out 0 _ rfl
  have z1 := held_cell rm.out 1 _ rfl
  have z2 := held_cell rm.out 2 _ rfl
  go_wp2_with fail
  clear z0 z1 z2
  refine (fput_any a0_0 a0_1 a0_2 len0_2 cap0_2 zs _ hl (hs1.out.below hB.out) hw1.out).mono ?_
  rintro e V2 ⟨r1a, r1c, rfl, hO1, hA⟩
  replace rm := hid (held_after hA rm.out)
  replace hB := hid (bthen hB.out hA)
  clear hA
  rw [hr.out] at hO1 ⊢
  replace hO1 := hid hO1
  have z0 := held_cell rm.out 0 _ rfl
  have z1 := held_cell rm.out 1 _ rfl
  have z2 := held_cell rm.out 2 _ rfl
  go_wp2_with fail
  clear z0 z1 z2
  refine (rfput_any a0_0 a0_1 a0_2 len0_2 cap0_2 zs _ hl (hs1.out.below hB.out) hw1.out).mono ?_
  rintro e V3 ⟨r2a, r2c, rfl, hO2, hA⟩
  replace hO1 := hid (hO1.out.below hA)
  replace rm := hid (held_after hA rm.out)
  replace hB := hid (bthen hB.out hA)
  clear hA
  rw [hr.out] at hO2 ⊢
  replace hO2 := hid hO2
  have c1 := txt15 hO1.out.slf
  have c2 := txt15 hO2.out.slf
  try dsimp only at c1 c2
  generalize textOf L = TX at *
  by_cases h1 : 0 ≤ a1
  · by_cases h2 : a1 ≤ 1016
    · rw [if_pos (by omega)] at hsz
      replace hsz := hid hsz
      have w8 : IntKind.i64.wrap (a1 + 8) = SZ := by rw [hsz.out, IntKind.wrap_i64]; omega
      go_wp2_with fail
      refine (num15_any ee _ (by omega) (by omega)).mono ?_
      rintro e V ⟨rfl, rfl⟩
      go_wp2_with fail
      refine (num15_any ee _ (by omega) (by omega)).mono ?_
      rintro e V ⟨rfl, rfl⟩
      go_wp2_with fail
      refine (kz.out _).mono ?_
      rintro e V ⟨rfl, rfl⟩
      go_wp2_with fail
      go_ret
      exact ⟨ret_bool (by simp), hB.out⟩
    · rw [if_neg (by omega)] at hsz
      replace hsz := hid hsz
      obtain rfl : SZ = 0 := hsz.out
      go_wp2_with fail
      refine (num15_any ee _ (by omega) (by omega)).mono ?_
      rintro e V ⟨rfl, rfl⟩
      go_wp2_with fail
      refine (num15_any ee _ (by omega) (by omega)).mono ?_
      rintro e V ⟨rfl, rfl⟩
      go_wp2_with fail
      refine (kz.out _).mono ?_
      rintro e V ⟨rfl, rfl⟩
      go_wp2_with fail
      go_ret
      exact ⟨ret_bool (by simp), hB.out⟩
  · rw [if_neg (by omega)] at hsz
    replace hsz := hid hsz
    obtain rfl : SZ = 0 := hsz.out
    go_wp2_with fail
    refine (num15_any ee _ (by omega) (by omega)).mono ?_
    rintro e V ⟨rfl, rfl⟩
    go_wp2_with fail
    refine (num15_any ee _ (by omega) (by omega)).mono ?_
    rintro e V ⟨rfl, rfl⟩
    go_wp2_with fail
    refine (kz.out _).mono ?_
    rintro e V ⟨rfl, rfl⟩
    go_wp2_with fail
    go_ret
    exact ⟨ret_bool (by simp), hB.out⟩

end Go.Proofs.Ytjmmboijpkfllaa
