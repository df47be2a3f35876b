/- Stage 33: knows; books that there are not. -/
import Derived.Test.YtjeiclfdhdcfnaaGap3
import Derived.WideLaws
import Derived.Laws.Tables
import Derived.Deep.DeepCutAuto
namespace Go.Proofs.Ytjeiclfdhdcfnaa
open Go.ChangeShapes Go.WideShapes Go.ChangeAt Go.RowKit
set_option linter.unusedVariables false
set_option linter.unusedSimpArgs false

theorem held_lt33 {w : World} {k : Nat} {o : Obj} (h : w.heap[k]? = some o) : k < w.heap.size := (Array.getElem?_eq_some_iff.1 h).1
set_option maxRecDepth 100000 in
set_option maxHeartbeats 2000000 in
theorem hear_nil (q y c : Int) (w : World) : Calls Try.prog 8 #[.pointer none, .int .i64 q, .int .i64 y, .int .i64 c] w fun r w' => r = .returned (.tuple #[.int .i64 0, .bool false]) ∧ w' = w := by
  go_enter Try.func8, Try.ntmps8
  go_wp2_with fail
  refine (gright_nil _).mono ?_
  rintro r V ⟨rfl, hv⟩
  obtain rfl : w = V := hv.symm
  clear hv
  go_wp2_with fail
  go_ret2
  exact ⟨rfl, rfl⟩
set_option maxRecDepth 100000 in
set_option maxHeartbeats 2000000 in
theorem gall_nil (w : World) : Calls Try.prog 12 #[.pointer none] w fun r w' => r = .returned (.slice none 0 0) ∧ w' = w := by
  go_enter Try.func12, Try.ntmps12
  go_wp2_with fail
  refine (gright_nil _).mono ?_
  rintro r V ⟨rfl, hv⟩
  obtain rfl : w = V := hv.symm
  clear hv
  go_wp2_with fail
  go_ret
  exact ⟨rfl, rfl⟩
set_option maxRecDepth 100000 in
set_option maxHeartbeats 2000000 in
theorem gsums_nil (w : World) : Calls Try.prog 13 #[.pointer none] w fun r w' => r = .returned (.tuple #[.int .i64 0, .int .i64 0]) ∧ After w w' := by
  have kA := hid (gall_nil w)
  go_enter Try.func13, Try.ntmps13
  go_wp2_with fail
  refine kA.out.mono ?_
  rintro r V ⟨rfl, hv⟩
  obtain rfl : w = V := hv.symm
  clear hv
  go_wp2_with fail
  go_loopw [2, 3, 9] (fun a b ix wr => a = .int .i64 0 ∧ b = .int .i64 0 ∧ ix = .int .i64 0 ∧ After w wr) (fun _ _ _ _ => 0)
  case atStart => exact ⟨rfl, rfl, rfl, Below.refl _ _⟩
  case round =>
    obtain ⟨rfl, rfl, rfl, hA⟩ := hrel
    go_wp2_with fail
    go_ret2
    exact ⟨rfl, hA⟩
set_option maxRecDepth 100000 in
set_option maxHeartbeats 2000000 in
theorem hear_un (B : Nat) (q y c : Int) (w : World) (hb : w.heap[B]? = some (.cells #[.map none] 47 (0, 0))) : Calls Try.prog 8 #[.pointer (some ⟨B, 0, none⟩), .int .i64 q, .int .i64 y, .int .i64 c] w fun r w' => r = .returned (.tuple #[.int .i64 0, .bool false]) ∧ w' = w := by
  replace hb := hid hb
  go_enter Try.func8, Try.ntmps8
  go_wp2_with fail
  refine (gright_un B _ hb.out).mono ?_
  rintro r V ⟨rfl, hv⟩
  obtain rfl : w = V := hv.symm
  clear hv
  go_wp2_with fail
  go_ret2
  exact ⟨rfl, rfl⟩
set_option maxRecDepth 100000 in
set_option maxHeartbeats 2000000 in
theorem gall_un (B : Nat) (w : World) (hb : w.heap[B]? = some (.cells #[.map none] 47 (0, 0))) : Calls Try.prog 12 #[.pointer (some ⟨B, 0, none⟩)] w fun r w' => r = .returned (.slice none 0 0) ∧ w' = w := by
  replace hb := hid hb
  go_enter Try.func12, Try.ntmps12
  go_wp2_with fail
  refine (gright_un B _ hb.out).mono ?_
  rintro r V ⟨rfl, hv⟩
  obtain rfl : w = V := hv.symm
  clear hv
  go_wp2_with fail
  go_ret
  exact ⟨rfl, rfl⟩
set_option maxRecDepth 100000 in
set_option maxHeartbeats 2000000 in
theorem gsums_un (B : Nat) (w : World) (hb : w.heap[B]? = some (.cells #[.map none] 47 (0, 0))) : Calls Try.prog 13 #[.pointer (some ⟨B, 0, none⟩)] w fun r w' => r = .returned (.tuple #[.int .i64 0, .int .i64 0]) ∧ After w w' := by
  have kA := hid (gall_un B w hb)
  clear hb
  go_enter Try.func13, Try.ntmps13
  go_wp2_with fail
  refine kA.out.mono ?_
  rintro r V ⟨rfl, hv⟩
  obtain rfl : w = V := hv.symm
  clear hv
  go_wp2_with fail
  go_loopw [2, 3, 9] (fun a b ix wr => a = .int .i64 0 ∧ b = .int .i64 0 ∧ ix = .int .i64 0 ∧ After w wr) (fun _ _ _ _ => 0)
  case atStart => exact ⟨rfl, rfl, rfl, Below.refl _ _⟩
  case round =>
    obtain ⟨rfl, rfl, rfl, hA⟩ := hrel
    go_wp2_with fail
    go_ret2
    exact ⟨rfl, hA⟩
theorem eff_below33 {M g : Nat} {a b c : World} (h : Below M a b) (k : Eff g b c) (hg : M ≤ g) (hM : M ≤ b.heap.size) : Below M a c := h.trans ⟨k.os, k.tape, k.output, k.size, fun j hj => k.block j (by omega) (by omega)⟩
theorem eff_at33 {B k : Nat} {A A' : World} {o : Obj} (h : Eff B A A') (hk : A.heap[k]? = some o) (hn : k ≠ B) : A'.heap[k]? = some o := (h.block k (held_lt33 hk) hn).trans hk
set_option maxRecDepth 100000 in
set_option maxHeartbeats 8000000 in
theorem knows33_any (w : World) : Calls Try.prog 6 #[] w fun e w' => e = .returned (.bool true) ∧ After w w' := by
  have e1 : hearS [] 5 1 1 = ([⟨1, 1, 5, 1, 0⟩], 0, true) := by kernel_rfl
  have e2 : hearS [⟨1, 1, 5, 1, 0⟩] 7 1 1 = ([⟨1, 1, 7, 2, 1⟩], 1, true) := by kernel_rfl
  have e3 : hearS [⟨1, 1, 7, 2, 1⟩] 7 1 1 = ([⟨1, 1, 7, 3, 256⟩], 255, true) := by kernel_rfl
  replace e1 := hid e1
  replace e2 := hid e2
  replace e3 := hid e3
  go_enter Try.func6, Try.ntmps6
  go_wp2_with fail
  refine (gnew_any _).mono ?_
  rintro r V ⟨B, m, rfl, hb, hm, hA, hwB, hwm⟩
  have hBm : B ≠ m := by
    intro e
    subst e
    rw [hm] at hb
    cases hb
  have hB := hid hA
  have hsz := hA.size
  replace hb := hid hb
  replace hm := hid hm
  clear hA
  have kH := hear_any B m [] 5 1 1 _ hb.out hm.out (by intro x hx; simp at hx; try (subst hx; decide))
  rw [e1.out] at kH
  dsimp only at kH
  replace kH := hid kH
  go_wp2_with fail
  refine kH.out.mono ?_
  rintro r V0 ⟨rfl, hm0, hE⟩
  replace hb := hid (eff_at33 hE hb.out hBm)
  replace hB := hid (eff_below33 hB.out hE hwm hB.out.size)
  replace hm := hid hm0
  clear hE hm0 kH
  have kH := hear_any B m [⟨1, 1, 5, 1, 0⟩] 7 1 1 _ hb.out hm.out (by intro x hx; simp at hx; try (subst hx; decide))
  rw [e2.out] at kH
  dsimp only at kH
  replace kH := hid kH
  go_wp2_with fail
  refine kH.out.mono ?_
  rintro r V1 ⟨rfl, hm1, hE⟩
  replace hb := hid (eff_at33 hE hb.out hBm)
  replace hB := hid (eff_below33 hB.out hE hwm hB.out.size)
  replace hm := hid hm1
  clear hE hm1 kH
  have kH := hear_any B m [⟨1, 1, 7, 2, 1⟩] 7 1 1 _ hb.out hm.out (by intro x hx; simp at hx; try (subst hx; decide))
  rw [e3.out] at kH
  dsimp only at kH
  replace kH := hid kH
  go_wp2_with fail
  refine kH.out.mono ?_
  rintro r V2 ⟨rfl, hm2, hE⟩
  replace hb := hid (eff_at33 hE hb.out hBm)
  replace hB := hid (eff_below33 hB.out hE hwm hB.out.size)
  replace hm := hid hm2
  clear hE hm2 kH
  go_wp2_with fail
  go_ret
  exact ⟨rfl, hB.out⟩

end Go.Proofs.Ytjeiclfdhdcfnaa
