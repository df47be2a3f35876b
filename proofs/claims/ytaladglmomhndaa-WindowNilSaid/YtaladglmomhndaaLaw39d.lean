/- Laws of package window: WindowNil. -/
import Derived.Test.YtaladglmomhndaaLaw39
import Derived.Deep.DeepCutAuto
namespace Go.Proofs.Ytaladglmomhndaa
open Go.ChangeShapes Go.WideShapes Go.ChangeAt Go.RowKit
set_option linter.unusedVariables false
set_option linter.unusedSimpArgs false

/-- No window: nil, or one that New did not make. -/
def NoW (p : Option Addr) (w : World) : Prop := p = none ∨ ∃ B, p = some ⟨B, 0, none⟩ ∧ w.cell? ⟨B, 0, none⟩ = some (.bool false)
theorem NoW.after {p : Option Addr} {a b : World} (h : NoW p a) (hA : After a b) : NoW p b := by
  rcases h with h | ⟨B, h1, h2⟩
  · exact .inl h
  · exact .inr ⟨B, h1, (Below.cell hA (World.block_lt_of_cell? a _ h2)).trans h2⟩
theorem nright_any (p : Option Addr) (w : World) (hW : NoW p w) : Calls Try.prog 17 #[.pointer p] w fun e w' => e = .returned (.bool false) ∧ w' = w := by
  rcases hW with rfl | ⟨B, rfl, z0⟩
  · go_enter Try.func17, Try.ntmps17
    go_wp2_with fail
    go_ret
    exact ⟨rfl, rfl⟩
  · go_enter Try.func17, Try.ntmps17
    go_wp2_with fail
    go_ret
    exact ⟨rfl, rfl⟩
theorem nlen_any (p : Option Addr) (w : World) (hW : NoW p w) : Calls Try.prog 14 #[.pointer p] w fun e w' => e = .returned (.int .i64 0) ∧ w' = w := by
  replace hW := hid hW
  go_enter Try.func14, Try.ntmps14
  go_wp2_with fail
  refine (nright_any p w hW.out).mono ?_
  rintro e v1 ⟨rfl, hv⟩
  obtain rfl : w = v1 := hv.symm
  clear hv
  go_wp2_with fail
  go_ret
  exact ⟨rfl, rfl⟩
theorem nroom_any (p : Option Addr) (w : World) (hW : NoW p w) : Calls Try.prog 15 #[.pointer p] w fun e w' => e = .returned (.int .i64 0) ∧ w' = w := by
  replace hW := hid hW
  go_enter Try.func15, Try.ntmps15
  go_wp2_with fail
  refine (nright_any p w hW.out).mono ?_
  rintro e v1 ⟨rfl, hv⟩
  obtain rfl : w = v1 := hv.symm
  clear hv
  go_wp2_with fail
  go_ret
  exact ⟨rfl, rfl⟩
theorem nput_any (p : Option Addr) (a : Option Addr) (len cap : Nat) (w : World) (hW : NoW p w) : Calls Try.prog 11 #[.pointer p, .slice a len cap] w fun e w' => e = .returned (.int .i64 0) ∧ w' = w := by
  replace hW := hid hW
  go_enter Try.func11, Try.ntmps11
  go_wp2_with fail
  refine (nright_any p w hW.out).mono ?_
  rintro e v1 ⟨rfl, hv⟩
  obtain rfl : w = v1 := hv.symm
  clear hv
  go_wp2_with fail
  go_ret
  exact ⟨rfl, rfl⟩
theorem nfirst_any (p : Option Addr) (w : World) (hW : NoW p w) : Calls Try.prog 13 #[.pointer p] w fun e w' => e = .returned (.tuple #[.int .u8 0, .bool false]) ∧ w' = w := by
  replace hW := hid hW
  go_enter Try.func13, Try.ntmps13
  go_wp2_with fail
  refine (nlen_any p w hW.out).mono ?_
  rintro e v1 ⟨rfl, hv⟩
  obtain rfl : w = v1 := hv.symm
  clear hv
  go_wp2_with fail
  go_ret2
  exact ⟨rfl, rfl⟩
theorem ndrop_any (p : Option Addr) (n : Int) (w : World) (hW : NoW p w) : Calls Try.prog 9 #[.pointer p, .int .i64 n] w fun e w' => e = .returned (.int .i64 0) ∧ w' = w := by
  replace hW := hid hW
  obtain ⟨q, hq2⟩ : ∃ q, (if (0 : Int) < n then (0 : Int) else n) = q := ⟨_, rfl⟩
  have hq : q ≤ 0 := by rw [← hq2]; split <;> omega
  have nq : ¬ (0 : Int) < q := by omega
  go_enter Try.func9, Try.ntmps9
  go_wp2_with fail
  refine (nlen_any p w hW.out).mono ?_
  rintro e v1 ⟨rfl, hv⟩
  obtain rfl : w = v1 := hv.symm
  clear hv
  go_wp2_with fail
  all_goals go_ret
  all_goals exact ⟨rfl, rfl⟩
theorem npeek_any (p : Option Addr) (w : World) (hW : NoW p w) : Calls Try.prog 16 #[.pointer p] w fun e w' => e = .returned (.slice (some ⟨w.heap.size, 0, none⟩) 0 0) ∧ After w w' := by
  replace hW := hid hW
  go_enter Try.func16, Try.ntmps16
  go_wp2_with fail
  refine (nlen_any p w hW.out).mono ?_
  rintro e v1 ⟨rfl, hv⟩
  obtain rfl : w = v1 := hv.symm
  clear hv
  go_wp2_with (first | (at_make; refine wpList_make w w rfl (.tmp 6) (.tmp 6) 27 rfl w.heap.size 5 .u8 1 bytesOf 0 rfl rfl (by omega) (by unfold maxLen; omega) (Below.refl _ _) (Nat.le_refl _) ?_))
  intro V1 hRow hA1
  replace hA1 := hid hA1
  clear hRow
  go_wp2_with fail
  go_ret
  exact ⟨rfl, hA1.out⟩
set_option maxRecDepth 100000 in
set_option maxHeartbeats 8000000 in
theorem law_WindowNil (a0 : Option Addr) (len0 cap0 : Nat) (z0 : List Int) (a1 : Int) (W : World) (w0 : IsRow .u8 W a0 len0 cap0 z0) (w1 : (Lit.int .i64 a1).wf = true) :
    Calls Try.prog 5 #[.slice a0 len0 cap0, .int .i64 a1] W fun e w' => e = .returned (.bool true) ∧ Below W.heap.size W w' := by
  clear w0 w1
  by_cases cb : (2000 : Int) < len0
  case pos =>
    go_enter Try.func5, Try.ntmps5
    go_wp2_with fail
    refine (knows39_any _).mono ?_
    rintro e V ⟨rfl, hst⟩
    replace hst := hid hst
    go_wp2_with fail
    go_ret
    exact ⟨rfl, hst.out⟩
  obtain ⟨C, hC⟩ : ∃ C, (wdC (List.replicate 1024 0) 0 0).setIfInBounds 0 (.bool false) = C := ⟨_, rfl⟩
  have hbz := built_zero
  have hC0 : ((wdC (List.replicate 1024 0) 0 0).setIfInBounds 0 (.bool false))[0]? = some (.bool false) := by unfold wdC; rfl
  rw [hC] at hbz hC0
  clear hC
  replace hbz := hid hbz
  replace hC0 := hid hC0
  go_enter Try.func5, Try.ntmps5
  go_wp2_with fail
  go_loopw [5, 6] (fun pv ix wr => ∃ (k : Nat) (p : Option Addr), ix = .int .i64 k ∧ pv = .pointer p ∧ k ≤ 2 ∧ NoW p wr ∧ After W wr) (fun _ ix _ => 2 - (intOf ix).toNat)
  case atStart => exact ⟨0, none, rfl, rfl, by omega, .inl rfl, Below.refl _ _⟩
  case round =>
    obtain ⟨k, p, rfl, rfl, hk, hW, hA⟩ := hrel
    replace hW := hid hW
    replace hA := hid hA
    by_cases hlt : (k : Int) < 2
    case neg =>
      go_wp2_with fail
      refine (knows39_any _).mono ?_
      rintro e V ⟨rfl, hst⟩
      have hB := hid (bthen hA.out hst)
      clear hst
      go_wp2_with fail
      go_ret
      exact ⟨rfl, hB.out⟩
    have kz : (0 : Int) ≤ k := by omega
    have wk : IntKind.i64.wrap ((k : Int) + 1) = (k : Int) + 1 := by rw [IntKind.wrap_i64]; omega
    have hk1 := hid (show k + 1 ≤ 2 by omega)
    clear hk
    go_wp2_with fail
    refine (nfirst_any p wr hW.out).mono ?_
    rintro e v1 ⟨rfl, hv⟩
    obtain rfl : wr = v1 := hv.symm
    clear hv
    go_wp2_with fail
    refine (nput_any p a0 len0 cap0 wr hW.out).mono ?_
    rintro e v1 ⟨rfl, hv⟩
    obtain rfl : wr = v1 := hv.symm
    clear hv
    go_wp2_with fail
    refine (ndrop_any p a1 wr hW.out).mono ?_
    rintro e v1 ⟨rfl, hv⟩
    obtain rfl : wr = v1 := hv.symm
    clear hv
    go_wp2_with fail
    refine (nlen_any p wr hW.out).mono ?_
    rintro e v1 ⟨rfl, hv⟩
    obtain rfl : wr = v1 := hv.symm
    clear hv
    go_wp2_with fail
    refine (nroom_any p wr hW.out).mono ?_
    rintro e v1 ⟨rfl, hv⟩
    obtain rfl : wr = v1 := hv.symm
    clear hv
    go_wp2_with fail
    refine (npeek_any p wr hW.out).mono ?_
    rintro e v2 ⟨rfl, hA2⟩
    replace hA := hid (bthen hA.out hA2)
    clear hA2 hW
    go_upto_region 10 with (fail)
    refine wp_region_lit ?_
    refine wpList_built rfl 41 #[] rfl C (by simp [Act.eval]; exact hbz.out) ?_
    have nE := alloc_new v2 (.cells C 41)
    have hA3 := hid (bthen hA.out nE.2.1)
    have hN := hid (show NoW (some ⟨v2.heap.size, 0, none⟩) (v2.alloc (.cells C 41)) from .inr ⟨_, rfl, held_cell nE.2.2 0 _ hC0.out⟩)
    clear nE hA
    go_wp2_with fail
    go_roundw
    case rel => exact ⟨k + 1, _, by simp, rfl, hk1.out, hN.out, hA3.out⟩
    case measure => simp [intOf]; omega

end Go.Proofs.Ytaladglmomhndaa
