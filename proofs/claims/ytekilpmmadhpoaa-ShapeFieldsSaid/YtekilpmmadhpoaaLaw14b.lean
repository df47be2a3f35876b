/- The laws of layer 14. -/
import Derived.Test.YtekilpmmadhpoaaLaw14
import Derived.Deep.DeepCutAuto
namespace Go.Proofs.Ytekilpmmadhpoaa
open Go.ChangeShapes Go.WideShapes Go.ChangeAt Go.RowKit
set_option linter.unusedVariables false
set_option linter.unusedSimpArgs false

set_option maxRecDepth 100000 in
set_option maxHeartbeats 8000000 in
theorem law_ShapeFields (a0 a1 a2 : Int) (a3 : Option Addr) (len3 cap3 : Nat) (vv3 : Nat → Nat → Value) (W : World) (w0 : (Lit.int .i64 a0).wf = true) (w1 : (Lit.int .i64 a1).wf = true) (w2 : (Lit.int .i64 a2).wf = true) (w3 : Flat W a3 len3 cap3 4 vv3) (t3 : ∀ i, i < len3 → (∃ n, vv3 i 0 = .int .i64 n ∧ (Lit.int .i64 n).wf = true) ∧ (∃ b, vv3 i 1 = .bool b) ∧ (∃ n, vv3 i 2 = .int .i64 n ∧ (Lit.int .i64 n).wf = true) ∧ (∃ n, vv3 i 3 = .int .i64 n ∧ (Lit.int .i64 n).wf = true)) :
    Calls Try.prog 3 #[.int .i64 a0, .int .i64 a1, .int .i64 a2, .slice a3 len3 cap3] W fun e w' => e = .returned (.bool true) ∧ Below W.heap.size W w' := by
  obtain ⟨f0, f1, f2, f3, hF⟩ := flds_of w3 t3
  clear w0 w1 w2 w3 t3
  replace hF := hid hF
  by_cases cb : (200 : Int) < len3
  case pos =>
    go_enter Try.func3, Try.ntmps3
    go_wp2_with fail
    refine (knows14_any _).mono ?_
    rintro e V ⟨rfl, hst⟩
    go_wp2_with fail
    go_ret
    exact ⟨rfl, hst⟩
  have hl : len3 ≤ 1000 := by omega
  cases hs : szB a0
  · have eA : ∀ sg, anyV a0 sg = .agg #[.int .i64 0, .bool false, .int .i64 0, .int .i64 0] := fun sg => by unfold anyV; rw [hs]; rfl
    have eU : uV a0 a2 = .agg #[.int .i64 0, .bool false, .int .i64 0, .int .i64 0] := by unfold uV; rw [hs]; rfl
    have eI : iV a0 a1 a2 = .agg #[.int .i64 0, .bool false, .int .i64 0, .int .i64 0] := by unfold iV; rw [hs]; rfl
    have k1 := hid (fun (sg : Bool) (v : World) => any_any a0 sg v)
    have k2 := hid (fun (sg : Bool) (v : World) => rany_any a0 sg v)
    have k3 := hid (fun v : World => u_any a0 a2 v)
    have k4 := hid (fun v : World => ru_any a0 a2 v)
    have k5 := hid (fun v : World => i_any a0 a1 a2 v)
    have k6 := hid (fun v : World => ri_any a0 a1 a2 v)
    replace k1 := hid (fun (sg : Bool) (v : World) => eA sg ▸ k1.out sg v)
    replace k2 := hid (fun (sg : Bool) (v : World) => eA sg ▸ k2.out sg v)
    replace k3 := hid (fun (v : World) => eU ▸ k3.out v)
    replace k4 := hid (fun (v : World) => eU ▸ k4.out v)
    replace k5 := hid (fun (v : World) => eI ▸ k5.out v)
    replace k6 := hid (fun (v : World) => eI ▸ k6.out v)
    obtain ⟨sg, hsg⟩ : ∃ sg, decide (a1 < 0) = sg := ⟨_, rfl⟩
    clear eA eU eI hs
    go_enter Try.func3, Try.ntmps3
    go_wp2_with fail
    refine (knows14_any _).mono ?_
    rintro e V0 ⟨rfl, hB⟩
    replace hB := hid hB
    go_wp2_with fail
    refine (k1.out sg _).mono ?_
    rintro e V1 ⟨rfl, hA⟩
    replace hB := hid (bthen hB.out hA)
    clear hA
    go_wp2_with fail
    refine (k2.out sg _).mono ?_
    rintro e V2 ⟨rfl, hA⟩
    replace hB := hid (bthen hB.out hA)
    clear hA
    go_wp2_with fail
    refine (k3.out _).mono ?_
    rintro e V3 ⟨rfl, hA⟩
    replace hB := hid (bthen hB.out hA)
    clear hA
    go_wp2_with fail
    refine (k4.out _).mono ?_
    rintro e V4 ⟨rfl, hA⟩
    replace hB := hid (bthen hB.out hA)
    clear hA
    go_wp2_with fail
    refine (k5.out _).mono ?_
    rintro e V5 ⟨rfl, hA⟩
    replace hB := hid (bthen hB.out hA)
    clear hA
    go_wp2_with fail
    refine (k6.out _).mono ?_
    rintro e V6 ⟨rfl, hA⟩
    replace hB := hid (bthen hB.out hA)
    clear hA
    go_wp2_with fail
    obtain ⟨R, hR⟩ : ∃ R, allR f0 f1 f2 f3 len3 = R := ⟨_, rfl⟩
    refine (rightl_any a3 len3 cap3 f0 f1 f2 f3 _ (hF.out.below hB.out)).mono ?_
    rintro e V7 ⟨rfl, hA⟩
    replace hB := hid (bthen hB.out hA)
    clear hA
    rw [hR]
    go_wp2_with fail
    refine (rrightl_any a3 len3 cap3 f0 f1 f2 f3 _ (hF.out.below hB.out)).mono ?_
    rintro e V8 ⟨rfl, hA⟩
    replace hB := hid (bthen hB.out hA)
    clear hA
    rw [hR]
    go_wp2_with fail
    obtain ⟨WD, hWD⟩ : ∃ WD, widthS f0 f1 f2 f3 len3 = WD := ⟨_, rfl⟩
    refine (width_any a3 len3 cap3 f0 f1 f2 f3 _ (hF.out.below hB.out) hl).mono ?_
    rintro e V9 ⟨rfl, hA⟩
    replace hB := hid (bthen hB.out hA)
    clear hA
    rw [hWD]
    go_wp2_with fail
    refine (rwidth_any a3 len3 cap3 f0 f1 f2 f3 _ (hF.out.below hB.out) hl).mono ?_
    rintro e V10 ⟨rfl, hA⟩
    replace hB := hid (bthen hB.out hA)
    clear hA
    rw [hWD]
    go_wp2_with fail
    go_ret
    exact ⟨rfl, hB.out⟩
  · have eA : ∀ sg, anyV a0 sg = .agg #[.int .i64 a0, .bool sg, .int .i64 (loS a0 sg), .int .i64 (hiS a0 sg)] := fun sg => by unfold anyV; rw [hs]; rfl
    have eU : uV a0 a2 = .agg #[.int .i64 a0, .bool false, .int .i64 0, .int .i64 a2] := by unfold uV; rw [hs]; rfl
    have eI : iV a0 a1 a2 = .agg #[.int .i64 a0, .bool true, .int .i64 a1, .int .i64 a2] := by unfold iV; rw [hs]; rfl
    have k1 := hid (fun (sg : Bool) (v : World) => any_any a0 sg v)
    have k2 := hid (fun (sg : Bool) (v : World) => rany_any a0 sg v)
    have k3 := hid (fun v : World => u_any a0 a2 v)
    have k4 := hid (fun v : World => ru_any a0 a2 v)
    have k5 := hid (fun v : World => i_any a0 a1 a2 v)
    have k6 := hid (fun v : World => ri_any a0 a1 a2 v)
    replace k1 := hid (fun (sg : Bool) (v : World) => eA sg ▸ k1.out sg v)
    replace k2 := hid (fun (sg : Bool) (v : World) => eA sg ▸ k2.out sg v)
    replace k3 := hid (fun (v : World) => eU ▸ k3.out v)
    replace k4 := hid (fun (v : World) => eU ▸ k4.out v)
    replace k5 := hid (fun (v : World) => eI ▸ k5.out v)
    replace k6 := hid (fun (v : World) => eI ▸ k6.out v)
    obtain ⟨sg, hsg⟩ : ∃ sg, decide (a1 < 0) = sg := ⟨_, rfl⟩
    clear eA eU eI hs
    obtain ⟨LO, hLO⟩ : ∃ LO, loS a0 sg = LO := ⟨_, rfl⟩
    obtain ⟨HI, hHI⟩ : ∃ HI, hiS a0 sg = HI := ⟨_, rfl⟩
    go_enter Try.func3, Try.ntmps3
    go_wp2_with fail
    refine (knows14_any _).mono ?_
    rintro e V0 ⟨rfl, hB⟩
    replace hB := hid hB
    go_wp2_with fail
    refine (k1.out sg _).mono ?_
    rintro e V1 ⟨rfl, hA⟩
    replace hB := hid (bthen hB.out hA)
    clear hA
    rw [hLO, hHI]
    go_wp2_with fail
    refine (k2.out sg _).mono ?_
    rintro e V2 ⟨rfl, hA⟩
    replace hB := hid (bthen hB.out hA)
    clear hA
    rw [hLO, hHI]
    go_wp2_with fail
    refine (k3.out _).mono ?_
    rintro e V3 ⟨rfl, hA⟩
    replace hB := hid (bthen hB.out hA)
    clear hA
    go_wp2_with fail
    refine (k4.out _).mono ?_
    rintro e V4 ⟨rfl, hA⟩
    replace hB := hid (bthen hB.out hA)
    clear hA
    go_wp2_with fail
    refine (k5.out _).mono ?_
    rintro e V5 ⟨rfl, hA⟩
    replace hB := hid (bthen hB.out hA)
    clear hA
    go_wp2_with fail
    refine (k6.out _).mono ?_
    rintro e V6 ⟨rfl, hA⟩
    replace hB := hid (bthen hB.out hA)
    clear hA
    go_wp2_with fail
    obtain ⟨R, hR⟩ : ∃ R, allR f0 f1 f2 f3 len3 = R := ⟨_, rfl⟩
    refine (rightl_any a3 len3 cap3 f0 f1 f2 f3 _ (hF.out.below hB.out)).mono ?_
    rintro e V7 ⟨rfl, hA⟩
    replace hB := hid (bthen hB.out hA)
    clear hA
    rw [hR]
    go_wp2_with fail
    refine (rrightl_any a3 len3 cap3 f0 f1 f2 f3 _ (hF.out.below hB.out)).mono ?_
    rintro e V8 ⟨rfl, hA⟩
    replace hB := hid (bthen hB.out hA)
    clear hA
    rw [hR]
    go_wp2_with fail
    obtain ⟨WD, hWD⟩ : ∃ WD, widthS f0 f1 f2 f3 len3 = WD := ⟨_, rfl⟩
    refine (width_any a3 len3 cap3 f0 f1 f2 f3 _ (hF.out.below hB.out) hl).mono ?_
    rintro e V9 ⟨rfl, hA⟩
    replace hB := hid (bthen hB.out hA)
    clear hA
    rw [hWD]
    go_wp2_with fail
    refine (rwidth_any a3 len3 cap3 f0 f1 f2 f3 _ (hF.out.below hB.out) hl).mono ?_
    rintro e V10 ⟨rfl, hA⟩
    replace hB := hid (bthen hB.out hA)
    clear hA
    rw [hWD]
    go_wp2_with fail
    go_ret
    exact ⟨rfl, hB.out⟩

end Go.Proofs.Ytekilpmmadhpoaa
