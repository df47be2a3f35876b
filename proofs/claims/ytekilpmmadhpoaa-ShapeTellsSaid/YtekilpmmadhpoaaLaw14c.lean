/- The laws of layer 14. -/
import Derived.Test.YtekilpmmadhpoaaLaw14
import Derived.Deep.DeepCutAuto
namespace Go.Proofs.Ytekilpmmadhpoaa
open Go.ChangeShapes Go.WideShapes Go.ChangeAt Go.RowKit
set_option linter.unusedVariables false
set_option linter.unusedSimpArgs false

set_option maxRecDepth 100000 in
set_option maxHeartbeats 8000000 in
theorem law_ShapeTells (a0 : Option Addr) (len0 cap0 : Nat) (vv0 : Nat → Nat → Value) (a1 : Option Addr) (len1 cap1 : Nat) (z1 : List Int) (a2 : Option Addr) (len2 cap2 : Nat) (z2 : List Int) (W : World) (w0 : Flat W a0 len0 cap0 4 vv0) (t0 : ∀ i, i < len0 → (∃ n, vv0 i 0 = .int .i64 n ∧ (Lit.int .i64 n).wf = true) ∧ (∃ b, vv0 i 1 = .bool b) ∧ (∃ n, vv0 i 2 = .int .i64 n ∧ (Lit.int .i64 n).wf = true) ∧ (∃ n, vv0 i 3 = .int .i64 n ∧ (Lit.int .i64 n).wf = true)) (w1 : IsRow .i64 W a1 len1 cap1 z1) (w2 : IsRow .u8 W a2 len2 cap2 z2) :
    Calls Try.prog 4 #[.slice a0 len0 cap0, .slice a1 len1 cap1, .slice a2 len2 cap2] W fun e w' => e = .returned (.bool true) ∧ Below W.heap.size W w' := by
  obtain ⟨f0, f1, f2, f3, hF⟩ := flds_of w0 t0
  clear w0 t0
  replace hF := hid hF
  obtain ⟨hs1, hw1⟩ := w1.sl
  obtain ⟨hs2, hw2⟩ := w2.sl
  generalize z1.take len1 = zs at hs1 hw1
  generalize z2.take len2 = bs at hs2 hw2
  clear w1 w2
  have hz1 := hid (fun x hx => i64_bd (hw1 x hx))
  have hb2 := hid (bytes_bd hw2)
  replace hs1 := hid hs1
  replace hs2 := hid hs2
  replace hw2 := hid hw2
  clear hw1
  by_cases cb : (200 : Int) < len0
  case pos =>
    go_enter Try.func4, Try.ntmps4
    go_wp2_with fail
    refine (knows14_any _).mono ?_
    rintro e V ⟨rfl, hst⟩
    go_wp2_with fail
    go_ret
    exact ⟨rfl, hst⟩
  by_cases cb1 : (200 : Int) < len1
  case pos =>
    go_enter Try.func4, Try.ntmps4
    go_wp2_with fail
    refine (knows14_any _).mono ?_
    rintro e V ⟨rfl, hst⟩
    go_wp2_with fail
    go_ret
    exact ⟨rfl, hst⟩
  by_cases cb2 : (2000 : Int) < len2
  case pos =>
    go_enter Try.func4, Try.ntmps4
    go_wp2_with fail
    refine (knows14_any _).mono ?_
    rintro e V ⟨rfl, hst⟩
    go_wp2_with fail
    go_ret
    exact ⟨rfl, hst⟩
  have hl : len0 ≤ 1000 := by omega
  go_enter Try.func4, Try.ntmps4
  go_wp2_with fail
  refine (knows14_any _).mono ?_
  rintro e V0 ⟨rfl, hB⟩
  replace hB := hid hB
  go_wp2_with fail
  have pe := putF_e f0 f1 f2 f3 len0 zs
  have te := takF_e f0 f1 f2 f3 len0 bs
  obtain ⟨⟨L, ee⟩, hr⟩ : ∃ r, putF f0 f1 f2 f3 len0 zs = r := ⟨_, rfl⟩
  obtain ⟨⟨P, ge⟩, hq⟩ : ∃ r, takF f0 f1 f2 f3 len0 bs = r := ⟨_, rfl⟩
  have hPl := tak_len hq
  rw [hr] at pe
  rw [hq] at te
  dsimp only at pe te
  have hLb := (put_len hr hl).1
  replace hr := hid hr
  replace hq := hid hq
  refine (sput_any a0 len0 cap0 f0 f1 f2 f3 a1 len1 cap1 zs _ (hF.out.below hB.out) (hs1.out.below hB.out) hz1.out hl).mono ?_
  rintro e V1 ⟨r1a, r1c, rfl, hO1, hA⟩
  replace hB := hid (bthen hB.out hA)
  clear hA
  rw [hr.out] at hO1 ⊢
  replace hO1 := hid hO1
  go_wp2_with fail
  refine (rsput_any a0 len0 cap0 f0 f1 f2 f3 a1 len1 cap1 zs _ (hF.out.below hB.out) (hs1.out.below hB.out) hz1.out hl).mono ?_
  rintro e V2 ⟨r2a, r2c, rfl, hO2, hA⟩
  replace hO1 := hid (hO1.out.below hA)
  replace hB := hid (bthen hB.out hA)
  clear hA
  rw [hr.out] at hO2 ⊢
  replace hO2 := hid hO2
  go_wp2_with fail
  refine (stake_any a0 len0 cap0 f0 f1 f2 f3 a2 len2 cap2 bs _ (hF.out.below hB.out) (hs2.out.below hB.out) hw2.out hl (by omega)).mono ?_
  rintro e V3 ⟨r3a, r3c, rfl, hO3, hA⟩
  replace hO1 := hid (hO1.out.below hA)
  replace hO2 := hid (hO2.out.below hA)
  replace hB := hid (bthen hB.out hA)
  clear hA
  rw [hq.out] at hO3 ⊢
  replace hO3 := hid hO3
  go_wp2_with fail
  refine (rstake_any a0 len0 cap0 f0 f1 f2 f3 a2 len2 cap2 bs _ (hF.out.below hB.out) (hs2.out.below hB.out) hw2.out hl (by omega)).mono ?_
  rintro e V4 ⟨r4a, r4c, rfl, hO4, hA⟩
  replace hO1 := hid (hO1.out.below hA)
  replace hO2 := hid (hO2.out.below hA)
  replace hO3 := hid (hO3.out.below hA)
  replace hB := hid (bthen hB.out hA)
  clear hA
  rw [hq.out] at hO4 ⊢
  replace hO4 := hid hO4
  have c1 := txt_sl hO1.out.slf
  have c2 := txt_sl hO2.out.slf
  try dsimp only at c1 c2
  obtain ⟨TX, hTX⟩ : ∃ TX, textOf L = TX := ⟨_, rfl⟩
  rw [hTX] at c1 c2
  go_wp2_with fail
  refine (num14_any ee _ (by omega) (by omega)).mono ?_
  rintro e V ⟨rfl, rfl⟩
  go_wp2_with fail
  refine (num14_any ee _ (by omega) (by omega)).mono ?_
  rintro e V ⟨rfl, rfl⟩
  go_wp2_with fail
  refine (same64_any r3a r4a P.length r3c P.length r4c P P _ hO3.out.slf hO4.out.slf (by omega) (by omega)).mono ?_
  rintro e V5 ⟨rfl, hA⟩
  have hA2 := bquiet hA
  clear hA
  have hA := hA2
  clear hA2
  replace hO1 := hid (hO1.out.below hA)
  replace hO2 := hid (hO2.out.below hA)
  replace hO3 := hid (hO3.out.below hA)
  replace hO4 := hid (hO4.out.below hA)
  replace hB := hid (bthen hB.out hA)
  clear hA
  rw [decide_eq_true rfl]
  go_wp2_with fail
  refine (num14_any ge _ (by omega) (by omega)).mono ?_
  rintro e V ⟨rfl, rfl⟩
  go_wp2_with fail
  refine (num14_any ge _ (by omega) (by omega)).mono ?_
  rintro e V ⟨rfl, rfl⟩
  go_wp2_with fail
  go_ret
  exact ⟨rfl, hB.out⟩

end Go.Proofs.Ytekilpmmadhpoaa
