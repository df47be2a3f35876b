/- The laws of layer 14. -/
import Derived.Test.YtekilpmmadhpoaaLaw14
import Derived.Deep.DeepCutAuto
namespace Go.Proofs.Ytekilpmmadhpoaa
open Go.ChangeShapes Go.WideShapes Go.ChangeAt Go.RowKit
set_option linter.unusedVariables false
set_option linter.unusedSimpArgs false

set_option maxRecDepth 100000 in
set_option maxHeartbeats 8000000 in
theorem law_ShapeBack (a0 : Option Addr) (len0 cap0 : Nat) (vv0 : Nat → Nat → Value) (a1 : Option Addr) (len1 cap1 : Nat) (z1 : List Int) (a2 : Option Addr) (len2 cap2 : Nat) (z2 : List Int) (W : World) (w0 : Flat W a0 len0 cap0 4 vv0) (t0 : ∀ i, i < len0 → (∃ n, vv0 i 0 = .int .i64 n ∧ (Lit.int .i64 n).wf = true) ∧ (∃ b, vv0 i 1 = .bool b) ∧ (∃ n, vv0 i 2 = .int .i64 n ∧ (Lit.int .i64 n).wf = true) ∧ (∃ n, vv0 i 3 = .int .i64 n ∧ (Lit.int .i64 n).wf = true)) (w1 : IsRow .i64 W a1 len1 cap1 z1) (w2 : IsRow .u8 W a2 len2 cap2 z2) :
    Calls Try.prog 5 #[.slice a0 len0 cap0, .slice a1 len1 cap1, .slice a2 len2 cap2] W fun e w' => e = .returned (.bool true) ∧ Below W.heap.size W w' := by
  obtain ⟨f0, f1, f2, f3, hF⟩ := flds_of w0 t0
  clear w0 t0
  replace hF := hid hF
  obtain ⟨hs1, hw1⟩ := w1.sl
  obtain ⟨hs2, hw2⟩ := w2.sl
  generalize z1.take len1 = zs at hs1 hw1
  generalize z2.take len2 = bs at hs2 hw2
  clear w1 w2
  have hz1 := hid (fun x hx => i64_bd (hw1 x hx))
  have hb2 := hid (bytes_bd hw2)
  replace hs1 := hid hs1
  replace hs2 := hid hs2
  replace hw2 := hid hw2
  clear hw1
  by_cases cb : (200 : Int) < len0
  case pos =>
    go_enter Try.func5, Try.ntmps5
    go_wp2_with fail
    refine (knows14_any _).mono ?_
    rintro e V ⟨rfl, hst⟩
    go_wp2_with fail
    go_ret
    exact ⟨rfl, hst⟩
  by_cases cb1 : (200 : Int) < len1
  case pos =>
    go_enter Try.func5, Try.ntmps5
    go_wp2_with fail
    refine (knows14_any _).mono ?_
    rintro e V ⟨rfl, hst⟩
    go_wp2_with fail
    go_ret
    exact ⟨rfl, hst⟩
  by_cases cb2 : (2000 : Int) < len2
  case pos =>
    go_enter Try.func5, Try.ntmps5
    go_wp2_with fail
    refine (knows14_any _).mono ?_
    rintro e V ⟨rfl, hst⟩
    go_wp2_with fail
    go_ret
    exact ⟨rfl, hst⟩
  have hl : len0 ≤ 1000 := by omega
  go_enter Try.func5, Try.ntmps5
  go_wp2_with fail
  refine (knows14_any _).mono ?_
  rintro e V0 ⟨rfl, hB⟩
  replace hB := hid hB
  go_wp2_with fail
  have pe := putF_e f0 f1 f2 f3 len0 zs
  have te := takF_e f0 f1 f2 f3 len0 bs
  obtain ⟨⟨L, ee⟩, hr⟩ : ∃ r, putF f0 f1 f2 f3 len0 zs = r := ⟨_, rfl⟩
  obtain ⟨⟨P, ge⟩, hq⟩ : ∃ r, takF f0 f1 f2 f3 len0 bs = r := ⟨_, rfl⟩
  have hPl := tak_len hq
  rw [hr] at pe
  rw [hq] at te
  dsimp only at pe te
  have hLb := put_len hr hl
  have hLl := hLb.1
  have hLw := hid (bytes_wf2 hLb.2)
  have hL0 := hid (fun h => sput_bad hr h)
  have hP0 := hid (fun h => stak_bad hq h)
  have hPb := hid (tak_bd hq)
  have zl := hs1.out.1
  replace zl := hid zl
  have bl2 := hid hs2.out.1
  clear hLb
  replace hr := hid hr
  replace hq := hid hq
  refine (sput_any a0 len0 cap0 f0 f1 f2 f3 a1 len1 cap1 zs _ (hF.out.below hB.out) (hs1.out.below hB.out) hz1.out hl).mono ?_
  rintro e V1 ⟨r1a, r1c, rfl, hO1, hA⟩
  replace hB := hid (bthen hB.out hA)
  clear hA
  rw [hr.out] at hO1 ⊢
  replace hO1 := hid hO1
  go_wp2_with fail
  refine (num14_any ee _ (by omega) (by omega)).mono ?_
  rintro e V ⟨rfl, rfl⟩
  by_cases hee : ee = 0
  · subst hee
    have hPT := put_take hr.out
    have hPT1 := hid hPT.1
    have hPT2 := hid hPT.2
    clear hPT hL0
    go_wp2_with fail
    refine (stake_any a0 len0 cap0 f0 f1 f2 f3 r1a L.length r1c L _ (hF.out.below hB.out) hO1.out.slf hLw.out hl (by omega)).mono ?_
    rintro e V2 ⟨r2a, r2c, rfl, hO2, hA⟩
    replace hO1 := hid (hO1.out.below hA)
    replace hB := hid (bthen hB.out hA)
    clear hA
    rw [hPT1.out] at hO2 ⊢
    replace hO2 := hid hO2
    go_wp2_with fail
    refine (num14_any 0 _ (by omega) (by omega)).mono ?_
    rintro e V ⟨rfl, rfl⟩
    go_wp2_with fail
    refine (same64_any a1 r2a len1 cap1 zs.length r2c zs zs _ (hs1.out.below hB.out) hO2.out.slf (by omega) (by rw [zl.out]; omega)).mono ?_
    rintro e V3 ⟨rfl, hA⟩
    have hA2 := bquiet hA
    clear hA
    have hA := hA2
    clear hA2
    replace hO1 := hid (hO1.out.below hA)
    replace hO2 := hid (hO2.out.below hA)
    replace hB := hid (bthen hB.out hA)
    clear hA
    rw [decide_eq_true rfl]
    go_wp2_with fail
    refine (width_any a0 len0 cap0 f0 f1 f2 f3 _ (hF.out.below hB.out) hl).mono ?_
    rintro e V4 ⟨rfl, hA⟩
    replace hO1 := hid (hO1.out.below hA)
    replace hO2 := hid (hO2.out.below hA)
    replace hB := hid (bthen hB.out hA)
    clear hA
    rw [hPT2.out]
    go_wp2_with fail
    refine (stake_any a0 len0 cap0 f0 f1 f2 f3 a2 len2 cap2 bs _ (hF.out.below hB.out) (hs2.out.below hB.out) hw2.out hl (by omega)).mono ?_
    rintro e V5 ⟨r4a, r4c, rfl, hO4, hA⟩
    replace hO1 := hid (hO1.out.below hA)
    replace hO2 := hid (hO2.out.below hA)
    replace hB := hid (bthen hB.out hA)
    clear hA
    rw [hq.out] at hO4 ⊢
    replace hO4 := hid hO4
    go_wp2_with fail
    refine (num14_any ge _ (by omega) (by omega)).mono ?_
    rintro e V ⟨rfl, rfl⟩
    by_cases hge : ge = 0
    case neg =>
      have hne : (ge != 0) = true := by simp [hge]
      obtain rfl : P = [] := hP0.out hge
      clear hPl
      replace hge := hid hge
      go_wp2_with fail
      refine (num14_any 0 _ (by omega) (by omega)).mono ?_
      rintro e V ⟨rfl, rfl⟩
      go_wp2_with fail
      go_ret
      exact ⟨rfl, hB.out⟩
    subst hge
    have hTP := take_put hq.out hb2.out
    have hPz := hid hTP.2
    have hTP1 := hid hTP.1
    clear hTP hP0
    go_wp2_with fail
    refine (sput_any a0 len0 cap0 f0 f1 f2 f3 r4a P.length r4c P _ (hF.out.below hB.out) hO4.out.slf hPb.out hl).mono ?_
    rintro e V6 ⟨r5a, r5c, rfl, hO5, hA⟩
    replace hO1 := hid (hO1.out.below hA)
    replace hO2 := hid (hO2.out.below hA)
    replace hO4 := hid (hO4.out.below hA)
    replace hB := hid (bthen hB.out hA)
    clear hA
    rw [hTP1.out] at hO5 ⊢
    have c1 := txt_sl hO5.slf
    have c2 := txt_sl (hs2.out.below hB.out)
    try dsimp only at c1
    generalize textOf bs = TX at *
    replace hO5 := hid hO5
    have hPz2 : (P.length : Int) = len0 := by have := hPz.out; omega
    go_wp2_with fail
    refine (num14_any 0 _ (by omega) (by omega)).mono ?_
    rintro e V ⟨rfl, rfl⟩
    go_wp2_with fail
    go_ret
    exact ⟨rfl, hB.out⟩
  · have hne : (ee == 0) = false := by simp [hee]
    obtain rfl : L = [] := hL0.out hee
    replace hee := hid hee
    go_wp2_with fail
    refine (stake_any a0 len0 cap0 f0 f1 f2 f3 a2 len2 cap2 bs _ (hF.out.below hB.out) (hs2.out.below hB.out) hw2.out hl (by omega)).mono ?_
    rintro e V2 ⟨r4a, r4c, rfl, hO4, hA⟩
    replace hO1 := hid (hO1.out.below hA)
    replace hB := hid (bthen hB.out hA)
    clear hA
    rw [hq.out] at hO4 ⊢
    replace hO4 := hid hO4
    go_wp2_with fail
    refine (num14_any ge _ (by omega) (by omega)).mono ?_
    rintro e V ⟨rfl, rfl⟩
    by_cases hge : ge = 0
    case neg =>
      have hne : (ge != 0) = true := by simp [hge]
      obtain rfl : P = [] := hP0.out hge
      clear hPl
      replace hge := hid hge
      go_wp2_with fail
      refine (num14_any ee _ (by omega) (by omega)).mono ?_
      rintro e V ⟨rfl, rfl⟩
      go_wp2_with fail
      go_ret
      exact ⟨rfl, hB.out⟩
    subst hge
    have hTP := take_put hq.out hb2.out
    have hPz := hid hTP.2
    have hTP1 := hid hTP.1
    clear hTP hP0
    go_wp2_with fail
    refine (sput_any a0 len0 cap0 f0 f1 f2 f3 r4a P.length r4c P _ (hF.out.below hB.out) hO4.out.slf hPb.out hl).mono ?_
    rintro e V3 ⟨r5a, r5c, rfl, hO5, hA⟩
    replace hO1 := hid (hO1.out.below hA)
    replace hO4 := hid (hO4.out.below hA)
    replace hB := hid (bthen hB.out hA)
    clear hA
    rw [hTP1.out] at hO5 ⊢
    have c1 := txt_sl hO5.slf
    have c2 := txt_sl (hs2.out.below hB.out)
    try dsimp only at c1
    generalize textOf bs = TX at *
    replace hO5 := hid hO5
    have hPz2 : (P.length : Int) = len0 := by have := hPz.out; omega
    go_wp2_with fail
    refine (num14_any 0 _ (by omega) (by omega)).mono ?_
    rintro e V ⟨rfl, rfl⟩
    go_wp2_with fail
    go_ret
    exact ⟨rfl, hB.out⟩

end Go.Proofs.Ytekilpmmadhpoaa
