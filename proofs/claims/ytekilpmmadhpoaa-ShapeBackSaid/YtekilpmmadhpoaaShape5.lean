/- The papers' Right, Width. -/
import Derived.Test.YtekilpmmadhpoaaShape4
import Derived.Deep.DeepCutAuto
namespace Go.Proofs.Ytekilpmmadhpoaa
open Go.ChangeShapes Go.WideShapes Go.ChangeAt Go.RowKit
set_option linter.unusedVariables false
set_option linter.unusedSimpArgs false

theorem right_two {n : Int} {sg : Bool} {lo hi : Int} (h1 : 1 ≤ n) (h8 : n ≤ 8) (hh : lo ≤ hi) : rightS n sg lo hi = (inS n sg lo && inS n sg hi) := by
  have hs : szB n = true := szB_iff.2 ⟨h1, h8⟩
  unfold rightS inS
  rw [hs]
  by_cases a : loS n sg ≤ lo <;> by_cases b : hi ≤ hiS n sg <;> by_cases c : lo ≤ hiS n sg <;> by_cases d : loS n sg ≤ hi <;> simp [a, b, c, d, hh] <;> omega
theorem right_no1 {n : Int} {sg : Bool} {lo hi : Int} (h : ¬ (1 ≤ n ∧ n ≤ 8)) : rightS n sg lo hi = false := by
  have : szB n = false := by
    cases hc : szB n
    · rfl
    · exact absurd (szB_iff.1 hc) h
  unfold rightS; rw [this]; rfl
theorem right_no2 {n : Int} {sg : Bool} {lo hi : Int} (h : hi < lo) : rightS n sg lo hi = false := by
  unfold rightS
  rw [decide_eq_false (show ¬ lo ≤ hi by omega)]; simp
set_option maxRecDepth 100000 in
set_option maxHeartbeats 4000000 in
theorem rrightl_any (a : Option Addr) (len cap : Nat) (f0 : Nat → Int) (f1 : Nat → Bool) (f2 f3 : Nat → Int) (w : World) (hF : Flds w a len cap f0 f1 f2 f3) : Calls Try.prog 14 #[.slice a len cap] w fun e w' => e = .returned (.bool (allR f0 f1 f2 f3 len)) ∧ Below w.heap.size w w' := by
  obtain ⟨R, hR⟩ : ∃ R, allR f0 f1 f2 f3 len = R := ⟨_, rfl⟩
  rw [hR]
  replace hR := hid hR
  have hlen : len ≤ maxLen := Nat.le_trans hF.1 hF.2.1
  have hm : maxLen ≤ 9223372036854775807 := by decide
  replace hF := hid hF
  go_enter Try.func14, Try.ntmps14
  go_wp2_with fail
  go_loopw [3] (fun i wr => ∃ k : Nat, k ≤ len ∧ i = .int .i64 k ∧ Go.RowKit.Hid (allR f0 f1 f2 f3 k = true) ∧ Below w.heap.size w wr) (fun i _ => len - (intOf i).toNat)
  case atStart => exact ⟨0, by omega, rfl, hid rfl, Below.refl _ _⟩
  case round =>
    obtain ⟨k, hk, rfl, hd, hB⟩ := hrel
    by_cases hlt : (k : Int) < len
    case neg =>
      obtain rfl : k = len := by omega
      obtain rfl : R = true := by rw [← hR.out, hd.out]
      go_wp2_with fail
      go_ret
      exact ⟨rfl, hB⟩
    have hlt2 : k < len := by omega
    obtain ⟨b, off, rfl, l0, l1, l2, l3⟩ := (hF.out.below hB).2.2.2 k hlt2
    have kz : (0 : Int) ≤ k := by omega
    have hB1 := hid (balloc hB (Nat.le_refl _) (.cells #[.int .i64 (f0 k), .bool (f1 k), .int .i64 (f2 k), .int .i64 (f3 k)] 25))
    by_cases c1 : f0 k < 1
    · obtain rfl : R = false := by rw [← hR.out]; exact allR_no (right_no1 (by omega)) len hlt2
      generalize f0 k = x0 at *
      generalize f1 k = x1 at *
      generalize f2 k = x2 at *
      generalize f3 k = x3 at *
      replace hB := hid hB
      go_wp2_with fail
      go_ret
      exact ⟨rfl, hB1.out⟩
    by_cases c2 : 8 < f0 k
    · obtain rfl : R = false := by rw [← hR.out]; exact allR_no (right_no1 (by omega)) len hlt2
      generalize f0 k = x0 at *
      generalize f1 k = x1 at *
      generalize f2 k = x2 at *
      generalize f3 k = x3 at *
      replace hB := hid hB
      go_wp2_with fail
      go_ret
      exact ⟨rfl, hB1.out⟩
    by_cases c3 : f3 k < f2 k
    · obtain rfl : R = false := by rw [← hR.out]; exact allR_no (right_no2 c3) len hlt2
      generalize f0 k = x0 at *
      generalize f1 k = x1 at *
      generalize f2 k = x2 at *
      generalize f3 k = x3 at *
      replace hB := hid hB
      go_wp2_with fail
      go_ret
      exact ⟨rfl, hB1.out⟩
    have h1 : 1 ≤ f0 k := by omega
    have h8 : f0 k ≤ 8 := by omega
    have hrt := right_two (sg := f1 k) h1 h8 (show f2 k ≤ f3 k by omega)
    have kr1 := hid (fun v : World => rroom_any (f0 k) (f1 k) (f2 k) (f3 k) (f2 k) v h1 h8)
    have kr2 := hid (fun v : World => rroom_any (f0 k) (f1 k) (f2 k) (f3 k) (f3 k) v h1 h8)
    cases hr1 : inS (f0 k) (f1 k) (f2 k)
    · rw [hr1] at kr1 hrt
      obtain rfl : R = false := by rw [← hR.out]; exact allR_no (hrt.trans rfl) len hlt2
      clear hr1 hrt
      generalize f0 k = x0 at *
      generalize f1 k = x1 at *
      generalize f2 k = x2 at *
      generalize f3 k = x3 at *
      replace hB := hid hB
      go_wp2_with fail
      refine (kr1.out _).mono ?_
      rintro e V2 ⟨rfl, hst⟩
      have hB2 := hid (bthen hB1.out hst)
      have z := held_after hst (alloc_new wr (.cells #[.int .i64 x0, .bool x1, .int .i64 x2, .int .i64 x3] 25)).2.2
      have z0 := held_cell z 0 _ rfl
      have z1 := held_cell z 1 _ rfl
      have z2 := held_cell z 2 _ rfl
      have z3 := held_cell z 3 _ rfl
      clear z
      clear hst
      go_wp2_with fail
      go_ret
      exact ⟨rfl, hB2.out⟩
    · rw [hr1] at kr1 hrt
      clear hr1
      cases hr2 : inS (f0 k) (f1 k) (f3 k)
      · rw [hr2] at kr2 hrt
        obtain rfl : R = false := by rw [← hR.out]; exact allR_no (hrt.trans rfl) len hlt2
        clear hr2 hrt
        generalize f0 k = x0 at *
        generalize f1 k = x1 at *
        generalize f2 k = x2 at *
        generalize f3 k = x3 at *
        replace hB := hid hB
        go_wp2_with fail
        refine (kr1.out _).mono ?_
        rintro e V2 ⟨rfl, hst⟩
        have hB2 := hid (bthen hB1.out hst)
        have z := held_after hst (alloc_new wr (.cells #[.int .i64 x0, .bool x1, .int .i64 x2, .int .i64 x3] 25)).2.2
        have z0 := held_cell z 0 _ rfl
        have z1 := held_cell z 1 _ rfl
        have z2 := held_cell z 2 _ rfl
        have z3 := held_cell z 3 _ rfl
        clear z
        clear hst
        go_wp2_with fail
        refine (kr2.out _).mono ?_
        rintro e V3 ⟨rfl, hst⟩
        have hB3 := hid (bthen hB2.out hst)
        clear hst
        go_wp2_with fail
        go_ret
        exact ⟨rfl, hB3.out⟩
      · rw [hr2] at kr2 hrt
        have hd2 : Go.RowKit.Hid (allR f0 f1 f2 f3 (k + 1) = true) := hid (by show (allR f0 f1 f2 f3 k && _) = true; rw [hd.out, hrt]; rfl)
        clear hr2 hrt
        generalize f0 k = x0 at *
        generalize f1 k = x1 at *
        generalize f2 k = x2 at *
        generalize f3 k = x3 at *
        replace hB := hid hB
        go_wp2_with fail
        refine (kr1.out _).mono ?_
        rintro e V2 ⟨rfl, hst⟩
        have hB2 := hid (bthen hB1.out hst)
        have z := held_after hst (alloc_new wr (.cells #[.int .i64 x0, .bool x1, .int .i64 x2, .int .i64 x3] 25)).2.2
        have z0 := held_cell z 0 _ rfl
        have z1 := held_cell z 1 _ rfl
        have z2 := held_cell z 2 _ rfl
        have z3 := held_cell z 3 _ rfl
        clear z
        clear hst
        go_wp2_with fail
        refine (kr2.out _).mono ?_
        rintro e V3 ⟨rfl, hst⟩
        have hB3 := hid (bthen hB2.out hst)
        clear hst
        go_wp2_with fail
        go_roundw
        case rel => exact ⟨k + 1, by omega, by simp, hd2, hB3.out⟩
        case measure => simp [intOf]; omega
set_option maxRecDepth 100000 in
set_option maxHeartbeats 4000000 in
theorem rwidth_any (a : Option Addr) (len cap : Nat) (f0 : Nat → Int) (f1 : Nat → Bool) (f2 f3 : Nat → Int) (w : World) (hF : Flds w a len cap f0 f1 f2 f3) (h200 : len ≤ 1000) : Calls Try.prog 16 #[.slice a len cap] w fun e w' => e = .returned (.int .i64 (widthS f0 f1 f2 f3 len)) ∧ Below w.heap.size w w' := by
  have kr := fun v : World => fun h : Flds v a len cap f0 f1 f2 f3 => rrightl_any a len cap f0 f1 f2 f3 v h
  cases hal : allR f0 f1 f2 f3 len
  · have hV : widthS f0 f1 f2 f3 len = 0 := by unfold widthS; rw [hal]; rfl
    rw [hV]
    rw [hal] at kr
    clear hV hal
    replace kr := hid kr
    replace hF := hid hF
    go_enter Try.func16, Try.ntmps16
    go_wp2_with fail
    refine (kr.out _ hF.out).mono ?_
    rintro e V ⟨rfl, hst⟩
    go_wp2_with fail
    go_ret
    exact ⟨rfl, hst⟩
  have hV : widthS f0 f1 f2 f3 len = sumW f0 len := by unfold widthS; rw [if_pos hal]
  rw [hV]
  rw [hal] at kr
  clear hV
  replace hal := hid hal
  replace kr := hid kr
  replace hF := hid hF
  go_enter Try.func16, Try.ntmps16
  go_wp2_with fail
  refine (kr.out _ hF.out).mono ?_
  rintro e V ⟨rfl, hst⟩
  replace hst := hid hst
  go_wp2_with fail
  go_loopw [3, 4] (fun s i wr => ∃ k : Nat, k ≤ len ∧ i = .int .i64 k ∧ s = .int .i64 (sumW f0 k) ∧ Below w.heap.size w wr) (fun _ i _ => len - (intOf i).toNat)
  case atStart => exact ⟨0, by omega, rfl, rfl, hst.out⟩
  case round =>
    obtain ⟨k, hk, rfl, rfl, hB⟩ := hrel
    by_cases hlt : (k : Int) < len
    case neg =>
      obtain rfl : k = len := by omega
      obtain ⟨SW, hSW⟩ : ∃ X, sumW f0 k = X := ⟨_, rfl⟩
      rw [hSW]
      replace hSW := hid hSW
      go_wp2_with fail
      go_ret
      exact ⟨by rw [hSW.out]; rfl, hB⟩
    have hlt2 : k < len := by omega
    obtain ⟨b, off, rfl, l0, l1, l2, l3⟩ := (hF.out.below hB).2.2.2 k hlt2
    have kz : (0 : Int) ≤ k := by omega
    have sb := sumW_bd hal.out k hk
    have sz := right_sz (allR_at hal.out hlt2)
    have s1 := sz.1
    have s2 := sz.2.1
    clear sz
    have hn : Go.RowKit.Hid (sumW f0 (k + 1) = sumW f0 k + f0 k) := hid rfl
    generalize hg : sumW f0 k = SW at *
    replace hg := hid hg
    generalize f0 k = x0 at *
    generalize f1 k = x1 at *
    generalize f2 k = x2 at *
    generalize f3 k = x3 at *
    have fs : IntKind.i64.wrap (SW + x0) = SW + x0 := by rw [IntKind.wrap_i64]; omega
    replace hB := hid hB
    go_wp2_with fail
    go_roundw
    case rel => exact ⟨k + 1, by omega, by simp, by rw [hn.out], hB.out⟩
    case measure => simp [intOf]; omega

end Go.Proofs.Ytekilpmmadhpoaa
