/- Package shape: Width; the papers: Most. -/
import Derived.Test.YtekilpmmadhpoaaShape2
import Derived.Deep.DeepCutAuto
namespace Go.Proofs.Ytekilpmmadhpoaa
open Go.ChangeShapes Go.WideShapes Go.ChangeAt Go.RowKit
set_option linter.unusedVariables false
set_option linter.unusedSimpArgs false

def sumW (f0 : Nat → Int) : Nat → Int
  | 0 => 0
  | k + 1 => sumW f0 k + f0 k
theorem allR_at {f0 : Nat → Int} {f1 : Nat → Bool} {f2 f3 : Nat → Int} {m k : Nat} (h : allR f0 f1 f2 f3 m = true) (hk : k < m) : rightS (f0 k) (f1 k) (f2 k) (f3 k) = true := by
  cases hr : rightS (f0 k) (f1 k) (f2 k) (f3 k)
  · rw [allR_no hr m hk] at h; cases h
  · rfl
theorem right_sz {n : Int} {sg : Bool} {lo hi : Int} (h : rightS n sg lo hi = true) : 1 ≤ n ∧ n ≤ 8 ∧ lo ≤ hi ∧ loS n sg ≤ lo ∧ hi ≤ hiS n sg := by
  unfold rightS at h
  simp only [Bool.and_eq_true, decide_eq_true_eq] at h
  have := szB_iff.1 h.1
  exact ⟨this.1, this.2, h.2.1, h.2.2.1, h.2.2.2⟩
theorem sumW_bd {f0 : Nat → Int} {f1 : Nat → Bool} {f2 f3 : Nat → Int} {m : Nat} (h : allR f0 f1 f2 f3 m = true) : ∀ k, k ≤ m → 0 ≤ sumW f0 k ∧ sumW f0 k ≤ 8 * k
  | 0, _ => ⟨Int.le_refl _, Int.le_refl _⟩
  | k + 1, hk => by
    have h1 := sumW_bd h k (by omega)
    have h2 := right_sz (allR_at h (show k < m by omega))
    show 0 ≤ sumW f0 k + f0 k ∧ sumW f0 k + f0 k ≤ 8 * ((k + 1 : Nat) : Int)
    omega
def widthS (f0 : Nat → Int) (f1 : Nat → Bool) (f2 f3 : Nat → Int) (len : Nat) : Int := if allR f0 f1 f2 f3 len = true then sumW f0 len else 0
set_option maxRecDepth 100000 in
set_option maxHeartbeats 4000000 in
theorem width_any (a : Option Addr) (len cap : Nat) (f0 : Nat → Int) (f1 : Nat → Bool) (f2 f3 : Nat → Int) (w : World) (hF : Flds w a len cap f0 f1 f2 f3) (h200 : len ≤ 1000) : Calls Try.prog 15 #[.slice a len cap] w fun e w' => e = .returned (.int .i64 (widthS f0 f1 f2 f3 len)) ∧ Below w.heap.size w w' := by
  have kr := fun v : World => fun h : Flds v a len cap f0 f1 f2 f3 => rightl_any a len cap f0 f1 f2 f3 v h
  cases hal : allR f0 f1 f2 f3 len
  · have hV : widthS f0 f1 f2 f3 len = 0 := by unfold widthS; rw [hal]; rfl
    rw [hV]
    rw [hal] at kr
    clear hV hal
    replace kr := hid kr
    replace hF := hid hF
    go_enter Try.func15, Try.ntmps15
    go_wp2_with fail
    refine (kr.out _ hF.out).mono ?_
    rintro e V ⟨rfl, hst⟩
    go_wp2_with fail
    go_ret
    exact ⟨rfl, hst⟩
  have hV : widthS f0 f1 f2 f3 len = sumW f0 len := by unfold widthS; rw [if_pos hal]
  rw [hV]
  rw [hal] at kr
  clear hV
  replace hal := hid hal
  replace kr := hid kr
  replace hF := hid hF
  go_enter Try.func15, Try.ntmps15
  go_wp2_with fail
  refine (kr.out _ hF.out).mono ?_
  rintro e V ⟨rfl, hst⟩
  replace hst := hid hst
  go_wp2_with fail
  go_loopw [3, 11] (fun s i wr => ∃ k : Nat, k ≤ len ∧ i = .int .i64 k ∧ s = .int .i64 (sumW f0 k) ∧ Below w.heap.size w wr) (fun _ i _ => len - (intOf i).toNat)
  case atStart => exact ⟨0, by omega, rfl, rfl, hst.out⟩
  case round =>
    obtain ⟨k, hk, rfl, rfl, hB⟩ := hrel
    by_cases hlt : (k : Int) < len
    case neg =>
      obtain rfl : k = len := by omega
      obtain ⟨SW, hSW⟩ : ∃ X, sumW f0 k = X := ⟨_, rfl⟩
      rw [hSW]
      replace hSW := hid hSW
      go_wp2_with fail
      go_ret
      exact ⟨by rw [hSW.out]; rfl, hB⟩
    have hlt2 : k < len := by omega
    obtain ⟨b, off, rfl, l0, l1, l2, l3⟩ := (hF.out.below hB).2.2.2 k hlt2
    have kz : (0 : Int) ≤ k := by omega
    have sb := sumW_bd hal.out k hk
    have sz := right_sz (allR_at hal.out hlt2)
    have s1 := sz.1
    have s2 := sz.2.1
    clear sz
    have hn : Go.RowKit.Hid (sumW f0 (k + 1) = sumW f0 k + f0 k) := hid rfl
    generalize hg : sumW f0 k = SW at *
    replace hg := hid hg
    generalize f0 k = x0 at *
    generalize f1 k = x1 at *
    generalize f2 k = x2 at *
    generalize f3 k = x3 at *
    have fs : IntKind.i64.wrap (SW + x0) = SW + x0 := by rw [IntKind.wrap_i64]; omega
    have hB2 := hid (balloc hB (Nat.le_refl _) (.cells #[.int .i64 x0, .bool x1, .int .i64 x2, .int .i64 x3] 25))
    replace hB := hid hB
    go_wp2_with fail
    go_roundw
    case rel => exact ⟨k + 1, by omega, by simp, by rw [hn.out], hB2.out⟩
    case measure => simp [intOf]; omega
set_option maxRecDepth 100000 in
set_option maxHeartbeats 4000000 in
theorem rmost_any (n : Int) (sg : Bool) (w : World) (h1 : 1 ≤ n) (h2 : n ≤ 8) : Calls Try.prog 25 #[.int .i64 n, .bool sg] w fun e w' => e = .returned (.int .i64 (hiS n sg)) ∧ w' = w := by
  by_cases h8 : n = 8
  · subst h8
    have e : hiS 8 sg = 9223372036854775807 := by cases sg <;> decide +kernel
    rw [e]
    clear e
    go_enter Try.func25, Try.ntmps25
    go_wp2_with fail
    go_ret
    exact ⟨rfl, rfl⟩
  have hq : ∀ k : Nat, k < 8 → 1 ≤ k → (0 : Int) < 128 * 256 ^ (k - 1) ∧ (128 : Int) * 256 ^ (k - 1) ≤ 36028797018963968 := by decide +kernel
  have hstep : ∀ k : Nat, k < 8 → 1 ≤ k → (128 : Int) * 256 ^ (k - 1) * 256 = 128 * 256 ^ (k + 1 - 1) := by decide +kernel
  have hend : ∀ k : Nat, k < 8 → 1 ≤ k → hiS k true = 128 * 256 ^ (k - 1) - 1 ∧ hiS k false = 2 * (128 * 256 ^ (k - 1)) - 1 := by decide +kernel
  obtain ⟨m, rfl⟩ := Int.eq_ofNat_of_zero_le (show 0 ≤ n by omega)
  replace hq := hid hq
  replace hstep := hid hstep
  replace hend := hid hend
  obtain ⟨R, hR⟩ : ∃ R, hiS m sg = R := ⟨_, rfl⟩
  rw [hR]
  replace hR := hid hR
  have b8 : ((m : Int) == 8) = false := by simp; omega
  go_enter Try.func25, Try.ntmps25
  go_wp2_with fail
  go_loopw [5, 6] (fun x i wr => ∃ k : Nat, 1 ≤ k ∧ k ≤ m ∧ i = .int .i64 k ∧ x = .int .i64 (128 * 256 ^ (k - 1)) ∧ wr = w) (fun _ i _ => m - (intOf i).toNat)
  case atStart => exact ⟨1, by omega, by omega, rfl, rfl, rfl⟩
  case round =>
    obtain ⟨k, k1, k2, rfl, rfl, rfl⟩ := hrel
    have hb := hq.out k (by omega) k1
    by_cases hlt : (k : Int) < m
    case neg =>
      obtain rfl : k = m := by omega
      have he := hend.out k (by omega) k1
      generalize (128 : Int) * 256 ^ (k - 1) = X at *
      cases sg
      · have hx := hid (hR.out.symm.trans he.2)
        clear he
        go_wp2_with fail
        go_ret
        exact ⟨ret_int (by rw [hx.out]), rfl⟩
      · have hx := hid (hR.out.symm.trans he.1)
        clear he
        go_wp2_with fail
        go_ret
        exact ⟨ret_int (by rw [hx.out]), rfl⟩
    have hs := hid (hstep.out k (by omega) k1)
    have hb2 := hq.out (k + 1) (by omega) (by omega)
    rw [← hs.out] at hb2
    have kz : (0 : Int) ≤ k := by omega
    generalize (128 : Int) * 256 ^ (k - 1) = X at *
    go_wp2_with fail
    go_roundw
    case rel => exact ⟨k + 1, by omega, by omega, by simp, by rw [← hs.out], trivial⟩
    case measure => simp [intOf]; omega

end Go.Proofs.Ytekilpmmadhpoaa
