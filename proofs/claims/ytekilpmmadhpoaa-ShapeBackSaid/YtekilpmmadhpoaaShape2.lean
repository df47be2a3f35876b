/- Package shape: Right. -/
import Derived.Test.YtekilpmmadhpoaaShape
import Derived.Deep.DeepCutAuto
namespace Go.Proofs.Ytekilpmmadhpoaa
open Go.ChangeShapes Go.WideShapes Go.ChangeAt Go.RowKit
set_option linter.unusedVariables false
set_option linter.unusedSimpArgs false

/-- Are the first k fields right? -/
def allR (f0 : Nat → Int) (f1 : Nat → Bool) (f2 f3 : Nat → Int) : Nat → Bool
  | 0 => true
  | k + 1 => allR f0 f1 f2 f3 k && rightS (f0 k) (f1 k) (f2 k) (f3 k)
theorem allR_no {f0 : Nat → Int} {f1 : Nat → Bool} {f2 f3 : Nat → Int} {k : Nat} (h : rightS (f0 k) (f1 k) (f2 k) (f3 k) = false) : ∀ m, k < m → allR f0 f1 f2 f3 m = false
  | 0, hm => by omega
  | m + 1, hm => by
    by_cases c : k = m
    · subst c; unfold allR; rw [h]; simp
    · unfold allR; rw [allR_no h m (by omega)]; rfl
/-- The fields in memory. -/
def Flds (w : World) (a : Option Addr) (len cap : Nat) (f0 : Nat → Int) (f1 : Nat → Bool) (f2 f3 : Nat → Int) : Prop :=
  len ≤ cap ∧ cap ≤ maxLen ∧ (a = none → cap = 0) ∧ ∀ i, i < len → ∃ b off, a = some ⟨b, off, none⟩ ∧ w.cell? ⟨b, off + i * 4, none⟩ = some (.int .i64 (f0 i)) ∧ w.cell? ⟨b, off + i * 4 + 1, none⟩ = some (.bool (f1 i)) ∧ w.cell? ⟨b, off + i * 4 + 2, none⟩ = some (.int .i64 (f2 i)) ∧ w.cell? ⟨b, off + i * 4 + 3, none⟩ = some (.int .i64 (f3 i))
theorem Flds.below {w w' : World} {a : Option Addr} {len cap : Nat} {f0 : Nat → Int} {f1 : Nat → Bool} {f2 f3 : Nat → Int} (h : Flds w a len cap f0 f1 f2 f3) (hb : Below w.heap.size w w') : Flds w' a len cap f0 f1 f2 f3 :=
  ⟨h.1, h.2.1, h.2.2.1, fun i hi => by
    obtain ⟨b, off, e, h0, h1, h2, h3⟩ := h.2.2.2 i hi
    have hlt := World.block_lt_of_cell? w _ h0
    exact ⟨b, off, e, (hb.cell (p := ⟨b, off + i * 4, none⟩) hlt).trans h0, (hb.cell (p := ⟨b, off + i * 4 + 1, none⟩) hlt).trans h1, (hb.cell (p := ⟨b, off + i * 4 + 2, none⟩) hlt).trans h2, (hb.cell (p := ⟨b, off + i * 4 + 3, none⟩) hlt).trans h3⟩⟩
set_option maxRecDepth 100000 in
set_option maxHeartbeats 4000000 in
theorem rightl_any (a : Option Addr) (len cap : Nat) (f0 : Nat → Int) (f1 : Nat → Bool) (f2 f3 : Nat → Int) (w : World) (hF : Flds w a len cap f0 f1 f2 f3) : Calls Try.prog 13 #[.slice a len cap] w fun e w' => e = .returned (.bool (allR f0 f1 f2 f3 len)) ∧ Below w.heap.size w w' := by
  obtain ⟨R, hR⟩ : ∃ R, allR f0 f1 f2 f3 len = R := ⟨_, rfl⟩
  rw [hR]
  replace hR := hid hR
  have hlen : len ≤ maxLen := Nat.le_trans hF.1 hF.2.1
  have hm : maxLen ≤ 9223372036854775807 := by decide
  replace hF := hid hF
  go_enter Try.func13, Try.ntmps13
  go_wp2_with fail
  go_loopw [7] (fun i wr => ∃ k : Nat, k ≤ len ∧ i = .int .i64 k ∧ Go.RowKit.Hid (allR f0 f1 f2 f3 k = true) ∧ Below w.heap.size w wr) (fun i _ => len - (intOf i).toNat)
  case atStart => exact ⟨0, by omega, rfl, hid rfl, Below.refl _ _⟩
  case round =>
    obtain ⟨k, hk, rfl, hd, hB⟩ := hrel
    by_cases hlt : (k : Int) < len
    case neg =>
      obtain rfl : k = len := by omega
      obtain rfl : R = true := by rw [← hR.out, hd.out]
      go_wp2_with fail
      go_ret
      exact ⟨rfl, hB⟩
    have hlt2 : k < len := by omega
    obtain ⟨b, off, rfl, l0, l1, l2, l3⟩ := (hF.out.below hB).2.2.2 k hlt2
    have kz : (0 : Int) ≤ k := by omega
    have kr := hid (fun v : World => rightf_any (f0 k) (f1 k) (f2 k) (f3 k) v)
    cases hr : rightS (f0 k) (f1 k) (f2 k) (f3 k)
    · rw [hr] at kr
      obtain rfl : R = false := by rw [← hR.out]; exact allR_no hr len hlt2
      clear hr
      generalize f0 k = x0 at *
      generalize f1 k = x1 at *
      generalize f2 k = x2 at *
      generalize f3 k = x3 at *
      replace hB := hid hB
      go_wp2_with fail
      refine (kr.out _).mono ?_
      rintro e V ⟨rfl, hst⟩
      have hB2 := hid (bthen (balloc hB.out (Nat.le_refl _) _) hst)
      clear hst
      go_wp2_with fail
      go_ret
      exact ⟨rfl, hB2.out⟩
    · rw [hr] at kr
      have hd2 : Go.RowKit.Hid (allR f0 f1 f2 f3 (k + 1) = true) := hid (by show (allR f0 f1 f2 f3 k && _) = true; rw [hd.out, hr]; rfl)
      clear hr
      generalize f0 k = x0 at *
      generalize f1 k = x1 at *
      generalize f2 k = x2 at *
      generalize f3 k = x3 at *
      replace hB := hid hB
      go_wp2_with fail
      refine (kr.out _).mono ?_
      rintro e V ⟨rfl, hst⟩
      have hB2 := hid (bthen (balloc hB.out (Nat.le_refl _) _) hst)
      clear hst
      go_wp2_with fail
      go_roundw
      case rel => exact ⟨k + 1, by omega, by simp, hd2, hB2.out⟩
      case measure => simp [intOf]; omega

end Go.Proofs.Ytekilpmmadhpoaa
