/- Are two slices of numbers the same? -/
import Derived.Test.YtekilpmmadhpoaaSlices
namespace Go.Proofs.Ytekilpmmadhpoaa
open Go.ChangeShapes Go.WideShapes Go.ChangeAt Go.RowKit
set_option linter.unusedVariables false

theorem drew2s (w : World) (a b : Nat) : ∃ k, (w.drewN a).drewN b = w.drewN k := ⟨a + b, World.drewN_drewN w a b⟩

set_option maxHeartbeats 1000000 in
theorem same64_any (a b : Option Addr) (la ca lb cb : Nat) (xs ys : List Int) (w : World) (h1 : Sl .i64 w a la ca xs) (h2 : Sl .i64 w b lb cb ys) (hb1 : la ≤ 1000000) (hb2 : lb ≤ 1000000) :
    Calls Try.prog 22 #[.slice a la ca, .slice b lb cb] w fun e w' => e = .returned (.bool (decide (xs = ys))) ∧ ∃ k, w' = w.drewN k := by
  obtain ⟨rfl, -, -, -, hr1⟩ := h1
  obtain ⟨rfl, -, -, -, hr2⟩ := h2
  by_cases hl : xs.length = ys.length
  · have hlz : ((xs.length : Int) != ys.length) = false := by simp [hl]
    go_enter Try.func22, Try.ntmps22
    go_wp2_with fail
    go_loopw [5] (fun i wr => ∃ (k nq : Nat), k ≤ xs.length ∧ i = .int .i64 k ∧ wr = w.drewN nq ∧ xs.take k = ys.take k) (fun i _ => xs.length - (intOf i).toNat)
    case atStart => exact ⟨0, 0, Nat.zero_le _, rfl, rfl, by simp⟩
    case round =>
      obtain ⟨k, nq, hk, rfl, rfl, he⟩ := hrel
      have HE := hid he
      clear he
      have HL := hid hl
      have hl1 : xs.length ≤ ys.length := by omega
      have hl2 : ys.length ≤ xs.length := by omega
      clear hl
      by_cases hlt : k < xs.length
      · obtain ⟨b1, o1, rfl, hc1⟩ := hr1 k hlt
        obtain ⟨b2, o2, rfl, hc2⟩ := hr2 k (by omega)
        have e1 : xs.getD k 0 = xs[k] := by simp [hlt]
        have e2 : ys.getD k 0 = ys[k] := by simp [show k < ys.length from by omega]
        have hlt2 : k < ys.length := by omega
        have t1 := hid (List.take_succ_eq_append_getElem hlt)
        have t2 := hid (List.take_succ_eq_append_getElem hlt2)
        have E1 := hid e1
        have E2 := hid e2
        generalize xs.getD k 0 = x at *
        generalize ys.getD k 0 = y at *
        clear hr1 hr2 e1 e2
        by_cases hxy : x = y
        · have hxz : (x != y) = false := by simp [hxy]
          have HX := hid hxy
          clear hxy
          go_wp2_with fail
          go_quiet (fail)
          go_wp2_with fail
          go_roundw
          case rel => exact ⟨k + 1, _, by omega, by go_num, rfl, by rw [t1.out, t2.out, HE.out, ← E1.out, ← E2.out, HX.out]⟩
          case measure => simp [intOf]; omega
        · have hxz : (x != y) = true := by simp [hxy]
          have hd : Go.RowKit.Hid (decide (xs = ys) = false) := hid (decide_eq_false (fun h => hxy (by rw [E1.out, E2.out]; simp [h])))
          clear hxy
          go_wp2_with fail
          go_quiet (fail)
          go_wp2_with fail
          go_ret
          exact ⟨ret_bool hd.out.symm, drew2s _ _ _⟩
      · have hd : Go.RowKit.Hid (decide (xs = ys) = true) := hid (decide_eq_true (by
          have h := HE.out
          rw [List.take_of_length_le (by omega), List.take_of_length_le (by omega)] at h
          exact h))
        go_wp2_with fail
        go_ret
        exact ⟨ret_bool hd.out.symm, _, rfl⟩
  · have hlz : ((xs.length : Int) != ys.length) = true := by simp; omega
    have hd : Go.RowKit.Hid (decide (xs = ys) = false) := hid (decide_eq_false (fun h => hl (by rw [h])))
    go_enter Try.func22, Try.ntmps22
    go_wp2_with fail
    go_ret
    exact ⟨ret_bool hd.out.symm, 0, rfl⟩


end Go.Proofs.Ytekilpmmadhpoaa
