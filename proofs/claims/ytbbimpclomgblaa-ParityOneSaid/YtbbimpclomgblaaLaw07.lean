/- The laws ParityTells, ParityHex, walked: they return true. -/
import Derived.Test.YtbbimpclomgblaaPar2
namespace Go.Proofs.Ytbbimpclomgblaa
open Go.ChangeShapes Go.WideShapes Go.ChangeAt Go.RowKit
set_option linter.unusedVariables false

theorem ba_ext {a b : ByteArray} (h : a.data.toList = b.data.toList) : a = b := by
  cases a; cases b
  simp at h
  rw [h]
theorem seal_A : sealT ⟨#[65]⟩ = ⟨#[65, 42, 52, 49]⟩ := ba_ext (by decide)
theorem of_G : xorF 0 (sb ⟨#[71, 80, 71, 76, 76]⟩) = 80 := by decide

set_option maxRecDepth 100000 in
theorem knows07_any (w : World) :
    Calls Try.prog 6 #[] w fun e w' => e = .returned (.bool true) ∧ Below w.heap.size w w' := by
  go_enter Try.func6, Try.ntmps6
  go_wp2_with fail
  refine (parOf_any _ _ (by decide)).mono ?_
  rintro e w2 ⟨rfl, rfl⟩
  rw [of_G]
  go_wp2_with fail
  refine (parSeal_any _ _ (by decide)).mono ?_
  rintro e w3 ⟨rfl, hb⟩
  rw [seal_A]
  go_wp2_with fail
  go_ret
  exact ⟨rfl, hb⟩

set_option maxRecDepth 100000 in
set_option maxHeartbeats 1000000 in
theorem law_ParityTells (a0 : ByteArray) (a1 : Int) (w0 : a0.size ≤ maxLen) (w1 : (Lit.int .u8 a1).wf = true) (w : World) :
    Calls Try.prog 3 #[.string a0, .int .u8 a1] w fun e w' => e = .returned (.bool true) ∧ Below w.heap.size w w' := by
  obtain ⟨b1, b2⟩ := bounds_u8 w1
  unfold maxLen at w0
  obtain ⟨b, rfl⟩ := Int.eq_ofNat_of_zero_le b1
  clear w1
  by_cases c0 : (500 : Int) < a0.size
  · go_enter Try.func3, Try.ntmps3
    go_wp2_with fail
    refine (knows07_any _).mono ?_
    rintro e w1 ⟨rfl, hb⟩
    go_wp2_with fail
    go_ret
    exact ⟨rfl, hb⟩
  go_enter Try.func3, Try.ntmps3
  go_wp2_with fail
  refine (knows07_any _).mono ?_
  rintro e w1 ⟨rfl, hb1⟩
  go_wp2_with fail
  refine (parUnhex_any a0 _ (by omega)).mono ?_
  rintro e w2 ⟨rfl, hb2⟩
  have hb2 := bthen hb1 hb2
  clear hb1
  go_wp2_with fail
  refine (refUnhex_any a0 _ (by omega)).mono ?_
  rintro e w3 ⟨rfl, rfl⟩
  generalize unhV a0 = uv at *
  generalize unhOk a0 = uo at *
  go_wp2_with fail
  refine (parOpen_any a0 _ (by omega)).mono ?_
  rintro e w4 ⟨rfl, hb4⟩
  have hb4 := bthen hb2 hb4
  clear hb2
  go_wp2_with fail
  refine (refOpen_any a0 _ (by omega)).mono ?_
  rintro e w5 ⟨rfl, hb5⟩
  have hb5 := bthen hb4 hb5
  clear hb4
  generalize opnV a0 = ov at *
  generalize opnOk a0 = oo at *
  go_wp2_with fail
  refine (parOf_any a0 _ (by omega)).mono ?_
  rintro e w6 ⟨rfl, rfl⟩
  go_wp2_with fail
  refine (refOf_any a0 _ (by omega)).mono ?_
  rintro e w7 ⟨rfl, rfl⟩
  generalize xorF 0 (sb a0) = X at *
  go_wp2_with fail
  refine (parHex_any b _ (by omega)).mono ?_
  rintro e w8 ⟨rfl, m8, rfl⟩
  go_wp2_with fail
  refine (refHex_any b _ (by omega)).mono ?_
  rintro e w9 ⟨rfl, m9, rfl⟩
  generalize hexS b = H at *
  go_wp2_with fail
  refine (parSeal_any a0 _ (by omega)).mono ?_
  rintro e w10 ⟨rfl, hb10⟩
  have hb10 := bthen (bdrewN hb5 (m8 + m9)) hb10
  clear hb5
  go_wp2_with fail
  refine (refSeal_any a0 _ (by omega)).mono ?_
  rintro e w11 ⟨rfl, hb11⟩
  have hb11 := bthen hb10 hb11
  clear hb10
  generalize sealT a0 = S at *
  go_wp2_with fail
  go_ret
  exact ⟨rfl, hb11⟩

end Go.Proofs.Ytbbimpclomgblaa
