/- Package dop: what belongs together. -/
import Derived.Test.YtalmkeehocakeaaRoot
import Derived.Test.YtalmkeehocakeaaKB
import Derived.Laws.EntriesVeiled
import Derived.Deep.DeepCutAuto
namespace Go.Proofs.Ytalmkeehocakeaa
open Go.ChangeShapes Go.WideShapes Go.ChangeAt Go.RowKit
set_option linter.unusedVariables false
set_option linter.unusedSimpArgs false

/-- The root of the squares of both together. -/
def togS (a b : Int) : Int := if 0 ≤ a ∧ a ≤ 65535 ∧ 0 ≤ b ∧ b ≤ 65535 then (nearS (a * a + b * b).toNat : Int) else 0
def wiD (n : Int) : Bool := decide (0 ≤ n) && decide (n ≤ 65535)
theorem togS_bd (a b : Int) : 0 ≤ togS a b ∧ togS a b ≤ 131072 := by
  unfold togS
  split
  · rename_i h
    obtain ⟨h1, h2, h3, h4⟩ := h
    have q1 : 0 ≤ a * a := Int.mul_nonneg h1 h1
    have q2 : 0 ≤ b * b := Int.mul_nonneg h3 h3
    have q3 : a * a ≤ 65535 * 65535 := Int.mul_le_mul h2 h2 h1 (by decide)
    have q4 : b * b ≤ 65535 * 65535 := Int.mul_le_mul h4 h4 h3 (by decide)
    have hs := (sqrtS_spec (a * a + b * b).toNat (by omega)).1
    have hq : sqrtS (a * a + b * b).toNat < 92682 := by
      refine Nat.lt_of_not_le fun h => ?_
      have := Nat.mul_le_mul h h
      omega
    unfold nearS
    split <;> omega
  · omega
theorem withinD_any (n : Int) (w : World) : Calls Try.prog 31 #[.int .i64 n] w fun e w' => e = .returned (.bool (wiD n)) ∧ w' = w := by
  unfold wiD
  by_cases h1 : 0 ≤ n
  · by_cases h2 : n ≤ 65535
    · go_enter Try.func31, Try.ntmps31
      go_wp2_with fail
      all_goals go_ret
      all_goals exact ⟨ret_bool (by first | (simp [h1, h2]; done) | (simp; omega)), rfl⟩
    · go_enter Try.func31, Try.ntmps31
      go_wp2_with fail
      all_goals go_ret
      all_goals exact ⟨ret_bool (by first | (simp [h1, h2]; done) | (simp; omega)), rfl⟩
  · go_enter Try.func31, Try.ntmps31
    go_wp2_with fail
    all_goals go_ret
    all_goals exact ⟨ret_bool (by first | (simp [h1]; done) | (simp; omega)), rfl⟩
set_option maxRecDepth 100000 in
set_option maxHeartbeats 2000000 in
theorem tog_any (a b : Int) (w : World) (ha : -9223372036854775808 ≤ a) (hb : -9223372036854775808 ≤ b) : Calls Try.prog 14 #[.int .i64 a, .int .i64 b] w fun e w' => e = .returned (.int .i64 (togS a b)) ∧ w' = w := by
  have hT := togS_bd a b
  by_cases c1 : 0 ≤ a
  case neg =>
    have e : togS a b = 0 := by unfold togS; rw [if_neg (fun h => c1 (by first | exact h.1 | exact h.2.1 | exact h.2.2.1 | exact h.2.2.2))]
    rw [e]
    clear e hT
    have k1 : wiD a = false := by unfold wiD; simp [c1]
    go_enter Try.func14, Try.ntmps14
    go_wp2_with fail
    refine (withinD_any a _).mono ?_
    rintro e V ⟨rfl, rfl⟩
    rw [k1]
    go_wp2_with fail
    go_ret
    exact ⟨rfl, rfl⟩
  by_cases c2 : a ≤ 65535
  case neg =>
    have e : togS a b = 0 := by unfold togS; rw [if_neg (fun h => c2 (by first | exact h.1 | exact h.2.1 | exact h.2.2.1 | exact h.2.2.2))]
    rw [e]
    clear e hT
    have k1 : wiD a = false := by unfold wiD; simp [c1, c2]
    go_enter Try.func14, Try.ntmps14
    go_wp2_with fail
    refine (withinD_any a _).mono ?_
    rintro e V ⟨rfl, rfl⟩
    rw [k1]
    go_wp2_with fail
    go_ret
    exact ⟨rfl, rfl⟩
  by_cases c3 : 0 ≤ b
  case neg =>
    have e : togS a b = 0 := by unfold togS; rw [if_neg (fun h => c3 (by first | exact h.1 | exact h.2.1 | exact h.2.2.1 | exact h.2.2.2))]
    rw [e]
    clear e hT
    have k1 : wiD a = true := by unfold wiD; simp [c1, c2]
    have k2 : wiD b = false := by unfold wiD; simp [c3]
    go_enter Try.func14, Try.ntmps14
    go_wp2_with fail
    refine (withinD_any a _).mono ?_
    rintro e V ⟨rfl, rfl⟩
    rw [k1]
    go_wp2_with fail
    refine (withinD_any b _).mono ?_
    rintro e V ⟨rfl, rfl⟩
    rw [k2]
    go_wp2_with fail
    go_ret
    exact ⟨rfl, rfl⟩
  by_cases c4 : b ≤ 65535
  case neg =>
    have e : togS a b = 0 := by unfold togS; rw [if_neg (fun h => c4 (by first | exact h.1 | exact h.2.1 | exact h.2.2.1 | exact h.2.2.2))]
    rw [e]
    clear e hT
    have k1 : wiD a = true := by unfold wiD; simp [c1, c2]
    have k2 : wiD b = false := by unfold wiD; simp [c3, c4]
    go_enter Try.func14, Try.ntmps14
    go_wp2_with fail
    refine (withinD_any a _).mono ?_
    rintro e V ⟨rfl, rfl⟩
    rw [k1]
    go_wp2_with fail
    refine (withinD_any b _).mono ?_
    rintro e V ⟨rfl, rfl⟩
    rw [k2]
    go_wp2_with fail
    go_ret
    exact ⟨rfl, rfl⟩
  obtain ⟨A, rfl⟩ := Int.eq_ofNat_of_zero_le c1
  obtain ⟨B, rfl⟩ := Int.eq_ofNat_of_zero_le c3
  have e : togS A B = (nearS (A * A + B * B) : Int) := by
    unfold togS
    rw [if_pos ⟨c1, c2, c3, c4⟩]
    have : ((A : Int) * A + B * B).toNat = A * A + B * B := by omega
    rw [this]
  rw [e] at hT ⊢
  have k1 : wiD (A : Int) = true := by unfold wiD; simp [c2]
  have k2 : wiD (B : Int) = true := by unfold wiD; simp [c4]
  have q1 : A * A ≤ 65535 * 65535 := Nat.mul_le_mul (by omega) (by omega)
  have q2 : B * B ≤ 65535 * 65535 := Nat.mul_le_mul (by omega) (by omega)
  have kn := hid (fun W : World => near_any (A * A + B * B) W (by omega))
  have s1 : (A : Int) * A = ((A * A : Nat) : Int) := by simp
  have s2 : (B : Int) * B = ((B * B : Nat) : Int) := by simp
  generalize A * A = X at *
  generalize B * B = Y at *
  have w1 : IntKind.i64.wrap ((X : Int)) = X := by rw [IntKind.wrap_i64]; omega
  have w2 : IntKind.i64.wrap ((Y : Int)) = Y := by rw [IntKind.wrap_i64]; omega
  have w3 : IntKind.i64.wrap ((X : Int) + Y) = ((X + Y : Nat) : Int) := by rw [IntKind.wrap_i64]; omega
  have w4 : IntKind.u64.wrap (((X + Y : Nat) : Int)) = ((X + Y : Nat) : Int) := by rw [IntKind.wrap_u64]; omega
  generalize X + Y = Z at *
  generalize nearS Z = N at *
  have w5 : IntKind.i64.wrap ((N : Int)) = N := by rw [IntKind.wrap_i64]; omega
  clear e q1 q2 ha hb
  go_enter Try.func14, Try.ntmps14
  go_wp2_with fail
  refine (withinD_any A _).mono ?_
  rintro e V ⟨rfl, rfl⟩
  rw [k1]
  go_wp2_with fail
  refine (withinD_any B _).mono ?_
  rintro e V ⟨rfl, rfl⟩
  rw [k2]
  go_wp2_with fail
  refine (kn.out _).mono ?_
  rintro e V ⟨rfl, rfl⟩
  go_wp2_with fail
  go_ret
  exact ⟨rfl, rfl⟩
set_option maxRecDepth 100000 in
set_option maxHeartbeats 2000000 in
theorem rtog_any (a b : Int) (w : World) (ha : -9223372036854775808 ≤ a) (hb : -9223372036854775808 ≤ b) : Calls Try.prog 15 #[.int .i64 a, .int .i64 b] w fun e w' => e = .returned (.int .i64 (togS a b)) ∧ w' = w := by
  have hT := togS_bd a b
  by_cases c1 : 0 ≤ a
  case neg =>
    have e : togS a b = 0 := by unfold togS; rw [if_neg (fun h => c1 (by first | exact h.1 | exact h.2.1 | exact h.2.2.1 | exact h.2.2.2))]
    rw [e]
    clear e hT
    go_enter Try.func15, Try.ntmps15
    go_wp2_with fail
    go_ret
    exact ⟨rfl, rfl⟩
  by_cases c2 : a ≤ 65535
  case neg =>
    have e : togS a b = 0 := by unfold togS; rw [if_neg (fun h => c2 (by first | exact h.1 | exact h.2.1 | exact h.2.2.1 | exact h.2.2.2))]
    rw [e]
    clear e hT
    go_enter Try.func15, Try.ntmps15
    go_wp2_with fail
    go_ret
    exact ⟨rfl, rfl⟩
  by_cases c3 : 0 ≤ b
  case neg =>
    have e : togS a b = 0 := by unfold togS; rw [if_neg (fun h => c3 (by first | exact h.1 | exact h.2.1 | exact h.2.2.1 | exact h.2.2.2))]
    rw [e]
    clear e hT
    go_enter Try.func15, Try.ntmps15
    go_wp2_with fail
    go_ret
    exact ⟨rfl, rfl⟩
  by_cases c4 : b ≤ 65535
  case neg =>
    have e : togS a b = 0 := by unfold togS; rw [if_neg (fun h => c4 (by first | exact h.1 | exact h.2.1 | exact h.2.2.1 | exact h.2.2.2))]
    rw [e]
    clear e hT
    go_enter Try.func15, Try.ntmps15
    go_wp2_with fail
    go_ret
    exact ⟨rfl, rfl⟩
  obtain ⟨A, rfl⟩ := Int.eq_ofNat_of_zero_le c1
  obtain ⟨B, rfl⟩ := Int.eq_ofNat_of_zero_le c3
  have e : togS A B = (nearS (A * A + B * B) : Int) := by
    unfold togS
    rw [if_pos ⟨c1, c2, c3, c4⟩]
    have : ((A : Int) * A + B * B).toNat = A * A + B * B := by omega
    rw [this]
  rw [e] at hT ⊢
  have q1 : A * A ≤ 65535 * 65535 := Nat.mul_le_mul (by omega) (by omega)
  have q2 : B * B ≤ 65535 * 65535 := Nat.mul_le_mul (by omega) (by omega)
  have kn := hid (fun W : World => rnear_any (A * A + B * B) W (by omega))
  have s1 : (A : Int) * A = ((A * A : Nat) : Int) := by simp
  have s2 : (B : Int) * B = ((B * B : Nat) : Int) := by simp
  generalize A * A = X at *
  generalize B * B = Y at *
  have w1 : IntKind.i64.wrap ((X : Int)) = X := by rw [IntKind.wrap_i64]; omega
  have w2 : IntKind.i64.wrap ((Y : Int)) = Y := by rw [IntKind.wrap_i64]; omega
  have w3 : IntKind.i64.wrap ((X : Int) + Y) = ((X + Y : Nat) : Int) := by rw [IntKind.wrap_i64]; omega
  have w4 : IntKind.u64.wrap (((X + Y : Nat) : Int)) = ((X + Y : Nat) : Int) := by rw [IntKind.wrap_u64]; omega
  generalize X + Y = Z at *
  generalize nearS Z = N at *
  have w5 : IntKind.i64.wrap ((N : Int)) = N := by rw [IntKind.wrap_i64]; omega
  clear e q1 q2 ha hb
  go_enter Try.func15, Try.ntmps15
  go_wp2_with fail
  refine (kn.out _).mono ?_
  rintro e V ⟨rfl, rfl⟩
  go_wp2_with fail
  go_ret
  exact ⟨rfl, rfl⟩

end Go.Proofs.Ytalmkeehocakeaa
