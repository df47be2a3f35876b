/- Package bits and its reference: Put. -/
import Derived.Test.YtefcbfhhehogdaaBitsMath
namespace Go.Proofs.Ytefcbfhhehogdaa
open Go.ChangeShapes Go.WideShapes Go.ChangeAt Go.RowKit
set_option linter.unusedVariables false

theorem put_lt (x a n v : Nat) (hx : x < 2 ^ 32) (h : a + n ≤ 32) (hv : v < 2 ^ n) : x / 2 ^ (a + n) * 2 ^ (a + n) + v * 2 ^ a + x % 2 ^ a < 2 ^ 32 := by
  rw [← put_bits x a n v hx h hv]
  refine Nat.or_lt_two_pow (Nat.lt_of_le_of_lt Nat.and_le_left hx) ?_
  have h1 : v * 2 ^ a < 2 ^ n * 2 ^ a := Nat.mul_lt_mul_of_pos_right hv (Nat.two_pow_pos a)
  have h2 : 2 ^ n * 2 ^ a ≤ 2 ^ 32 := by rw [← Nat.pow_add]; exact Nat.pow_le_pow_right (by omega) (by omega)
  omega
theorem ret_tup {a a' b b' : Value} (h : a' = a) (h2 : b' = b) : Ending.returned (.tuple #[a, b]) = Ending.returned (.tuple #[a', b']) := by rw [h, h2]
/-- A word with v in a place. -/
def putP (a n : Int) (v : Nat) : Prop := plP a n = true ∧ v < 2 ^ n.toNat
instance (a n : Int) (v : Nat) : Decidable (putP a n v) := by unfold putP; infer_instance
def putV (x : Nat) (a n : Int) (v : Nat) : Nat := if putP a n v then x / 2 ^ (a.toNat + n.toNat) * 2 ^ (a.toNat + n.toNat) + v * 2 ^ a.toNat + x % 2 ^ a.toNat else 0
def putOk (a n : Int) (v : Nat) : Bool := decide (putP a n v)
theorem put_yes {x a n v : Nat} (h : putP a n v) : putV x a n v = x / 2 ^ (a + n) * 2 ^ (a + n) + v * 2 ^ a + x % 2 ^ a ∧ putOk a n v = true := ⟨by unfold putV; rw [if_pos h]; rfl, by unfold putOk; rw [decide_eq_true h]⟩
theorem put_no {x : Nat} {a n : Int} {v : Nat} (h : ¬ putP a n v) : putV x a n v = 0 ∧ putOk a n v = false := ⟨by unfold putV; rw [if_neg h], by unfold putOk; rw [decide_eq_false h]⟩

theorem rput_any (x : Nat) (a n : Int) (v : Nat) (w : World) (hx : x < 4294967296) (hv : v < 4294967296) (h1 : -9223372036854775808 ≤ n) (h2 : n ≤ 9223372036854775807) (h3 : -9223372036854775808 ≤ a) (h4 : a ≤ 9223372036854775807) :
    Calls Try.prog 7 #[.int .u32 x, .int .i64 a, .int .i64 n, .int .u32 v] w fun e w' => e = .returned (.tuple #[.int .u32 (putV x a n v), .bool (putOk a n v)]) ∧ (∃ m, w' = w.drewN m) := by
  by_cases c : plP a n = true
  case neg =>
    have e := hid (put_no (x := x) (v := v) (fun h => c h.1))
    have c := Bool.not_eq_true _ ▸ c
    go_enter Try.func7, Try.ntmps7
    go_wp2_with fail
    refine (rplace_any a n _ h1 h2 h3 h4).mono ?_
    rintro e w2 ⟨rfl, rfl⟩
    rw [c]
    clear c
    go_wp2_with fail
    go_ret2
    rw [e.out.1, e.out.2]
    exact ⟨rfl, ⟨0, rfl⟩⟩
  have c1 : 1 ≤ n ∧ n ≤ 32 ∧ 0 ≤ a ∧ a + n ≤ 32 := by unfold plP at c; simpa using c
  have hpl := hid c
  obtain ⟨a, rfl⟩ := Int.eq_ofNat_of_zero_le c1.2.2.1
  obtain ⟨n, rfl⟩ := Int.eq_ofNat_of_zero_le (show 0 ≤ n by omega)
  obtain ⟨p1, q1⟩ : ∃ p, Go.RowKit.Hid (p = 2 ^ a) := ⟨_, hid (Eq.refl (2 ^ a))⟩
  obtain ⟨p2, q2⟩ : ∃ p, Go.RowKit.Hid (p = 2 ^ n) := ⟨_, hid (Eq.refl (2 ^ n))⟩
  go_enter Try.func7, Try.ntmps7
  go_wp2_with fail
  refine (rplace_any a n _ h1 h2 h3 h4).mono ?_
  rintro e w2 ⟨rfl, rfl⟩
  rw [c]
  clear c
  have f1 : IntKind.u64.wrap (x : Int) = x := by simp [IntKind.wrap, IntKind.bits, IntKind.signed]; omega
  have f2 : IntKind.u64.wrap (v : Int) = v := by simp [IntKind.wrap, IntKind.bits, IntKind.signed]; omega
  go_wp2_with fail
  refine (power_any n p2 q2 _ (by omega)).mono ?_
  rintro e w3 ⟨rfl, rfl⟩
  by_cases cv : (p2 : Int) ≤ (v : Int)
  · have e := hid (put_no (x := x) (a := a) (n := n) (v := v) (fun h => by
      have := h.2
      rw [show ((n : Int)).toNat = n from rfl, ← q2.out] at this
      omega))
    go_wp2_with fail
    all_goals (first | omega | skip)
    go_ret2
    rw [e.out.1, e.out.2]
    exact ⟨rfl, ⟨0, rfl⟩⟩
  obtain ⟨p3, q3⟩ : ∃ p, Go.RowKit.Hid (p = 2 ^ (a + n)) := ⟨_, hid (Eq.refl (2 ^ (a + n)))⟩
  have hP : putP a n v := ⟨hpl.out, by rw [show ((n : Int)).toNat = n from rfl, ← q2.out]; omega⟩
  have hvn : v < 2 ^ n := by rw [← q2.out]; omega
  have e := put_yes (x := x) hP
  have hlt := put_lt x a n v (by omega) (by omega) hvn
  rw [← q3.out, ← q1.out] at e hlt
  have g1 : 1 ≤ p1 := by rw [q1.out]; exact Nat.one_le_two_pow
  have g3 : 1 ≤ p3 := by rw [q3.out]; exact Nat.one_le_two_pow
  obtain ⟨H, hH⟩ : ∃ H : Nat, H = x / p3 := ⟨_, rfl⟩
  obtain ⟨K, hK⟩ : ∃ K : Nat, K = H * p3 := ⟨_, rfl⟩
  obtain ⟨V, hV⟩ : ∃ V : Nat, V = v * p1 := ⟨_, rfl⟩
  obtain ⟨L, hL⟩ : ∃ L : Nat, L = x % p1 := ⟨_, rfl⟩
  rw [← hH, ← hK, ← hV, ← hL] at e hlt
  have eH : (x : Int) / (p3 : Int) = (H : Int) := by rw [hH]; simp
  have eK : (H : Int) * (p3 : Int) = (K : Int) := by rw [hK]; simp
  have eV : (v : Int) * (p1 : Int) = (V : Int) := by rw [hV]; simp
  have eL : (x : Int) % (p1 : Int) = (L : Int) := by rw [hL]; simp
  have eL2 : (x : Int).tmod (p1 : Int) = (L : Int) := by rw [Int.tmod_eq_emod_of_nonneg (by omega)]; exact eL
  have hE := hid e
  have hHx : H ≤ x := by rw [hH]; exact Nat.div_le_self _ _
  clear hH hK hV hL e
  have fs : IntKind.i64.wrap ((a : Int) + (n : Int)) = a + n := by rw [IntKind.wrap_i64]; omega
  have fK : IntKind.u64.wrap (K : Int) = K := by simp [IntKind.wrap, IntKind.bits, IntKind.signed]; omega
  have fH : IntKind.u64.wrap (H : Int) = H := by simp [IntKind.wrap, IntKind.bits, IntKind.signed]; omega
  have n1 : ¬ (p1 = 0) := by omega
  have n3 : ¬ (p3 = 0) := by omega
  have hp3 := hid (fun w => (show Calls Try.prog 23 #[.int .i64 ((a : Int) + (n : Int))] w fun e w' => e = .returned (.int .u64 (p3 : Int)) ∧ w' = w from by
    have h := power_any (a + n) p3 q3 w (by omega)
    rwa [Int.natCast_add] at h))
  go_wp2_with fail
  refine wp_region_quiet_lit (by kernel_rfl) (by kernel_rfl) ?_
  repeat (quiet_step (exact Calls.quiet_of_same (hp3.out _)))
  refine wpQuiet_nil ?_
  intro _ hw0
  obtain ⟨nq, hw1⟩ := hw0
  subst hw1
  go_wp2_with fail
  refine (power_any a p1 q1 _ (by omega)).mono ?_
  rintro e w4 ⟨rfl, rfl⟩
  go_wp2_with fail
  refine (power_any a p1 q1 _ (by omega)).mono ?_
  rintro e w5 ⟨rfl, rfl⟩
  go_wp2_with fail
  go_ret2
  exact ⟨ret_tup (by rw [hE.out.1]; exact congrArg (Value.int .u32) (by omega)) (by rw [hE.out.2]; rfl), ⟨_, rfl⟩⟩

theorem put_any (x : Nat) (a n : Int) (v : Nat) (w : World) (hx : x < 4294967296) (hv : v < 4294967296) (h1 : -9223372036854775808 ≤ n) (h2 : n ≤ 9223372036854775807) (h3 : -9223372036854775808 ≤ a) (h4 : a ≤ 9223372036854775807) :
    Calls Try.prog 6 #[.int .u32 x, .int .i64 a, .int .i64 n, .int .u32 v] w fun e w' => e = .returned (.tuple #[.int .u32 (putV x a n v), .bool (putOk a n v)]) ∧ (∃ m, w' = w.drewN m) := by
  by_cases c : plP a n = true
  case neg =>
    have e := hid (put_no (x := x) (v := v) (fun h => c h.1))
    have c := Bool.not_eq_true _ ▸ c
    go_enter Try.func6, Try.ntmps6
    go_wp2_with fail
    refine (place_any a n _ h1 h2 h3 h4).mono ?_
    rintro e w2 ⟨rfl, rfl⟩
    rw [c]
    clear c
    go_wp2_with fail
    go_ret2
    rw [e.out.1, e.out.2]
    exact ⟨rfl, ⟨0, rfl⟩⟩
  have c1 : 1 ≤ n ∧ n ≤ 32 ∧ 0 ≤ a ∧ a + n ≤ 32 := by unfold plP at c; simpa using c
  have hpl := hid c
  obtain ⟨a, rfl⟩ := Int.eq_ofNat_of_zero_le c1.2.2.1
  obtain ⟨n, rfl⟩ := Int.eq_ofNat_of_zero_le (show 0 ≤ n by omega)
  obtain ⟨m, hm⟩ : ∃ m : Nat, m = 2 ^ n - 1 := ⟨_, rfl⟩
  have hlow := hid (fun w => (hm ▸ low_any n w (by omega) (by omega) : Calls Try.prog 21 #[.int .i64 n] w fun e w' => e = .returned (.int .u32 (m : Int)) ∧ w' = w))
  have hM := hid hm
  clear hm
  go_enter Try.func6, Try.ntmps6
  go_wp2_with fail
  refine (place_any a n _ h1 h2 h3 h4).mono ?_
  rintro e w2 ⟨rfl, rfl⟩
  rw [c]
  clear c
  go_wp2_with fail
  refine (hlow.out _).mono ?_
  rintro e w3 ⟨rfl, rfl⟩
  by_cases cv : (m : Int) < (v : Int)
  · have e := hid (put_no (x := x) (a := a) (n := n) (v := v) (fun h => by
      have := h.2
      rw [show ((n : Int)).toNat = n from rfl] at this
      have := hM.out
      omega))
    go_wp2_with fail
    all_goals (first | omega | skip)
    go_ret2
    rw [e.out.1, e.out.2]
    exact ⟨rfl, ⟨0, rfl⟩⟩
  have hvn : v < 2 ^ n := by have := hM.out; have := Nat.two_pow_pos n; omega
  have hP : putP a n v := ⟨hpl.out, hvn⟩
  have e := put_yes (x := x) hP
  rw [← put_bits x a n v (by omega) (by omega) hvn, ← hM.out] at e
  have hle : 2 ^ n * 2 ^ a ≤ 4294967296 := by
    have : 2 ^ (n + a) ≤ 2 ^ 32 := Nat.pow_le_pow_right (by omega) (by omega)
    have h32 : (2 : Nat) ^ 32 = 4294967296 := by decide
    rw [← Nat.pow_add]; omega
  have hS1l : m * 2 ^ a < 4294967296 := by
    have : m * 2 ^ a < 2 ^ n * 2 ^ a := Nat.mul_lt_mul_of_pos_right (by rw [hM.out]; have := Nat.two_pow_pos n; omega) (Nat.two_pow_pos a)
    omega
  have hS2l : v * 2 ^ a < 4294967296 := by
    have : v * 2 ^ a < 2 ^ n * 2 ^ a := Nat.mul_lt_mul_of_pos_right hvn (Nat.two_pow_pos a)
    omega
  have cS1 : (m : Int) * 2 ^ a = ((m * 2 ^ a : Nat) : Int) := by simp
  have cS2 : (v : Int) * 2 ^ a = ((v * 2 ^ a : Nat) : Int) := by simp
  generalize m * 2 ^ a = S1 at *
  generalize v * 2 ^ a = S2 at *
  have w1 : IntKind.u32.wrap ((m : Int) * 2 ^ a) = (S1 : Int) := by rw [cS1, IntKind.wrap_u32]; omega
  have w2 : IntKind.u32.wrap ((v : Int) * 2 ^ a) = (S2 : Int) := by rw [cS2, IntKind.wrap_u32]; omega
  clear cS1 cS2
  have eA := u32_andNot_nat x S1 hx hS1l
  have hAl : x &&& (4294967295 - S1) < 4294967296 := Nat.lt_of_le_of_lt Nat.and_le_left hx
  generalize x &&& (4294967295 - S1) = A at *
  have eO := u32_or_nat A S2 hAl hS2l
  obtain ⟨R, hR⟩ : ∃ R : Nat, R = A ||| S2 := ⟨_, rfl⟩
  rw [← hR] at e eO
  have hE := hid e
  have a31 : (a : Int) < 32 := by omega
  clear e hR hle hvn hS1l hS2l hAl
  go_wp2_with fail
  refine wp_region_quiet_lit (by kernel_rfl) (by kernel_rfl) ?_
  quiet_step (fail)
  quiet_step (fail)
  quiet_step (exact Calls.quiet_of_same (hlow.out _))
  repeat (quiet_step (fail))
  refine wpQuiet_nil ?_
  intro _ hw0
  obtain ⟨nq, hw1⟩ := hw0
  subst hw1
  go_wp2_with fail
  go_ret2
  exact ⟨ret_tup (by rw [hE.out.1]; rfl) (by rw [hE.out.2]; rfl), ⟨_, rfl⟩⟩

end Go.Proofs.Ytefcbfhhehogdaa
