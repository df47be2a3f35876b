/- Package bits and its reference: Put. -/
import Derived.Test.YtnabfimammojhaaBitsMath
namespace Go.Proofs.Ytnabfimammojhaa
open Go.ChangeShapes Go.WideShapes Go.ChangeAt Go.RowKit
set_option linter.unusedVariables false

theorem put_lt (x a n v : Nat) (hx : x < 2 ^ 32) (h : a + n ≤ 32) (hv : v < 2 ^ n) : x / 2 ^ (a + n) * 2 ^ (a + n) + v * 2 ^ a + x % 2 ^ a < 2 ^ 32 := by
  rw [← put_bits x a n v hx h hv]
  refine Nat.or_lt_two_pow (Nat.lt_of_le_of_lt Nat.and_le_left hx) ?_
  have h1 : v * 2 ^ a < 2 ^ n * 2 ^ a := Nat.mul_lt_mul_of_pos_right hv (Nat.two_pow_pos a)
  have h2 : 2 ^ n * 2 ^ a ≤ 2 ^ 32 := by rw [← Nat.pow_add]; exact Nat.pow_le_pow_right (by omega) (by omega)
  omega
theorem ret_tup {a a' b b' : Value} (h : a' = a) (h2 : b' = b) : Ending.returned (.tuple #[a, b]) = Ending.returned (.tuple #[a', b']) := by rw [h, h2]
/-- A word with v in a place. -/
def putP (a n : Int) (v : Nat) : Prop := plP a n = true ∧ v < 2 ^ n.toNat
instance (a n : Int) (v : Nat) : Decidable (putP a n v) := by unfold putP; infer_instance
def putV (x : Nat) (a n : Int) (v : Nat) : Nat := if putP a n v then x / 2 ^ (a.toNat + n.toNat) * 2 ^ (a.toNat + n.toNat) + v * 2 ^ a.toNat + x % 2 ^ a.toNat else 0
def putOk (a n : Int) (v : Nat) : Bool := decide (putP a n v)
theorem put_yes {x a n v : Nat} (h : putP a n v) : putV x a n v = x / 2 ^ (a + n) * 2 ^ (a + n) + v * 2 ^ a + x % 2 ^ a ∧ putOk a n v = true := ⟨by unfold putV; rw [if_pos h]; rfl, by unfold putOk; rw [decide_eq_true h]⟩
theorem put_no {x : Nat} {a n : Int} {v : Nat} (h : ¬ putP a n v) : putV x a n v = 0 ∧ putOk a n v = false := ⟨by unfold putV; rw [if_neg h], by unfold putOk; rw [decide_eq_false h]⟩

theorem put_any (x : Nat) (a n : Int) (v : Nat) (w : World) (hx : x < 4294967296) (hv : v < 4294967296) (h1 : -9223372036854775808 ≤ n) (h2 : n ≤ 9223372036854775807) (h3 : -9223372036854775808 ≤ a) (h4 : a ≤ 9223372036854775807) :
    Calls Try.prog 35 #[.int .u32 x, .int .i64 a, .int .i64 n, .int .u32 v] w fun e w' => e = .returned (.tuple #[.int .u32 (putV x a n v), .bool (putOk a n v)]) ∧ (∃ m, w' = w.drewN m) := by
  by_cases c : plP a n = true
  case neg =>
    have e := hid (put_no (x := x) (v := v) (fun h => c h.1))
    have c := Bool.not_eq_true _ ▸ c
    go_enter Try.func35, Try.ntmps35
    go_wp2_with fail
    refine (place_any a n _ h1 h2 h3 h4).mono ?_
    rintro e w2 ⟨rfl, rfl⟩
    rw [c]
    clear c
    go_wp2_with fail
    go_ret2
    rw [e.out.1, e.out.2]
    exact ⟨rfl, ⟨0, rfl⟩⟩
  have c1 : 1 ≤ n ∧ n ≤ 32 ∧ 0 ≤ a ∧ a + n ≤ 32 := by unfold plP at c; simpa using c
  have hpl := hid c
  obtain ⟨a, rfl⟩ := Int.eq_ofNat_of_zero_le c1.2.2.1
  obtain ⟨n, rfl⟩ := Int.eq_ofNat_of_zero_le (show 0 ≤ n by omega)
  obtain ⟨m, hm⟩ : ∃ m : Nat, m = 2 ^ n - 1 := ⟨_, rfl⟩
  have hlow := hid (fun w => (hm ▸ low_any n w (by omega) (by omega) : Calls Try.prog 46 #[.int .i64 n] w fun e w' => e = .returned (.int .u32 (m : Int)) ∧ w' = w))
  have hM := hid hm
  clear hm
  go_enter Try.func35, Try.ntmps35
  go_wp2_with fail
  refine (place_any a n _ h1 h2 h3 h4).mono ?_
  rintro e w2 ⟨rfl, rfl⟩
  rw [c]
  clear c
  go_wp2_with fail
  refine (hlow.out _).mono ?_
  rintro e w3 ⟨rfl, rfl⟩
  by_cases cv : (m : Int) < (v : Int)
  · have e := hid (put_no (x := x) (a := a) (n := n) (v := v) (fun h => by
      have := h.2
      rw [show ((n : Int)).toNat = n from rfl] at this
      have := hM.out
      omega))
    go_wp2_with fail
    all_goals (first | omega | skip)
    go_ret2
    rw [e.out.1, e.out.2]
    exact ⟨rfl, ⟨0, rfl⟩⟩
  have hvn : v < 2 ^ n := by have := hM.out; have := Nat.two_pow_pos n; omega
  have hP : putP a n v := ⟨hpl.out, hvn⟩
  have e := put_yes (x := x) hP
  rw [← put_bits x a n v (by omega) (by omega) hvn, ← hM.out] at e
  have hle : 2 ^ n * 2 ^ a ≤ 4294967296 := by
    have : 2 ^ (n + a) ≤ 2 ^ 32 := Nat.pow_le_pow_right (by omega) (by omega)
    have h32 : (2 : Nat) ^ 32 = 4294967296 := by decide
    rw [← Nat.pow_add]; omega
  have hS1l : m * 2 ^ a < 4294967296 := by
    have : m * 2 ^ a < 2 ^ n * 2 ^ a := Nat.mul_lt_mul_of_pos_right (by rw [hM.out]; have := Nat.two_pow_pos n; omega) (Nat.two_pow_pos a)
    omega
  have hS2l : v * 2 ^ a < 4294967296 := by
    have : v * 2 ^ a < 2 ^ n * 2 ^ a := Nat.mul_lt_mul_of_pos_right hvn (Nat.two_pow_pos a)
    omega
  have cS1 : (m : Int) * 2 ^ a = ((m * 2 ^ a : Nat) : Int) := by simp
  have cS2 : (v : Int) * 2 ^ a = ((v * 2 ^ a : Nat) : Int) := by simp
  generalize m * 2 ^ a = S1 at *
  generalize v * 2 ^ a = S2 at *
  have w1 : IntKind.u32.wrap ((m : Int) * 2 ^ a) = (S1 : Int) := by rw [cS1, IntKind.wrap_u32]; omega
  have w2 : IntKind.u32.wrap ((v : Int) * 2 ^ a) = (S2 : Int) := by rw [cS2, IntKind.wrap_u32]; omega
  clear cS1 cS2
  have eA := u32_andNot_nat x S1 hx hS1l
  have hAl : x &&& (4294967295 - S1) < 4294967296 := Nat.lt_of_le_of_lt Nat.and_le_left hx
  generalize x &&& (4294967295 - S1) = A at *
  have eO := u32_or_nat A S2 hAl hS2l
  obtain ⟨R, hR⟩ : ∃ R : Nat, R = A ||| S2 := ⟨_, rfl⟩
  rw [← hR] at e eO
  have hE := hid e
  have a31 : (a : Int) < 32 := by omega
  clear e hR hle hvn hS1l hS2l hAl
  go_wp2_with fail
  refine wp_region_quiet_lit (by kernel_rfl) (by kernel_rfl) ?_
  quiet_step (fail)
  quiet_step (fail)
  quiet_step (exact Calls.quiet_of_same (hlow.out _))
  repeat (quiet_step (fail))
  refine wpQuiet_nil ?_
  intro _ hw0
  obtain ⟨nq, hw1⟩ := hw0
  subst hw1
  go_wp2_with fail
  go_ret2
  exact ⟨ret_tup (by rw [hE.out.1]; rfl) (by rw [hE.out.2]; rfl), ⟨_, rfl⟩⟩

end Go.Proofs.Ytnabfimammojhaa
