/- Several texts in one: Bits, BitsMath, Bits2, Bits3, Bits4, Bits5, Bits6, Bits7, Bits8. -/
import Derived.Test.YtpdpcdifnlellaaGreatKA
import Derived.Laws.BitsAllLaws
import Derived.Laws.ShiftsVarLaws

/- Package bits and its reference: contracts. -/
namespace Go.Proofs.YtpdpcdifnlellaaGreat
open Go.ChangeShapes Go.WideShapes Go.ChangeAt Go.RowKit
set_option maxRecDepth 100000
set_option linter.unusedVariables false

def szP (n : Int) : Bool := decide (1 ≤ n ∧ n ≤ 32)
def plP (at_ n : Int) : Bool := decide (1 ≤ n ∧ n ≤ 32 ∧ 0 ≤ at_ ∧ at_ + n ≤ 32)

theorem sized_any (n : Int) (w : World) (h1 : -9223372036854775808 ≤ n) (h2 : n ≤ 9223372036854775807) :
    Calls Tryz.prog 106 #[.int .i64 n] w fun e w' => e = .returned (.bool (szP n)) ∧ w' = w := by
  by_cases c1 : 1 ≤ n
  · by_cases c2 : n ≤ 32
    · have e := hid (show szP n = true by unfold szP; simp; omega)
      go_enter Tryz.func106, Tryz.ntmps106
      go_wp2_with fail
      go_ret
      exact ⟨ret_bool e.out.symm, rfl⟩
    · have e := hid (show szP n = false by unfold szP; simp; omega)
      go_enter Tryz.func106, Tryz.ntmps106
      go_wp2_with fail
      go_ret
      exact ⟨ret_bool e.out.symm, rfl⟩
  · have e := hid (show szP n = false by unfold szP; simp; omega)
    go_enter Tryz.func106, Tryz.ntmps106
    go_wp2_with fail
    go_ret
    exact ⟨ret_bool e.out.symm, rfl⟩

theorem low_is : ∀ n : Nat, n < 33 → 1 ≤ n → (4294967295 : Int) / 2 ^ (32 - n) = ((2 ^ n - 1 : Nat) : Int) := by decide
theorem low_any (n : Nat) (w : World) (h1 : 1 ≤ n) (h2 : n ≤ 32) :
    Calls Tryz.prog 109 #[.int .i64 n] w fun e w' => e = .returned (.int .u32 ((2 ^ n - 1 : Nat) : Int)) ∧ w' = w := by
  go_enter Tryz.func109, Tryz.ntmps109
  have e := hid (low_is n (by omega) h1)
  go_wp2_with fail
  go_ret
  exact ⟨ret_int e.out, rfl⟩

theorem bpower_any (n q : Nat) (hq : Go.RowKit.Hid (q = 2 ^ n)) (w : World) (h2 : n ≤ 32) :
    Calls Tryz.prog 97 #[.int .i64 n] w fun e w' => e = .returned (.int .u64 (q : Int)) ∧ w' = w := by
  go_enter Tryz.func97, Tryz.ntmps97
  go_wp2_with fail
  go_loopw [3, 4] (fun v x wr => ∃ (k p : Nat), wr = w ∧ k ≤ n ∧ x = .int .i64 k ∧ v = .int .u64 p ∧ Hid (p = 2 ^ k) ∧ p ≤ 4294967296) (fun _ x _ => n - (intOf x).toNat)
  case atStart => exact ⟨0, 1, rfl, by omega, rfl, rfl, rfl, by omega⟩
  case round =>
    obtain ⟨k, p, rfl, hk, rfl, rfl, hp, hp2⟩ := hrel
    by_cases hlt : (k : Int) < n
    · go_wp2_with fail
      go_roundw
      case rel =>
        have e : 2 * p = 2 ^ (k + 1) := by rw [hp.out, Nat.pow_succ, Nat.mul_comm]
        refine ⟨k + 1, 2 * p, trivial, by omega, by simp, by simp, e, ?_⟩
        rw [e]
        exact Nat.pow_le_pow_right (by omega) (show k + 1 ≤ 32 by omega)
      case measure => simp [intOf]; omega
    · go_wp2_with fail
      go_ret
      obtain rfl : k = n := by omega
      exact ⟨ret_int (by rw [hp.out, hq.out]), rfl⟩

theorem place_any (a n : Int) (w : World) (h1 : -9223372036854775808 ≤ n) (h2 : n ≤ 9223372036854775807) (h3 : -9223372036854775808 ≤ a) (h4 : a ≤ 9223372036854775807) :
    Calls Tryz.prog 108 #[.int .i64 a, .int .i64 n] w fun e w' => e = .returned (.bool (plP a n)) ∧ w' = w := by
  go_enter Tryz.func108, Tryz.ntmps108
  go_wp2_with fail
  refine (sized_any n _ h1 h2).mono ?_
  rintro e w2 ⟨rfl, rfl⟩
  by_cases c : 1 ≤ n ∧ n ≤ 32
  · have e : szP n = true := by unfold szP; simp; omega
    rw [e]
    clear e
    go_wp2_with fail
    all_goals go_ret
    all_goals exact ⟨ret_bool (by unfold plP; rw [Bool.eq_iff_iff]; simp; omega), rfl⟩
  · have e : szP n = false := by unfold szP; simp; omega
    rw [e]
    have e2 : plP a n = false := by unfold plP; simp; omega
    have e2 := hid e2
    clear e
    go_wp2_with fail
    all_goals go_ret
    all_goals exact ⟨ret_bool (by rw [e2.out]), rfl⟩

/-- The bits of a place. -/
def getS (x : Nat) (a n : Int) : Nat := if plP a n then x / 2 ^ a.toNat % 2 ^ n.toNat else 0

end Go.Proofs.YtpdpcdifnlellaaGreat

/- Bits of a word: plain numbers. -/
namespace Go.Proofs.YtpdpcdifnlellaaGreat
open Go.RowKit
set_option maxRecDepth 100000
set_option linter.unusedVariables false

theorem tb_high {x k i : Nat} (h : x < 2 ^ k) (hi : k ≤ i) : x.testBit i = false :=
  Nat.testBit_lt_two_pow (Nat.lt_of_lt_of_le h (Nat.pow_le_pow_right (by omega) hi))
theorem tb_mul (x a i : Nat) : (x * 2 ^ a).testBit i = (decide (a ≤ i) && x.testBit (i - a)) := by
  rw [← Nat.shiftLeft_eq, Nat.testBit_shiftLeft]
theorem put_sum (x a n v : Nat) (hv : v < 2 ^ n) : x / 2 ^ (a + n) * 2 ^ (a + n) + v * 2 ^ a + x % 2 ^ a = (x / 2 ^ (a + n) * 2 ^ (a + n) ||| v * 2 ^ a) ||| x % 2 ^ a := by
  have hL : x % 2 ^ a < 2 ^ a := Nat.mod_lt _ (Nat.two_pow_pos a)
  have hV : v * 2 ^ a < 2 ^ (a + n) := by
    rw [Nat.pow_add, Nat.mul_comm]; exact Nat.mul_lt_mul_of_pos_left hv (Nat.two_pow_pos a)
  have e1 : x / 2 ^ (a + n) * 2 ^ (a + n) ||| v * 2 ^ a = x / 2 ^ (a + n) * 2 ^ (a + n) + v * 2 ^ a := by
    rw [nat_join (a + n) _ _ (Nat.mul_mod_left _ _) hV]
  rw [e1, nat_join a _ _ ?_ hL]
  rw [Nat.pow_add, Nat.mul_comm (2 ^ a) (2 ^ n), ← Nat.mul_assoc, ← Nat.add_mul]
  exact Nat.mul_mod_left _ _
theorem put_bits (x a n v : Nat) (hx : x < 2 ^ 32) (h : a + n ≤ 32) (hv : v < 2 ^ n) :
    (x &&& (4294967295 - (2 ^ n - 1) * 2 ^ a)) ||| v * 2 ^ a = x / 2 ^ (a + n) * 2 ^ (a + n) + v * 2 ^ a + x % 2 ^ a := by
  rw [put_sum x a n v hv]
  have hk : (2 ^ n - 1) * 2 ^ a < 2 ^ 32 := by
    have h1 : 2 ^ n * 2 ^ a ≤ 2 ^ 32 := by rw [← Nat.pow_add]; exact Nat.pow_le_pow_right (by omega) (by omega)
    have h2 : (2 ^ n - 1) * 2 ^ a < 2 ^ n * 2 ^ a := Nat.mul_lt_mul_of_pos_right (by have := Nat.two_pow_pos n; omega) (Nat.two_pow_pos a)
    omega
  have e : 4294967295 - (2 ^ n - 1) * 2 ^ a = 2 ^ 32 - ((2 ^ n - 1) * 2 ^ a + 1) := by omega
  refine Nat.eq_of_testBit_eq fun i => ?_
  rw [e, Nat.testBit_or, Nat.testBit_and, Nat.testBit_two_pow_sub_succ hk, tb_mul, tb_mul, Nat.testBit_two_pow_sub_one, Nat.testBit_or, Nat.testBit_or, tb_mul, tb_mul, Nat.testBit_div_two_pow, Nat.testBit_mod_two_pow]
  by_cases h1 : i < a
  · have a1 : ¬ a ≤ i := by omega
    have a2 : ¬ a + n ≤ i := by omega
    have a3 : i < 32 := by omega
    simp [h1, a1, a2, a3]
  · have a1 : a ≤ i := by omega
    by_cases h2 : i - a < n
    · have a2 : ¬ a + n ≤ i := by omega
      simp [h1, a1, a2, h2]
    · have a2 : a + n ≤ i := by omega
      have a4 : v.testBit (i - a) = false := tb_high hv (by omega)
      have a5 : i - (a + n) + (a + n) = i := by omega
      by_cases h3 : i < 32
      · simp [h1, a1, a2, h2, h3, a4, a5]
      · have a6 := tb_high hx (show 32 ≤ i by omega)
        simp [h1, a1, a2, h2, h3, a4, a5, a6]

end Go.Proofs.YtpdpcdifnlellaaGreat

/- Package bits and its reference: Put. -/
namespace Go.Proofs.YtpdpcdifnlellaaGreat
open Go.ChangeShapes Go.WideShapes Go.ChangeAt Go.RowKit
set_option maxRecDepth 100000
set_option linter.unusedVariables false

theorem put_lt (x a n v : Nat) (hx : x < 2 ^ 32) (h : a + n ≤ 32) (hv : v < 2 ^ n) : x / 2 ^ (a + n) * 2 ^ (a + n) + v * 2 ^ a + x % 2 ^ a < 2 ^ 32 := by
  rw [← put_bits x a n v hx h hv]
  refine Nat.or_lt_two_pow (Nat.lt_of_le_of_lt Nat.and_le_left hx) ?_
  have h1 : v * 2 ^ a < 2 ^ n * 2 ^ a := Nat.mul_lt_mul_of_pos_right hv (Nat.two_pow_pos a)
  have h2 : 2 ^ n * 2 ^ a ≤ 2 ^ 32 := by rw [← Nat.pow_add]; exact Nat.pow_le_pow_right (by omega) (by omega)
  omega
theorem ret_tup {a a' b b' : Value} (h : a' = a) (h2 : b' = b) : Ending.returned (.tuple #[a, b]) = Ending.returned (.tuple #[a', b']) := by rw [h, h2]
/-- A word with v in a place. -/
def putP (a n : Int) (v : Nat) : Prop := plP a n = true ∧ v < 2 ^ n.toNat
instance (a n : Int) (v : Nat) : Decidable (putP a n v) := by unfold putP; infer_instance
def putV (x : Nat) (a n : Int) (v : Nat) : Nat := if putP a n v then x / 2 ^ (a.toNat + n.toNat) * 2 ^ (a.toNat + n.toNat) + v * 2 ^ a.toNat + x % 2 ^ a.toNat else 0
def putOk (a n : Int) (v : Nat) : Bool := decide (putP a n v)
theorem put_yes {x a n v : Nat} (h : putP a n v) : putV x a n v = x / 2 ^ (a + n) * 2 ^ (a + n) + v * 2 ^ a + x % 2 ^ a ∧ putOk a n v = true := ⟨by unfold putV; rw [if_pos h]; rfl, by unfold putOk; rw [decide_eq_true h]⟩
theorem put_no {x : Nat} {a n : Int} {v : Nat} (h : ¬ putP a n v) : putV x a n v = 0 ∧ putOk a n v = false := ⟨by unfold putV; rw [if_neg h], by unfold putOk; rw [decide_eq_false h]⟩

theorem put_any (x : Nat) (a n : Int) (v : Nat) (w : World) (hx : x < 4294967296) (hv : v < 4294967296) (h1 : -9223372036854775808 ≤ n) (h2 : n ≤ 9223372036854775807) (h3 : -9223372036854775808 ≤ a) (h4 : a ≤ 9223372036854775807) :
    Calls Tryz.prog 94 #[.int .u32 x, .int .i64 a, .int .i64 n, .int .u32 v] w fun e w' => e = .returned (.tuple #[.int .u32 (putV x a n v), .bool (putOk a n v)]) ∧ (∃ m, w' = w.drewN m) := by
  by_cases c : plP a n = true
  case neg =>
    have e := hid (put_no (x := x) (v := v) (fun h => c h.1))
    have c := Bool.not_eq_true _ ▸ c
    go_enter Tryz.func94, Tryz.ntmps94
    go_wp2_with fail
    refine (place_any a n _ h1 h2 h3 h4).mono ?_
    rintro e w2 ⟨rfl, rfl⟩
    rw [c]
    clear c
    go_wp2_with fail
    go_ret2
    rw [e.out.1, e.out.2]
    exact ⟨rfl, ⟨0, rfl⟩⟩
  have c1 : 1 ≤ n ∧ n ≤ 32 ∧ 0 ≤ a ∧ a + n ≤ 32 := by unfold plP at c; simpa using c
  have hpl := hid c
  obtain ⟨a, rfl⟩ := Int.eq_ofNat_of_zero_le c1.2.2.1
  obtain ⟨n, rfl⟩ := Int.eq_ofNat_of_zero_le (show 0 ≤ n by omega)
  obtain ⟨m, hm⟩ : ∃ m : Nat, m = 2 ^ n - 1 := ⟨_, rfl⟩
  have hlow := hid (fun w => (hm ▸ low_any n w (by omega) (by omega) : Calls Tryz.prog 109 #[.int .i64 n] w fun e w' => e = .returned (.int .u32 (m : Int)) ∧ w' = w))
  have hM := hid hm
  clear hm
  go_enter Tryz.func94, Tryz.ntmps94
  go_wp2_with fail
  refine (place_any a n _ h1 h2 h3 h4).mono ?_
  rintro e w2 ⟨rfl, rfl⟩
  rw [c]
  clear c
  go_wp2_with fail
  refine (hlow.out _).mono ?_
  rintro e w3 ⟨rfl, rfl⟩
  by_cases cv : (m : Int) < (v : Int)
  · have e := hid (put_no (x := x) (a := a) (n := n) (v := v) (fun h => by
      have := h.2
      rw [show ((n : Int)).toNat = n from rfl] at this
      have := hM.out
      omega))
    go_wp2_with fail
    all_goals (first | omega | skip)
    go_ret2
    rw [e.out.1, e.out.2]
    exact ⟨rfl, ⟨0, rfl⟩⟩
  have hvn : v < 2 ^ n := by have := hM.out; have := Nat.two_pow_pos n; omega
  have hP : putP a n v := ⟨hpl.out, hvn⟩
  have e := put_yes (x := x) hP
  rw [← put_bits x a n v (by omega) (by omega) hvn, ← hM.out] at e
  have hle : 2 ^ n * 2 ^ a ≤ 4294967296 := by
    have : 2 ^ (n + a) ≤ 2 ^ 32 := Nat.pow_le_pow_right (by omega) (by omega)
    have h32 : (2 : Nat) ^ 32 = 4294967296 := by decide
    rw [← Nat.pow_add]; omega
  have hS1l : m * 2 ^ a < 4294967296 := by
    have : m * 2 ^ a < 2 ^ n * 2 ^ a := Nat.mul_lt_mul_of_pos_right (by rw [hM.out]; have := Nat.two_pow_pos n; omega) (Nat.two_pow_pos a)
    omega
  have hS2l : v * 2 ^ a < 4294967296 := by
    have : v * 2 ^ a < 2 ^ n * 2 ^ a := Nat.mul_lt_mul_of_pos_right hvn (Nat.two_pow_pos a)
    omega
  have cS1 : (m : Int) * 2 ^ a = ((m * 2 ^ a : Nat) : Int) := by simp
  have cS2 : (v : Int) * 2 ^ a = ((v * 2 ^ a : Nat) : Int) := by simp
  generalize m * 2 ^ a = S1 at *
  generalize v * 2 ^ a = S2 at *
  have w1 : IntKind.u32.wrap ((m : Int) * 2 ^ a) = (S1 : Int) := by rw [cS1, IntKind.wrap_u32]; omega
  have w2 : IntKind.u32.wrap ((v : Int) * 2 ^ a) = (S2 : Int) := by rw [cS2, IntKind.wrap_u32]; omega
  clear cS1 cS2
  have eA := u32_andNot_nat x S1 hx hS1l
  have hAl : x &&& (4294967295 - S1) < 4294967296 := Nat.lt_of_le_of_lt Nat.and_le_left hx
  generalize x &&& (4294967295 - S1) = A at *
  have eO := u32_or_nat A S2 hAl hS2l
  obtain ⟨R, hR⟩ : ∃ R : Nat, R = A ||| S2 := ⟨_, rfl⟩
  rw [← hR] at e eO
  have hE := hid e
  have a31 : (a : Int) < 32 := by omega
  clear e hR hle hvn hS1l hS2l hAl
  go_wp2_with fail
  refine wp_region_quiet_lit (by kernel_rfl) (by kernel_rfl) ?_
  quiet_step (fail)
  quiet_step (fail)
  quiet_step (exact Calls.quiet_of_same (hlow.out _))
  repeat (quiet_step (fail))
  refine wpQuiet_nil ?_
  intro _ hw0
  obtain ⟨nq, hw1⟩ := hw0
  subst hw1
  go_wp2_with fail
  go_ret2
  exact ⟨ret_tup (by rw [hE.out.1]; rfl) (by rw [hE.out.2]; rfl), ⟨_, rfl⟩⟩

end Go.Proofs.YtpdpcdifnlellaaGreat

/- Package bits: numbers with a sign. -/
namespace Go.Proofs.YtpdpcdifnlellaaGreat
open Go.ChangeShapes Go.WideShapes Go.ChangeAt Go.RowKit
set_option maxRecDepth 100000
set_option linter.unusedVariables false

/-- The lowest n bits as a number with a sign. -/
def sgnN (u n : Nat) : Int := if 2 ^ (n - 1) ≤ u % 2 ^ n then ((u % 2 ^ n : Nat) : Int) - ((2 ^ n : Nat) : Int) else ((u % 2 ^ n : Nat) : Int)
theorem sgn_is (u n : Nat) (h1 : 1 ≤ n) (h2 : n ≤ 32) (hu : u < 4294967296) : (((((u : Int) * 2 ^ (32 - n)) % 4294967296 + 2147483648) % 4294967296 - 2147483648) / 2 ^ (32 - n)) = sgnN u n := by
  unfold sgnN
  obtain rfl | rfl | rfl | rfl | rfl | rfl | rfl | rfl | rfl | rfl | rfl | rfl | rfl | rfl | rfl | rfl | rfl | rfl | rfl | rfl | rfl | rfl | rfl | rfl | rfl | rfl | rfl | rfl | rfl | rfl | rfl | rfl : n = 1 ∨ n = 2 ∨ n = 3 ∨ n = 4 ∨ n = 5 ∨ n = 6 ∨ n = 7 ∨ n = 8 ∨ n = 9 ∨ n = 10 ∨ n = 11 ∨ n = 12 ∨ n = 13 ∨ n = 14 ∨ n = 15 ∨ n = 16 ∨ n = 17 ∨ n = 18 ∨ n = 19 ∨ n = 20 ∨ n = 21 ∨ n = 22 ∨ n = 23 ∨ n = 24 ∨ n = 25 ∨ n = 26 ∨ n = 27 ∨ n = 28 ∨ n = 29 ∨ n = 30 ∨ n = 31 ∨ n = 32 := by omega
  all_goals (simp only [Nat.reduceSub, Nat.reducePow, Int.reducePow]; split <;> omega)

def sgnS (u : Nat) (n : Int) : Int := if szP n then sgnN u n.toNat else 0

end Go.Proofs.YtpdpcdifnlellaaGreat

/- Package bits and its reference: Fits, widths, where the next part begins. -/
namespace Go.Proofs.YtpdpcdifnlellaaGreat
open Go.ChangeShapes Go.WideShapes Go.ChangeAt Go.RowKit
set_option maxRecDepth 100000
set_option linter.unusedVariables false

theorem sgn_nat (u n : Nat) (h1 : 1 ≤ n) (h2 : n ≤ 32) (hu : u < 4294967296) : -((2 ^ (n - 1) : Nat) : Int) ≤ sgnN u n ∧ sgnN u n < ((2 ^ (n - 1) : Nat) : Int) := by
  unfold sgnN
  obtain rfl | rfl | rfl | rfl | rfl | rfl | rfl | rfl | rfl | rfl | rfl | rfl | rfl | rfl | rfl | rfl | rfl | rfl | rfl | rfl | rfl | rfl | rfl | rfl | rfl | rfl | rfl | rfl | rfl | rfl | rfl | rfl : n = 1 ∨ n = 2 ∨ n = 3 ∨ n = 4 ∨ n = 5 ∨ n = 6 ∨ n = 7 ∨ n = 8 ∨ n = 9 ∨ n = 10 ∨ n = 11 ∨ n = 12 ∨ n = 13 ∨ n = 14 ∨ n = 15 ∨ n = 16 ∨ n = 17 ∨ n = 18 ∨ n = 19 ∨ n = 20 ∨ n = 21 ∨ n = 22 ∨ n = 23 ∨ n = 24 ∨ n = 25 ∨ n = 26 ∨ n = 27 ∨ n = 28 ∨ n = 29 ∨ n = 30 ∨ n = 31 ∨ n = 32 := by omega
  all_goals (simp only [Nat.reduceSub, Nat.reducePow]; split <;> omega)
/-- A number in n bits comes back; what comes back is in n bits. -/
theorem sgn_back (i : Int) (n : Nat) (h1 : 1 ≤ n) (h2 : n ≤ 32) (hi : -2147483648 ≤ i) (hi2 : i < 2147483648) : (sgnN (i % 4294967296).toNat n = i ↔ -((2 ^ (n - 1) : Nat) : Int) ≤ i ∧ i < ((2 ^ (n - 1) : Nat) : Int)) := by
  unfold sgnN
  obtain rfl | rfl | rfl | rfl | rfl | rfl | rfl | rfl | rfl | rfl | rfl | rfl | rfl | rfl | rfl | rfl | rfl | rfl | rfl | rfl | rfl | rfl | rfl | rfl | rfl | rfl | rfl | rfl | rfl | rfl | rfl | rfl : n = 1 ∨ n = 2 ∨ n = 3 ∨ n = 4 ∨ n = 5 ∨ n = 6 ∨ n = 7 ∨ n = 8 ∨ n = 9 ∨ n = 10 ∨ n = 11 ∨ n = 12 ∨ n = 13 ∨ n = 14 ∨ n = 15 ∨ n = 16 ∨ n = 17 ∨ n = 18 ∨ n = 19 ∨ n = 20 ∨ n = 21 ∨ n = 22 ∨ n = 23 ∨ n = 24 ∨ n = 25 ∨ n = 26 ∨ n = 27 ∨ n = 28 ∨ n = 29 ∨ n = 30 ∨ n = 31 ∨ n = 32 := by omega
  all_goals (simp only [Nat.reduceSub, Nat.reducePow]; split <;> omega)

def fitP (i n : Int) : Prop := 1 ≤ n ∧ n ≤ 32 ∧ -((2 ^ (n.toNat - 1) : Nat) : Int) ≤ i ∧ i < ((2 ^ (n.toNat - 1) : Nat) : Int)
instance (i n : Int) : Decidable (fitP i n) := by unfold fitP; infer_instance
def fitB (i n : Int) : Bool := decide (fitP i n)

/-- Widths that fill a word. -/
def rightP (zs : List Int) : Prop := (∀ i, i < zs.length → 1 ≤ zs.getD i 0 ∧ zs.getD i 0 ≤ 32) ∧ zs.sum = 32
instance (zs : List Int) : Decidable (rightP zs) := by unfold rightP; infer_instance
def rightB (zs : List Int) : Bool := decide (rightP zs)
theorem take_succ_sum (zs : List Int) (k : Nat) (h : k < zs.length) : (zs.take (k + 1)).sum = (zs.take k).sum + zs.getD k 0 := by
  rw [List.take_succ_eq_append_getElem h, List.sum_append]; simp [h]
theorem sum_le (zs : List Int) : ∀ k, k ≤ zs.length → (∀ i, i < k → 1 ≤ zs.getD i 0 ∧ zs.getD i 0 ≤ 32) → (k : Int) ≤ (zs.take k).sum ∧ (zs.take k).sum ≤ 32 * k
  | 0, _, _ => by simp
  | k + 1, hk, h => by
    have ih := sum_le zs k (by omega) (fun i hi => h i (by omega))
    have hz := h k (by omega)
    rw [take_succ_sum zs k (by omega)]
    omega
theorem sum_mono (zs : List Int) (h : ∀ i, i < zs.length → 1 ≤ zs.getD i 0 ∧ zs.getD i 0 ≤ 32) (k : Nat) : ∀ m, k + m ≤ zs.length → (zs.take k).sum + m ≤ (zs.take (k + m)).sum
  | 0, _ => by simp
  | m + 1, hm => by
    have ih := sum_mono zs h k m (by omega)
    have hz := h (k + m) (by omega)
    rw [show k + (m + 1) = k + m + 1 from by omega, take_succ_sum zs (k + m) (by omega)]
    omega
theorem right_no {zs : List Int} {i : Nat} (hi : i < zs.length) (h : ¬ (1 ≤ zs.getD i 0 ∧ zs.getD i 0 ≤ 32)) : rightB zs = false := decide_eq_false fun r => h (r.1 i hi)
theorem right_over {zs : List Int} {i : Nat} (hi : i ≤ zs.length) (h : 32 < (zs.take i).sum) : rightB zs = false := decide_eq_false fun r => by
  have := sum_mono zs r.1 i (zs.length - i) (by omega)
  rw [show i + (zs.length - i) = zs.length from by omega, List.take_length, r.2] at this
  omega
theorem right_all {zs : List Int} (h : ∀ i, i < zs.length → 1 ≤ zs.getD i 0 ∧ zs.getD i 0 ≤ 32) : rightB zs = (zs.sum == 32) := by
  unfold rightB
  by_cases hh : zs.sum = 32
  · rw [decide_eq_true (show rightP zs from ⟨h, hh⟩)]; simp [hh]
  · rw [decide_eq_false (fun r => hh r.2)]; simp [hh]

theorem right_any (ad : Option Addr) (len cap : Nat) (zs : List Int) (w : World) (hsl : Sl .i64 w ad len cap zs) (hwf : ∀ n ∈ zs, (Lit.int .i64 n).wf = true) (hlen : len ≤ 100000) :
    Calls Tryz.prog 92 #[.slice ad len cap] w fun e w' => e = .returned (.bool (rightB zs)) ∧ w' = w := by
  obtain ⟨rfl, hlc, hcm, hn, hrd⟩ := hsl
  unfold maxLen at hcm
  go_enter Tryz.func92, Tryz.ntmps92
  go_wp2_with fail
  go_loopw [3, 8] (fun s i wr => ∃ (k : Nat), wr = w ∧ k ≤ zs.length ∧ i = .int .i64 k ∧ s = .int .i64 (zs.take k).sum ∧ ∀ j, j < k → 1 ≤ zs.getD j 0 ∧ zs.getD j 0 ≤ 32) (fun _ i _ => zs.length - (intOf i).toNat)
  case atStart => exact ⟨0, rfl, by omega, rfl, by simp, fun j hj => by omega⟩
  case round =>
    obtain ⟨k, rfl, hk, rfl, rfl, hall⟩ := hrel
    have hsum := sum_le zs k hk hall
    by_cases hlt : (k : Int) < zs.length
    · have hlt2 : k < zs.length := by omega
      obtain ⟨b, off, rfl, hc⟩ := hrd k hlt2
      have hz := bounds_i64 (hwf (zs.getD k 0) (by simp [hlt2]))
      have hss := hid (take_succ_sum zs k hlt2)
      have hno := hid (fun h => right_no (zs := zs) (i := k) hlt2 h)
      have hallH := hid hall
      clear hall
      obtain ⟨z, hz0⟩ : ∃ z, zs.getD k 0 = z := ⟨_, rfl⟩
      rw [hz0] at hc hz hss hno
      have hzz := hid hz0
      clear hz0
      generalize (zs.take k).sum = S at *
      by_cases cz : 1 ≤ z ∧ z ≤ 32
      · have e : szP z = true := by unfold szP; simp; omega
        go_wp2_with fail
        refine (sized_any z _ hz.1 hz.2).mono ?_
        rintro e w2 ⟨rfl, rfl⟩
        rw [e]
        clear e
        go_wp2_with fail
        go_roundw
        case rel => exact ⟨k + 1, trivial, by omega, by simp, by rw [hss.out], fun j hj => by
          by_cases e : j = k
          · subst e; exact hzz.out ▸ cz
          · exact hallH.out j (by omega)⟩
        case measure => simp [intOf]; omega
      · have e : szP z = false := by unfold szP; simp; omega
        go_wp2_with fail
        refine (sized_any z _ hz.1 hz.2).mono ?_
        rintro e w2 ⟨rfl, rfl⟩
        rw [e]
        clear e
        go_wp2_with fail
        go_ret
        exact ⟨ret_bool (by rw [hno.out cz]), rfl⟩
    · go_wp2_with fail
      go_ret
      obtain rfl : k = zs.length := by omega
      exact ⟨ret_bool (by rw [right_all hall, List.take_length]), rfl⟩

theorem down1_any (n z : Int) (B : Nat) (w : World) (hc : w.cell? ⟨B, 0, none⟩ = some (.int .i64 z)) (hf : w.frozen? ⟨B, 0, none⟩ = false) (h1 : 0 ≤ z - n) (h2 : 1 ≤ n) (h3 : z ≤ 32) :
    Calls Tryz.prog 107 #[.int .i64 n, .pointer (some ⟨B, 0, none⟩)] w fun e w' => e = .returned (.int .i64 (z - n)) ∧ w' = w.setCell ⟨B, 0, none⟩ (.int .i64 (z - n)) := by
  go_enter Tryz.func107, Tryz.ntmps107
  go_wp2_with fail
  go_ret
  exact ⟨rfl, rfl⟩

theorem down_any (w : World) :
    Calls Tryz.prog 93 #[] w fun e w' => e = .returned (.func (.func 107) #[] #[.pointer (some ⟨w.heap.size, 0, none⟩)]) ∧ w' = w.alloc (.cells #[.int .i64 32] 3) := by
  have hmf : ∀ (fn : Fn) (first cap : Array Value) (w : World), (Instr.makeFunc fn first cap).run Tryz.prog w = .ok (.func fn first cap) w := fun _ _ _ _ => rfl
  go_enter Tryz.func93, Tryz.ntmps93
  go_wp2_with fail
  go_ret
  exact ⟨rfl, rfl⟩

end Go.Proofs.YtpdpcdifnlellaaGreat

/- Package bits and its reference: widths, parts. -/
namespace Go.Proofs.YtpdpcdifnlellaaGreat
open Go.ChangeShapes Go.WideShapes Go.ChangeAt Go.RowKit
set_option maxRecDepth 100000
set_option linter.unusedVariables false

theorem rright_any (ad : Option Addr) (len cap : Nat) (zs : List Int) (w : World) (hsl : Sl .i64 w ad len cap zs) (hwf : ∀ n ∈ zs, (Lit.int .i64 n).wf = true) (hlen : len ≤ 100000) :
    Calls Tryz.prog 96 #[.slice ad len cap] w fun e w' => e = .returned (.bool (rightB zs)) ∧ w' = w := by
  obtain ⟨rfl, hlc, hcm, hn, hrd⟩ := hsl
  unfold maxLen at hcm
  go_enter Tryz.func96, Tryz.ntmps96
  go_wp2_with fail
  go_loopw [3, 4] (fun s i wr => ∃ (k : Nat), wr = w ∧ k ≤ zs.length ∧ i = .int .i64 k ∧ s = .int .i64 (zs.take k).sum ∧ ∀ j, j < k → 1 ≤ zs.getD j 0 ∧ zs.getD j 0 ≤ 32) (fun _ i _ => zs.length - (intOf i).toNat)
  case atStart => exact ⟨0, rfl, by omega, rfl, by simp, fun j hj => by omega⟩
  case round =>
    obtain ⟨k, rfl, hk, rfl, rfl, hall⟩ := hrel
    have hsum := sum_le zs k hk hall
    by_cases hlt : (k : Int) < zs.length
    · have hlt2 : k < zs.length := by omega
      obtain ⟨b, off, rfl, hc⟩ := hrd k hlt2
      have hz := bounds_i64 (hwf (zs.getD k 0) (by simp [hlt2]))
      have hss := hid (take_succ_sum zs k hlt2)
      have hno := hid (fun h => right_no (zs := zs) (i := k) hlt2 h)
      have hov := hid (fun h => right_over (zs := zs) (i := k) hk h)
      have hallH := hid hall
      clear hall
      obtain ⟨z, hz0⟩ : ∃ z, zs.getD k 0 = z := ⟨_, rfl⟩
      rw [hz0] at hc hz hss hno
      have hzz := hid hz0
      clear hz0
      generalize (zs.take k).sum = S at *
      by_cases c1 : z < 1
      · go_wp2_with fail
        go_ret
        exact ⟨ret_bool (by rw [hno.out (by omega)]), rfl⟩
      by_cases c2 : z ≤ 32
      case neg =>
        go_wp2_with fail
        all_goals (first | omega | skip)
        go_ret
        exact ⟨ret_bool (by rw [hno.out (by omega)]), rfl⟩
      by_cases c3 : S ≤ 32
      case neg =>
        go_wp2_with fail
        all_goals (first | omega | skip)
        go_ret
        exact ⟨ret_bool (by rw [hov.out (by omega)]), rfl⟩
      go_wp2_with fail
      all_goals (first | omega | skip)
      go_roundw
      case rel => exact ⟨k + 1, trivial, by omega, by simp, by rw [hss.out], fun j hj => by
          by_cases e : j = k
          · subst e; rw [hzz.out]; omega
          · exact hallH.out j (by omega)⟩
      case measure => simp [intOf]; omega
    · go_wp2_with fail
      go_ret
      obtain rfl : k = zs.length := by omega
      exact ⟨ret_bool (by rw [right_all hall, List.take_length]), rfl⟩

/-- What is left below the first k parts. -/
def leftAt (zs : List Int) (k : Nat) : Int := 32 - (zs.take k).sum
theorem left_succ (zs : List Int) (k : Nat) (h : k < zs.length) : leftAt zs (k + 1) = leftAt zs k - zs.getD k 0 := by
  unfold leftAt; rw [take_succ_sum zs k h]; omega
theorem left_bd (zs : List Int) (hr : rightP zs) (k : Nat) (h : k < zs.length) : 0 ≤ leftAt zs (k + 1) ∧ leftAt zs (k + 1) + zs.getD k 0 = leftAt zs k ∧ leftAt zs k ≤ 32 ∧ 1 ≤ zs.getD k 0 ∧ zs.getD k 0 ≤ 32 := by
  have h1 := sum_mono zs hr.1 (k + 1) (zs.length - (k + 1)) (by omega)
  have h2 := sum_mono zs hr.1 0 k (by omega)
  rw [show k + 1 + (zs.length - (k + 1)) = zs.length from by omega, List.take_length, hr.2] at h1
  simp at h2
  have h3 := left_succ zs k h
  have h4 := hr.1 k h
  unfold leftAt at *
  omega
theorem right_len {zs : List Int} (hr : rightP zs) : zs.length ≤ 32 := by
  have h2 := sum_mono zs hr.1 0 zs.length (by omega)
  rw [Nat.zero_add, List.take_length, hr.2] at h2
  simp at h2
  omega
def partAt (x : Nat) (zs : List Int) (k : Nat) : Int := (getS x (leftAt zs (k + 1)) (zs.getD k 0) : Nat)
def parts (x : Nat) (zs : List Int) (k : Nat) : List Int := (List.range k).map (partAt x zs)
theorem parts_len (x : Nat) (zs : List Int) (k : Nat) : (parts x zs k).length = k := by simp [parts]
theorem parts_succ (x : Nat) (zs : List Int) (k : Nat) : parts x zs (k + 1) = parts x zs k ++ [partAt x zs k] := by simp [parts, List.range_succ]
theorem parts_set (x : Nat) (zs : List Int) (k m : Nat) : (parts x zs k ++ List.replicate (m + 1) 0).set k (partAt x zs k) = parts x zs (k + 1) ++ List.replicate m 0 := by
  rw [List.set_append_right _ _ (by rw [parts_len]; exact Nat.le_refl _), parts_len, Nat.sub_self, List.replicate_succ, List.set_cons_zero, parts_succ, List.append_assoc]; rfl

/-- What Split tells. -/
def splitL (x : Nat) (zs : List Int) : List Int := if rightB zs then parts x zs zs.length else []
def IsSplit (x : Nat) (zs : List Int) (w : World) (e : Ending) (w' : World) : Prop :=
  ∃ a len cap, e = .returned (.tuple #[.slice a len cap, .bool (rightB zs)]) ∧ Sl .u32 w' a len cap (splitL x zs) ∧ Below w.heap.size w w'

theorem Row.other {k : IntKind} {E : TypeId} {w : World} {g : Nat} {zs : List Int} (h : Row k E w g zs) {p : Addr} (hp : g ≠ p.block) (v : Value) : Row k E (w.setCell p v) g zs := by
  unfold Row at *; rw [Below.heap_setCell w p v g hp]; exact h
theorem u32s : IntsOf Tryz.prog 96 38 .u32 4 := ⟨Tryz.underlying96, by kernel_rfl⟩
theorem sl_nil (k : IntKind) (w : World) : Sl k w none 0 0 [] := ⟨rfl, by omega, by unfold maxLen; omega, fun _ => rfl, Rd.nil _ _ _⟩

end Go.Proofs.YtpdpcdifnlellaaGreat

/- Package bits and its reference: Split of the reference, Join, Same. -/
namespace Go.Proofs.YtpdpcdifnlellaaGreat
open Go.ChangeShapes Go.WideShapes Go.ChangeAt Go.RowKit
set_option maxRecDepth 100000
set_option linter.unusedVariables false

def sameP (a b : List Int) : Bool := decide (a = b)
theorem getD_ext {a b : List Int} (h : a.length = b.length) (k : ∀ i, i < a.length → a.getD i 0 = b.getD i 0) : a = b := by
  apply List.ext_getElem h
  intro i h1 h2
  have := k i h1
  simpa [h1, h2] using this
end Go.Proofs.YtpdpcdifnlellaaGreat

/- Package bits and its reference: Join. -/
namespace Go.Proofs.YtpdpcdifnlellaaGreat
open Go.ChangeShapes Go.WideShapes Go.ChangeAt Go.RowKit
set_option maxRecDepth 100000
set_option linter.unusedVariables false

/-- The word of the first k parts. -/
def joinR (zs ys : List Int) : Nat → Nat
  | 0 => 0
  | k + 1 => joinR zs ys k * 2 ^ (zs.getD k 0).toNat + (ys.getD k 0).toNat
def fitsJ (zs ys : List Int) (k : Nat) : Prop := ∀ i, i < k → (ys.getD i 0).toNat < 2 ^ (zs.getD i 0).toNat
instance (zs ys : List Int) (k : Nat) : Decidable (fitsJ zs ys k) := by unfold fitsJ; infer_instance
def joinP (zs ys : List Int) : Prop := rightP zs ∧ ys.length = zs.length ∧ fitsJ zs ys zs.length
instance (zs ys : List Int) : Decidable (joinP zs ys) := by unfold joinP; infer_instance
def joinOk (zs ys : List Int) : Bool := decide (joinP zs ys)
def joinV (zs ys : List Int) : Nat := if joinP zs ys then joinR zs ys zs.length else 0
theorem join_no {zs ys : List Int} (h : ¬ joinP zs ys) : joinV zs ys = 0 ∧ joinOk zs ys = false := ⟨if_neg h, decide_eq_false h⟩
theorem join_yes {zs ys : List Int} (h : joinP zs ys) : joinV zs ys = joinR zs ys zs.length ∧ joinOk zs ys = true := ⟨if_pos h, decide_eq_true h⟩

theorem put_join (R a n v : Nat) : R * 2 ^ (a + n) / 2 ^ (a + n) * 2 ^ (a + n) + v * 2 ^ a + R * 2 ^ (a + n) % 2 ^ a = (R * 2 ^ n + v) * 2 ^ a := by
  rw [Nat.mul_div_cancel _ (Nat.two_pow_pos _), show R * 2 ^ (a + n) % 2 ^ a = 0 from by rw [Nat.pow_add, Nat.mul_comm (2 ^ a), ← Nat.mul_assoc]; exact Nat.mul_mod_left _ _, Nat.add_mul, Nat.pow_add, Nat.mul_comm (2 ^ a), ← Nat.mul_assoc]; rfl

theorem joinR_lt {zs ys : List Int} (hr : rightP zs) : ∀ k, k ≤ zs.length → fitsJ zs ys k → joinR zs ys k * 2 ^ (leftAt zs k).toNat < 2 ^ 32
  | 0, _, _ => by simp [joinR]
  | k + 1, hk, h => by
    have ih := joinR_lt hr k (by omega) (fun i hi => h i (by omega))
    have hv := h k (by omega)
    have hb := left_bd zs hr k (by omega)
    obtain ⟨a, ha⟩ := Int.eq_ofNat_of_zero_le hb.1
    obtain ⟨n, hn⟩ := Int.eq_ofNat_of_zero_le (show 0 ≤ zs.getD k 0 by omega)
    have hL : leftAt zs k = ((a + n : Nat) : Int) := by omega
    simp only [joinR]
    rw [hn] at hv ⊢
    rw [hL] at ih
    rw [ha]
    simp only [Int.toNat_natCast] at *
    have hlt := put_lt (joinR zs ys k * 2 ^ (a + n)) a n (ys.getD k 0).toNat ih (by omega) hv
    rw [put_join] at hlt
    exact hlt

def hidNat (n : Nat) : Prop := True

set_option maxHeartbeats 2000000 in
theorem join_any (ad bd : Option Addr) (len cap lb cb : Nat) (zs ys : List Int) (w : World) (hsl : Sl .i64 w ad len cap zs) (hwf : ∀ n ∈ zs, (Lit.int .i64 n).wf = true) (hlen : len ≤ 100000) (hys : Sl .u32 w bd lb cb ys) (hyf : ∀ n ∈ ys, (Lit.int .u32 n).wf = true) (hlb : lb ≤ 100000) :
    Calls Tryz.prog 69 #[.slice ad len cap, .slice bd lb cb] w fun e w' => e = .returned (.tuple #[.int .u32 (joinV zs ys), .bool (joinOk zs ys)]) ∧ Below w.heap.size w w' := by
  have hR := right_any ad len cap zs w hsl hwf hlen
  obtain ⟨hl0, hlc, hcm, hn, hrd0⟩ := hsl
  obtain ⟨hl1, hlc1, hcm1, hn1, hrd1⟩ := hys
  by_cases c : rightB zs = true
  case neg =>
    have c := Bool.not_eq_true _ ▸ c
    have e := hid (join_no (zs := zs) (ys := ys) (fun h => by rw [show rightB zs = true from decide_eq_true h.1] at c; cases c))
    have hc := hid c
    clear c
    subst hl0 hl1
    go_enter Tryz.func69, Tryz.ntmps69
    go_wp2_with fail
    refine hR.mono ?_
    rintro e w2 ⟨rfl, rfl⟩
    rw [hc.out]
    go_wp2_with fail
    go_ret2
    rw [e.out.1, e.out.2]
    exact ⟨rfl, Below.refl _ _⟩
  by_cases cl : ys.length = zs.length
  case neg =>
    have e := hid (join_no (zs := zs) (ys := ys) (fun h => cl h.2.1))
    have cl2 : ¬ ((ys.length : Int) = zs.length) := by omega
    have hc := hid c
    clear c
    subst hl0 hl1
    go_enter Tryz.func69, Tryz.ntmps69
    go_wp2_with fail
    refine hR.mono ?_
    rintro e w2 ⟨rfl, rfl⟩
    rw [hc.out]
    go_wp2_with fail
    go_ret2
    rw [e.out.1, e.out.2]
    exact ⟨rfl, Below.refl _ _⟩
  have hP : rightP zs := of_decide_eq_true c
  have hl32 := right_len hP
  replace hP := hid hP
  have hrd := hid hrd0
  have hrdy := hid hrd1
  have hyn := hid hyf
  clear hrd0 hrd1 hyf
  subst hl0 hl1
  have hleq := hid cl
  have hlq : (ys.length : Int) = zs.length := by omega
  go_enter Tryz.func69, Tryz.ntmps69
  go_wp2_with fail
  refine hR.mono ?_
  rintro e w2 ⟨rfl, rfl⟩
  rw [c]
  have hc := hid c
  clear c
  go_wp2_with fail
  refine (down_any _).mono ?_
  rintro e w4 ⟨rfl, rfl⟩
  clear hlq
  have hlq : ys.length = zs.length := cl
  clear cl
  have hb4 : Below w2.heap.size w2 (w2.alloc (.cells #[.int .i64 32] 3)) := (Below.refl _ w2).alloc (Nat.le_refl _) (.cells #[.int .i64 32] 3)
  have hc4 : (w2.alloc (.cells #[.int .i64 32] 3)).cell? ⟨w2.heap.size, 0, none⟩ = some (.int .i64 32) := by simp
  have hf4 : (w2.alloc (.cells #[.int .i64 32] 3)).frozen? ⟨w2.heap.size, 0, none⟩ = false := by simp
  generalize w2.alloc (.cells #[.int .i64 32] 3) = w4 at *
  replace hc4 := hid hc4
  replace hf4 := hid hf4
  replace hlq := hid hlq
  go_wp2_with fail
  go_loopw [6, 25] (fun x i wr => ∃ (k : Nat), k ≤ zs.length ∧ i = .int .i64 k ∧ Below w2.heap.size w2 wr ∧ x = .int .u32 ((joinR zs ys k * 2 ^ (leftAt zs k).toNat : Nat) : Int) ∧ fitsJ zs ys k ∧ wr.cell? ⟨w2.heap.size, 0, none⟩ = some (.int .i64 (leftAt zs k)) ∧ wr.frozen? ⟨w2.heap.size, 0, none⟩ = false) (fun _ i _ => zs.length - (intOf i).toNat)
  case atStart => exact ⟨0, by omega, rfl, hb4, by simp [joinR], fun i hi => by omega, by rw [hc4.out]; rfl, hf4.out⟩
  case round =>
    obtain ⟨k, hk, rfl, hbr, rfl, hfit, hcr, hfr⟩ := hrel
    have hX := joinR_lt (ys := ys) hP.out k hk hfit
    have hrdr := hrd.out.below hbr
    have hrdyr := hrdy.out.below hbr
    have h32 : (2 : Nat) ^ 32 = 4294967296 := by decide
    rw [h32] at hX
    clear h32
    by_cases hlt : (k : Int) < zs.length
    · have hlt2 : k < zs.length := by omega
      have hlty : (k : Int) < ys.length := by have := hlq.out; omega
      have hlty2 : k < ys.length := by omega
      obtain ⟨b, off, rfl, hcz⟩ := hrdr k hlt2
      obtain ⟨b2, off2, rfl, hc⟩ := hrdyr k hlty2
      have hbl : b2 < w2.heap.size := by
        obtain ⟨b3, off3, e3, h3⟩ := hrdy.out k hlty2
        cases e3
        exact World.block_lt_of_cell? w2 _ h3
      have hbd := left_bd zs hP.out k hlt2
      have hyb := bounds_u32 (hyn.out (ys.getD k 0) (by simp [hlty2]))
      obtain ⟨yn, hy0⟩ := Int.eq_ofNat_of_zero_le hyb.1
      obtain ⟨z, hz0⟩ := Int.eq_ofNat_of_zero_le (show 0 ≤ zs.getD k 0 by omega)
      obtain ⟨M, hM0⟩ := Int.eq_ofNat_of_zero_le hbd.1
      have hL0 : leftAt zs k = ((M + z : Nat) : Int) := by omega
      have hJ : joinR zs ys (k + 1) = joinR zs ys k * 2 ^ z + yn := by simp only [joinR]; rw [hy0, hz0]; rfl
      have hFn : (∀ i, i < k + 1 → (ys.getD i 0).toNat < 2 ^ (zs.getD i 0).toNat) ↔ yn < 2 ^ z := by
        constructor
        · intro h; have := h k (by omega); rw [hy0, hz0] at this; exact this
        · intro h i hi
          by_cases e : i = k
          · subst e; rw [hy0, hz0]; exact h
          · exact hfit i (by omega)
      rw [hL0] at hcr hX ⊢
      simp only [Int.toNat_natCast] at *
      rw [hz0] at hcz hbd
      rw [hy0] at hc hyb
      rw [hM0, hL0] at hbd
      have hput : plP (M : Int) (z : Int) = true := by unfold plP; simp; omega
      have hpv0 : putP (M : Int) (z : Int) yn ↔ yn < 2 ^ z := ⟨fun h => h.2, fun h => ⟨hput, h⟩⟩
      have hMM := hid hM0
      clear hz0 hy0 hL0 hM0 hrdr hrdyr hput
      replace hfit := hid hfit
      have hpj := put_join (joinR zs ys k) M z yn
      obtain ⟨X, hX0⟩ : ∃ X, joinR zs ys k * 2 ^ (M + z) = X := ⟨_, rfl⟩
      rw [hX0] at hX hpj ⊢
      clear hX0
      have hd1 := hid (down1_any (z : Int) ((M + z : Nat) : Int) w2.heap.size wr.drew hcr hfr (by omega) (by omega) (by omega))
      have hsub : ((M + z : Nat) : Int) - (z : Int) = (M : Int) := by omega
      rw [hsub] at hd1
      have haf : Aft w2.heap.size wr.drew (wr.drew.setCell ⟨w2.heap.size, 0, none⟩ (.int .i64 (M : Int))) := Below.setCell (p := ⟨w2.heap.size, 0, none⟩) (Below.refl w2.heap.size wr.drew) (Nat.le_refl _) _
      have hbr5 : Below w2.heap.size w2 (wr.drew.setCell ⟨w2.heap.size, 0, none⟩ (.int .i64 (M : Int))) := hbr.drew.setCell (Nat.le_refl _) _
      have hc5 : (wr.drew.setCell ⟨w2.heap.size, 0, none⟩ (.int .i64 (M : Int))).cell? ⟨w2.heap.size, 0, none⟩ = some (.int .i64 (M : Int)) := World.cell?_setCell_same _ _ _ (show wr.drew.cell? ⟨w2.heap.size, 0, none⟩ = some (.int .i64 ((M + z : Nat) : Int)) from hcr)
      have hf5 : (wr.drew.setCell ⟨w2.heap.size, 0, none⟩ (.int .i64 (M : Int))).frozen? ⟨w2.heap.size, 0, none⟩ = false := by rw [World.frozen?_setCell]; exact hfr
      replace hc5 := hid hc5
      replace hf5 := hid hf5
      replace haf := hid haf
      generalize wr.drew.setCell ⟨w2.heap.size, 0, none⟩ (.int .i64 (M : Int)) = w5 at *
      by_cases cf : yn < 2 ^ z
      · have hpv := (put_yes (x := X) (hpv0.2 cf))
        rw [hpj, ← hJ] at hpv
        have hpo := hid hpv.2
        replace hpv := hid hpv.1
        replace hJ := hid hJ
        have hfn := hid (hFn.2 cf)
        clear hFn hpv0 hpj cf hcr hfr
        go_wp2_with fail
        refine wp_region_B (B := w2.heap.size) (by kernel_rfl) ?_
        refine wpAnyB_take 0 rfl (by kernel_rfl) (by kernel_rfl) (by kernel_rfl) (fun _ _ _ _ h => h) ?_
        apply Exists.intro
        refine ⟨Or.inl ⟨by rfl, fun w' hb => ?_⟩, ?_⟩
        · (go_simp; try with_reducible rfl)
        apply Exists.intro
        refine ⟨?_, ?_⟩
        · (go_simp; try rfl)
        refine wpAnyB_take 1 rfl (by kernel_rfl) (by kernel_rfl) (by kernel_rfl) (fun _ _ _ _ h => h) ?_
        apply Exists.intro
        refine ⟨Or.inl ⟨by rfl, fun w' hb => ?_⟩, ?_⟩
        · (go_simp; try with_reducible rfl)
        apply Exists.intro
        refine ⟨?_, ?_⟩
        · (go_simp; try rfl)
        refine wpAnyB_take 2 rfl (by kernel_rfl) (by kernel_rfl) (by kernel_rfl) (fun _ _ _ _ h => h) ?_
        apply Exists.intro
        refine ⟨Or.inl ⟨by rfl, fun w' hb => ?_⟩, ?_⟩
        · (go_simp; try with_reducible rfl)
        apply Exists.intro
        refine ⟨?_, ?_⟩
        · (go_simp; try rfl)
        refine wpAnyB_take 4 rfl (by kernel_rfl) (by kernel_rfl) (by kernel_rfl) (fun _ _ _ _ h => h) ?_
        apply Exists.intro
        refine ⟨Or.inl ⟨by rfl, fun w' hb => ?_⟩, ?_⟩
        · (go_simp; try with_reducible rfl)
        apply Exists.intro
        refine ⟨?_, ?_⟩
        · (go_simp; try rfl)
        refine wpAnyB_take 5 rfl (by kernel_rfl) (by kernel_rfl) (by kernel_rfl) (fun _ _ _ _ h => h) ?_
        apply Exists.intro
        refine ⟨Or.inl ⟨by rfl, fun w' hb => ?_⟩, ?_⟩
        · (go_simp; try with_reducible rfl)
        apply Exists.intro
        refine ⟨?_, ?_⟩
        · (go_simp; try rfl)
        refine wpAnyB_take 6 rfl (by kernel_rfl) (by kernel_rfl) (by kernel_rfl) (fun _ _ _ _ h => h) ?_
        apply Exists.intro
        refine ⟨Or.inl ⟨by rfl, fun w' hb => ?_⟩, ?_⟩
        · (go_simp; try with_reducible rfl)
        apply Exists.intro
        refine ⟨?_, ?_⟩
        · (go_simp; try rfl)
        refine wpAnyB_take 7 rfl (by kernel_rfl) (by kernel_rfl) (by kernel_rfl) (fun _ _ _ _ h => h) ?_
        apply Exists.intro
        refine ⟨Or.inl ⟨by rfl, fun w' hb => ?_⟩, ?_⟩
        · (go_simp; try with_reducible rfl)
        apply Exists.intro
        refine ⟨?_, ?_⟩
        · (go_simp; try rfl)
        refine wpAnyB_take 8 rfl (by kernel_rfl) (by kernel_rfl) (by kernel_rfl) (fun _ _ _ _ h => h) ?_
        apply Exists.intro
        refine ⟨Or.inl ⟨by rfl, fun w' hb => ?_⟩, ?_⟩
        · have hc' := Aft.cellB hb hbl hc
          go_simp
          try with_reducible rfl
        apply Exists.intro
        refine ⟨?_, ?_⟩
        · (go_simp; try rfl)
        refine wpAnyB_only 3 rfl (by kernel_rfl) (by rfl) (fun K hK => ?_)
        go_simp
        refine hd1.out.mono ?_
        rintro e w6 ⟨rfl, rfl⟩
        refine hK _ _ ?_
        refine ⟨haf, ?_⟩
        refine wpAnyB_only 9 rfl (by kernel_rfl) (by rfl) (fun K hK => ?_)
        go_simp
        refine (put_any X _ _ yn _ hX (by omega) (by omega) (by omega) (by omega) (by omega)).mono ?_
        rintro e w7 ⟨rfl, m7, rfl⟩
        rw [hpv.out, hpo.out]
        go_wp2_with fail
        refine ⟨bdrewN (Below.refl _ _) _, ?_⟩
        refine wpAnyB_take 10 rfl (by kernel_rfl) (by kernel_rfl) (by kernel_rfl) (fun _ _ _ _ h => h) ?_
        apply Exists.intro
        refine ⟨Or.inl ⟨by rfl, fun w' hb => ?_⟩, ?_⟩
        · (go_simp; try with_reducible rfl)
        apply Exists.intro
        refine ⟨?_, ?_⟩
        · (go_simp; try rfl)
        refine wpAnyB_take 11 rfl (by kernel_rfl) (by kernel_rfl) (by kernel_rfl) (fun _ _ _ _ h => h) ?_
        apply Exists.intro
        refine ⟨Or.inl ⟨by rfl, fun w' hb => ?_⟩, ?_⟩
        · (go_simp; try with_reducible rfl)
        apply Exists.intro
        refine ⟨?_, ?_⟩
        · (go_simp; try rfl)
        refine wpAnyB_take 12 rfl (by kernel_rfl) (by kernel_rfl) (by kernel_rfl) (fun _ _ _ _ h => h) ?_
        apply Exists.intro
        refine ⟨Or.inl ⟨by rfl, fun w' hb => ?_⟩, ?_⟩
        · (go_simp; try with_reducible rfl)
        apply Exists.intro
        refine ⟨?_, ?_⟩
        · (go_simp; try rfl)
        refine wpAnyB_take 13 rfl (by kernel_rfl) (by kernel_rfl) (by kernel_rfl) (fun _ _ _ _ h => h) ?_
        apply Exists.intro
        refine ⟨Or.inl ⟨by rfl, fun w' hb => ?_⟩, ?_⟩
        · (go_simp; try with_reducible rfl)
        apply Exists.intro
        refine ⟨?_, ?_⟩
        · (go_simp; try rfl)
        refine wpAnyB_take 14 rfl (by kernel_rfl) (by kernel_rfl) (by kernel_rfl) (fun _ _ _ _ h => h) ?_
        apply Exists.intro
        refine ⟨Or.inl ⟨by rfl, fun w' hb => ?_⟩, ?_⟩
        · (go_simp; try with_reducible rfl)
        apply Exists.intro
        refine ⟨?_, ?_⟩
        · (go_simp; try rfl)
        refine wpAnyB_done (by kernel_rfl) ?_ _
        go_wp2_with fail
        go_roundw
        case rel => exact ⟨k + 1, by omega, by simp, bdrewN hbr5 _, by rw [hMM.out]; exact congrArg (fun n : Nat => Value.int .u32 (n : Int)) (by rw [hJ.out]; rfl), hfn.out, by rw [hMM.out]; exact hc5.out, hf5.out⟩
        case measure => simp [intOf]; omega
      · have hpv := (put_no (x := X) (fun h => cf (hpv0.1 h)))
        have hpo := hid hpv.2
        replace hpv := hid hpv.1
        have hfn := hid (join_no (zs := zs) (ys := ys) (fun h => cf (hFn.1 (fun i hi => h.2.2 i (by omega)))))
        clear hFn hpv0 hpj cf hcr hfr hJ
        go_wp2_with fail
        refine wp_region_B (B := w2.heap.size) (by kernel_rfl) ?_
        refine wpAnyB_take 0 rfl (by kernel_rfl) (by kernel_rfl) (by kernel_rfl) (fun _ _ _ _ h => h) ?_
        apply Exists.intro
        refine ⟨Or.inl ⟨by rfl, fun w' hb => ?_⟩, ?_⟩
        · (go_simp; try with_reducible rfl)
        apply Exists.intro
        refine ⟨?_, ?_⟩
        · (go_simp; try rfl)
        refine wpAnyB_take 1 rfl (by kernel_rfl) (by kernel_rfl) (by kernel_rfl) (fun _ _ _ _ h => h) ?_
        apply Exists.intro
        refine ⟨Or.inl ⟨by rfl, fun w' hb => ?_⟩, ?_⟩
        · (go_simp; try with_reducible rfl)
        apply Exists.intro
        refine ⟨?_, ?_⟩
        · (go_simp; try rfl)
        refine wpAnyB_take 2 rfl (by kernel_rfl) (by kernel_rfl) (by kernel_rfl) (fun _ _ _ _ h => h) ?_
        apply Exists.intro
        refine ⟨Or.inl ⟨by rfl, fun w' hb => ?_⟩, ?_⟩
        · (go_simp; try with_reducible rfl)
        apply Exists.intro
        refine ⟨?_, ?_⟩
        · (go_simp; try rfl)
        refine wpAnyB_take 4 rfl (by kernel_rfl) (by kernel_rfl) (by kernel_rfl) (fun _ _ _ _ h => h) ?_
        apply Exists.intro
        refine ⟨Or.inl ⟨by rfl, fun w' hb => ?_⟩, ?_⟩
        · (go_simp; try with_reducible rfl)
        apply Exists.intro
        refine ⟨?_, ?_⟩
        · (go_simp; try rfl)
        refine wpAnyB_take 5 rfl (by kernel_rfl) (by kernel_rfl) (by kernel_rfl) (fun _ _ _ _ h => h) ?_
        apply Exists.intro
        refine ⟨Or.inl ⟨by rfl, fun w' hb => ?_⟩, ?_⟩
        · (go_simp; try with_reducible rfl)
        apply Exists.intro
        refine ⟨?_, ?_⟩
        · (go_simp; try rfl)
        refine wpAnyB_take 6 rfl (by kernel_rfl) (by kernel_rfl) (by kernel_rfl) (fun _ _ _ _ h => h) ?_
        apply Exists.intro
        refine ⟨Or.inl ⟨by rfl, fun w' hb => ?_⟩, ?_⟩
        · (go_simp; try with_reducible rfl)
        apply Exists.intro
        refine ⟨?_, ?_⟩
        · (go_simp; try rfl)
        refine wpAnyB_take 7 rfl (by kernel_rfl) (by kernel_rfl) (by kernel_rfl) (fun _ _ _ _ h => h) ?_
        apply Exists.intro
        refine ⟨Or.inl ⟨by rfl, fun w' hb => ?_⟩, ?_⟩
        · (go_simp; try with_reducible rfl)
        apply Exists.intro
        refine ⟨?_, ?_⟩
        · (go_simp; try rfl)
        refine wpAnyB_take 8 rfl (by kernel_rfl) (by kernel_rfl) (by kernel_rfl) (fun _ _ _ _ h => h) ?_
        apply Exists.intro
        refine ⟨Or.inl ⟨by rfl, fun w' hb => ?_⟩, ?_⟩
        · have hc' := Aft.cellB hb hbl hc
          go_simp
          try with_reducible rfl
        apply Exists.intro
        refine ⟨?_, ?_⟩
        · (go_simp; try rfl)
        refine wpAnyB_only 3 rfl (by kernel_rfl) (by rfl) (fun K hK => ?_)
        go_simp
        refine hd1.out.mono ?_
        rintro e w6 ⟨rfl, rfl⟩
        refine hK _ _ ?_
        refine ⟨haf, ?_⟩
        refine wpAnyB_only 9 rfl (by kernel_rfl) (by rfl) (fun K hK => ?_)
        go_simp
        refine (put_any X _ _ yn _ hX (by omega) (by omega) (by omega) (by omega) (by omega)).mono ?_
        rintro e w7 ⟨rfl, m7, rfl⟩
        rw [hpv.out, hpo.out]
        go_wp2_with fail
        refine ⟨bdrewN (Below.refl _ _) _, ?_⟩
        refine wpAnyB_take 10 rfl (by kernel_rfl) (by kernel_rfl) (by kernel_rfl) (fun _ _ _ _ h => h) ?_
        apply Exists.intro
        refine ⟨Or.inl ⟨by rfl, fun w' hb => ?_⟩, ?_⟩
        · (go_simp; try with_reducible rfl)
        apply Exists.intro
        refine ⟨?_, ?_⟩
        · (go_simp; try rfl)
        refine wpAnyB_take 11 rfl (by kernel_rfl) (by kernel_rfl) (by kernel_rfl) (fun _ _ _ _ h => h) ?_
        apply Exists.intro
        refine ⟨Or.inl ⟨by rfl, fun w' hb => ?_⟩, ?_⟩
        · (go_simp; try with_reducible rfl)
        apply Exists.intro
        refine ⟨?_, ?_⟩
        · (go_simp; try rfl)
        refine wpAnyB_take 12 rfl (by kernel_rfl) (by kernel_rfl) (by kernel_rfl) (fun _ _ _ _ h => h) ?_
        apply Exists.intro
        refine ⟨Or.inl ⟨by rfl, fun w' hb => ?_⟩, ?_⟩
        · (go_simp; try with_reducible rfl)
        apply Exists.intro
        refine ⟨?_, ?_⟩
        · (go_simp; try rfl)
        refine wpAnyB_take 13 rfl (by kernel_rfl) (by kernel_rfl) (by kernel_rfl) (fun _ _ _ _ h => h) ?_
        apply Exists.intro
        refine ⟨Or.inl ⟨by rfl, fun w' hb => ?_⟩, ?_⟩
        · (go_simp; try with_reducible rfl)
        apply Exists.intro
        refine ⟨?_, ?_⟩
        · (go_simp; try rfl)
        refine wpAnyB_take 14 rfl (by kernel_rfl) (by kernel_rfl) (by kernel_rfl) (fun _ _ _ _ h => h) ?_
        apply Exists.intro
        refine ⟨Or.inl ⟨by rfl, fun w' hb => ?_⟩, ?_⟩
        · (go_simp; try with_reducible rfl)
        apply Exists.intro
        refine ⟨?_, ?_⟩
        · (go_simp; try rfl)
        refine wpAnyB_done (by kernel_rfl) ?_ _
        go_wp2_with fail
        go_ret2
        rw [hfn.out.1, hfn.out.2]
        exact ⟨rfl, bdrewN hbr5 _⟩
    · go_wp2_with fail
      go_ret2
      obtain rfl : k = zs.length := by omega
      have hJ := join_yes (zs := zs) (ys := ys) ⟨hP.out, hlq.out, hfit⟩
      have hL : leftAt zs zs.length = 0 := by unfold leftAt; rw [List.take_length, hP.out.2]; rfl
      rw [hJ.1, hJ.2, hL]
      exact ⟨ret_tup (by simp) rfl, hbr⟩

end Go.Proofs.YtpdpcdifnlellaaGreat

/- Package bits and its reference: Join of the reference; the chapter's examples. -/
namespace Go.Proofs.YtpdpcdifnlellaaGreat
open Go.ChangeShapes Go.WideShapes Go.ChangeAt Go.RowKit
set_option maxRecDepth 100000
set_option linter.unusedVariables false

theorem joinR_b {zs ys : List Int} (hr : rightP zs) (k : Nat) (h1 : k ≤ zs.length) (h2 : fitsJ zs ys k) : joinR zs ys k < 4294967296 := by
  have h := joinR_lt hr k h1 h2
  have h32 : (2 : Nat) ^ 32 = 4294967296 := by decide
  rw [h32] at h
  have := Nat.le_mul_of_pos_right (joinR zs ys k) (Nat.two_pow_pos (leftAt zs k).toNat)
  omega

set_option maxHeartbeats 2000000 in
theorem rjoin_any (ad bd : Option Addr) (len cap lb cb : Nat) (zs ys : List Int) (w : World) (hsl : Sl .i64 w ad len cap zs) (hwf : ∀ n ∈ zs, (Lit.int .i64 n).wf = true) (hlen : len ≤ 100000) (hys : Sl .u32 w bd lb cb ys) (hyf : ∀ n ∈ ys, (Lit.int .u32 n).wf = true) (hlb : lb ≤ 100000) :
    Calls Tryz.prog 72 #[.slice ad len cap, .slice bd lb cb] w fun e w' => e = .returned (.tuple #[.int .u32 (joinV zs ys), .bool (joinOk zs ys)]) ∧ Below w.heap.size w w' := by
  have hR := rright_any ad len cap zs w hsl hwf hlen
  obtain ⟨hl0, hlc, hcm, hn, hrd0⟩ := hsl
  obtain ⟨hl1, hlc1, hcm1, hn1, hrd1⟩ := hys
  by_cases c : rightB zs = true
  case neg =>
    have c := Bool.not_eq_true _ ▸ c
    have e := hid (join_no (zs := zs) (ys := ys) (fun h => by rw [show rightB zs = true from decide_eq_true h.1] at c; cases c))
    have hc := hid c
    clear c
    subst hl0 hl1
    go_enter Tryz.func72, Tryz.ntmps72
    go_wp2_with fail
    refine hR.mono ?_
    rintro e w2 ⟨rfl, rfl⟩
    rw [hc.out]
    go_wp2_with fail
    go_ret2
    rw [e.out.1, e.out.2]
    exact ⟨rfl, Below.refl _ _⟩
  by_cases cl : ys.length = zs.length
  case neg =>
    have e := hid (join_no (zs := zs) (ys := ys) (fun h => cl h.2.1))
    have cl2 : ¬ ((ys.length : Int) = zs.length) := by omega
    have hc := hid c
    clear c
    subst hl0 hl1
    go_enter Tryz.func72, Tryz.ntmps72
    go_wp2_with fail
    refine hR.mono ?_
    rintro e w2 ⟨rfl, rfl⟩
    rw [hc.out]
    go_wp2_with fail
    go_ret2
    rw [e.out.1, e.out.2]
    exact ⟨rfl, Below.refl _ _⟩
  have hP : rightP zs := of_decide_eq_true c
  have hl32 := right_len hP
  replace hP := hid hP
  have hrd := hid hrd0
  have hrdy := hid hrd1
  have hyn := hid hyf
  clear hrd0 hrd1 hyf
  subst hl0 hl1
  have hlq : (ys.length : Int) = zs.length := by omega
  go_enter Tryz.func72, Tryz.ntmps72
  go_wp2_with fail
  refine hR.mono ?_
  rintro e w2 ⟨rfl, rfl⟩
  rw [c]
  have hc := hid c
  clear c
  go_wp2_with fail
  clear hlq
  have hlq := hid cl
  clear cl
  go_loopw [6, 7] (fun x i wr => ∃ (k : Nat), k ≤ zs.length ∧ i = .int .i64 k ∧ Below w2.heap.size w2 wr ∧ x = .int .u64 ((joinR zs ys k : Nat) : Int) ∧ fitsJ zs ys k) (fun _ i _ => zs.length - (intOf i).toNat)
  case atStart => exact ⟨0, by omega, rfl, Below.refl _ _, by simp [joinR], fun i hi => by omega⟩
  case round =>
    obtain ⟨k, hk, rfl, hbr, rfl, hfit⟩ := hrel
    have hrdr := hrd.out.below hbr
    have hrdyr := hrdy.out.below hbr
    have hX := joinR_b (ys := ys) hP.out k hk hfit
    by_cases hlt : (k : Int) < ys.length
    · have hlt2 : k < ys.length := by omega
      have hltz : (k : Int) < zs.length := by have := hlq.out; omega
      have hltz2 : k < zs.length := by omega
      obtain ⟨b, off, rfl, hcz⟩ := hrdr k hltz2
      obtain ⟨b2, off2, rfl, hc⟩ := hrdyr k hlt2
      have hbd := left_bd zs hP.out k hltz2
      have hyb := bounds_u32 (hyn.out (ys.getD k 0) (by simp [hlt2]))
      obtain ⟨yn, hy0⟩ := Int.eq_ofNat_of_zero_le hyb.1
      obtain ⟨z, hz0⟩ := Int.eq_ofNat_of_zero_le (show 0 ≤ zs.getD k 0 by omega)
      have hJ : joinR zs ys (k + 1) = joinR zs ys k * 2 ^ z + yn := by simp only [joinR]; rw [hy0, hz0]; rfl
      have hFn : (∀ i, i < k + 1 → (ys.getD i 0).toNat < 2 ^ (zs.getD i 0).toNat) ↔ yn < 2 ^ z := by
        constructor
        · intro h; have := h k (by omega); rw [hy0, hz0] at this; exact this
        · intro h i hi
          by_cases e : i = k
          · subst e; rw [hy0, hz0]; exact h
          · exact hfit i (by omega)
      rw [hz0] at hcz hbd
      rw [hy0] at hc hyb
      clear hz0 hy0
      replace hfit := hid hfit
      obtain ⟨p, hp⟩ : ∃ p, Go.RowKit.Hid (p = 2 ^ z) := ⟨_, hid (Eq.refl (2 ^ z))⟩
      have hpw := hid (fun (v : World) => bpower_any z p hp v (show z ≤ 32 by omega))
      have f1 : IntKind.u64.wrap (yn : Int) = yn := by simp [IntKind.wrap, IntKind.bits, IntKind.signed]; omega
      by_cases cf : yn < p
      · have cf2 : yn < 2 ^ z := by rw [← hp.out]; exact cf
        have hfn := hFn.2 cf2
        have hX1 := joinR_b (ys := ys) hP.out (k + 1) (by omega) hfn
        rw [hJ, ← hp.out] at hX1
        rw [← hp.out] at hJ
        generalize joinR zs ys k = R at *
        obtain ⟨Q, hQ⟩ : ∃ Q : Nat, Q = R * p := ⟨_, rfl⟩
        rw [← hQ] at hX1 hJ
        have fQ : (R : Int) * (p : Int) = (Q : Int) := by rw [hQ]; simp
        have f2 : IntKind.u64.wrap (Q : Int) = Q := by simp [IntKind.wrap, IntKind.bits, IntKind.signed]; omega
        have f3 : IntKind.u64.wrap ((Q : Int) + (yn : Int)) = (Q : Int) + (yn : Int) := by simp [IntKind.wrap, IntKind.bits, IntKind.signed]; omega
        have hfh := hid hfn
        replace hJ := hid hJ
        have cf3 : ((p : Int) ≤ (yn : Int)) = False := by simp; omega
        clear hFn hQ hfn cf2
        go_wp2_with fail
        go_quiet (exact Calls.quiet_of_same (hpw.out _))
        have hcz2 : (wr.drewN nq).cell? ⟨b, off + k, none⟩ = some (.int .i64 z) := hcz
        have hc2 : (wr.drewN nq).cell? ⟨b2, off2 + k, none⟩ = some (.int .u32 yn) := hc
        replace hbr := bdrewN hbr nq
        clear hcz hc hrdr hrdyr
        generalize wr.drewN nq = v at *
        go_wp2_with fail
        go_quiet (exact Calls.quiet_of_same (hpw.out _))
        go_wp2_with fail
        go_roundw
        case rel => exact ⟨k + 1, by omega, by simp, bdrewN hbr _, by rw [hJ.out]; simp, hfh.out⟩
        case measure => simp [intOf]; omega
      · have hfn := hid (join_no (zs := zs) (ys := ys) (fun h => cf (by rw [hp.out]; exact hFn.1 (fun i hi => h.2.2 i (by omega)))))
        have cf3 : (p : Int) ≤ (yn : Int) := by omega
        clear hFn hJ
        go_wp2_with fail
        go_quiet (exact Calls.quiet_of_same (hpw.out _))
        go_wp2_with fail
        go_ret2
        rw [hfn.out.1, hfn.out.2]
        exact ⟨rfl, bdrewN hbr _⟩
    · obtain rfl : k = zs.length := by have := hlq.out; omega
      have f2 : IntKind.u32.wrap ((joinR zs ys zs.length : Nat) : Int) = ((joinR zs ys zs.length : Nat) : Int) := by rw [IntKind.wrap_u32]; omega
      have hJ := hid (join_yes (zs := zs) (ys := ys) ⟨hP.out, hlq.out, hfit⟩)
      go_wp2_with fail
      go_ret2
      rw [hJ.out.1, hJ.out.2]
      exact ⟨rfl, hbr⟩

end Go.Proofs.YtpdpcdifnlellaaGreat
