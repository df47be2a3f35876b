/- Package bits and its reference: contracts. -/
import Derived.Test.YtnabfimammojhaaSlices
import Derived.Laws.BitsAllLaws
import Derived.Laws.ShiftsVarLaws
namespace Go.Proofs.Ytnabfimammojhaa
open Go.ChangeShapes Go.WideShapes Go.ChangeAt Go.RowKit
set_option linter.unusedVariables false

def szP (n : Int) : Bool := decide (1 ≤ n ∧ n ≤ 32)
def plP (at_ n : Int) : Bool := decide (1 ≤ n ∧ n ≤ 32 ∧ 0 ≤ at_ ∧ at_ + n ≤ 32)

theorem sized_any (n : Int) (w : World) (h1 : -9223372036854775808 ≤ n) (h2 : n ≤ 9223372036854775807) :
    Calls Try.prog 43 #[.int .i64 n] w fun e w' => e = .returned (.bool (szP n)) ∧ w' = w := by
  by_cases c1 : 1 ≤ n
  · by_cases c2 : n ≤ 32
    · have e := hid (show szP n = true by unfold szP; simp; omega)
      go_enter Try.func43, Try.ntmps43
      go_wp2_with fail
      go_ret
      exact ⟨ret_bool e.out.symm, rfl⟩
    · have e := hid (show szP n = false by unfold szP; simp; omega)
      go_enter Try.func43, Try.ntmps43
      go_wp2_with fail
      go_ret
      exact ⟨ret_bool e.out.symm, rfl⟩
  · have e := hid (show szP n = false by unfold szP; simp; omega)
    go_enter Try.func43, Try.ntmps43
    go_wp2_with fail
    go_ret
    exact ⟨ret_bool e.out.symm, rfl⟩

theorem low_is : ∀ n : Nat, n < 33 → 1 ≤ n → (4294967295 : Int) / 2 ^ (32 - n) = ((2 ^ n - 1 : Nat) : Int) := by decide
theorem low_any (n : Nat) (w : World) (h1 : 1 ≤ n) (h2 : n ≤ 32) :
    Calls Try.prog 46 #[.int .i64 n] w fun e w' => e = .returned (.int .u32 ((2 ^ n - 1 : Nat) : Int)) ∧ w' = w := by
  go_enter Try.func46, Try.ntmps46
  have e := hid (low_is n (by omega) h1)
  go_wp2_with fail
  go_ret
  exact ⟨ret_int e.out, rfl⟩

theorem rplace_any (a n : Int) (w : World) (h1 : -9223372036854775808 ≤ n) (h2 : n ≤ 9223372036854775807) (h3 : -9223372036854775808 ≤ a) (h4 : a ≤ 9223372036854775807) :
    Calls Try.prog 47 #[.int .i64 a, .int .i64 n] w fun e w' => e = .returned (.bool (plP a n)) ∧ w' = w := by
  go_enter Try.func47, Try.ntmps47
  go_wp2_with fail
  all_goals go_ret
  all_goals exact ⟨ret_bool (by unfold plP; rw [Bool.eq_iff_iff]; simp; omega), rfl⟩

theorem bpower_any (n q : Nat) (hq : Go.RowKit.Hid (q = 2 ^ n)) (w : World) (h2 : n ≤ 32) :
    Calls Try.prog 38 #[.int .i64 n] w fun e w' => e = .returned (.int .u64 (q : Int)) ∧ w' = w := by
  go_enter Try.func38, Try.ntmps38
  go_wp2_with fail
  go_loopw [3, 4] (fun v x wr => ∃ (k p : Nat), wr = w ∧ k ≤ n ∧ x = .int .i64 k ∧ v = .int .u64 p ∧ Hid (p = 2 ^ k) ∧ p ≤ 4294967296) (fun _ x _ => n - (intOf x).toNat)
  case atStart => exact ⟨0, 1, rfl, by omega, rfl, rfl, rfl, by omega⟩
  case round =>
    obtain ⟨k, p, rfl, hk, rfl, rfl, hp, hp2⟩ := hrel
    by_cases hlt : (k : Int) < n
    · go_wp2_with fail
      go_roundw
      case rel =>
        have e : 2 * p = 2 ^ (k + 1) := by rw [hp.out, Nat.pow_succ, Nat.mul_comm]
        refine ⟨k + 1, 2 * p, trivial, by omega, by simp, by simp, e, ?_⟩
        rw [e]
        exact Nat.pow_le_pow_right (by omega) (show k + 1 ≤ 32 by omega)
      case measure => simp [intOf]; omega
    · go_wp2_with fail
      go_ret
      obtain rfl : k = n := by omega
      exact ⟨ret_int (by rw [hp.out, hq.out]), rfl⟩

theorem place_any (a n : Int) (w : World) (h1 : -9223372036854775808 ≤ n) (h2 : n ≤ 9223372036854775807) (h3 : -9223372036854775808 ≤ a) (h4 : a ≤ 9223372036854775807) :
    Calls Try.prog 45 #[.int .i64 a, .int .i64 n] w fun e w' => e = .returned (.bool (plP a n)) ∧ w' = w := by
  go_enter Try.func45, Try.ntmps45
  go_wp2_with fail
  refine (sized_any n _ h1 h2).mono ?_
  rintro e w2 ⟨rfl, rfl⟩
  by_cases c : 1 ≤ n ∧ n ≤ 32
  · have e : szP n = true := by unfold szP; simp; omega
    rw [e]
    clear e
    go_wp2_with fail
    all_goals go_ret
    all_goals exact ⟨ret_bool (by unfold plP; rw [Bool.eq_iff_iff]; simp; omega), rfl⟩
  · have e : szP n = false := by unfold szP; simp; omega
    rw [e]
    have e2 : plP a n = false := by unfold plP; simp; omega
    have e2 := hid e2
    clear e
    go_wp2_with fail
    all_goals go_ret
    all_goals exact ⟨ret_bool (by rw [e2.out]), rfl⟩

/-- The bits of a place. -/
def getS (x : Nat) (a n : Int) : Nat := if plP a n then x / 2 ^ a.toNat % 2 ^ n.toNat else 0

theorem rget_any (x : Nat) (a n : Int) (w : World) (hx : x < 4294967296) (h1 : -9223372036854775808 ≤ n) (h2 : n ≤ 9223372036854775807) (h3 : -9223372036854775808 ≤ a) (h4 : a ≤ 9223372036854775807) :
    Calls Try.prog 41 #[.int .u32 x, .int .i64 a, .int .i64 n] w fun e w' => e = .returned (.int .u32 (getS x a n)) ∧ (∃ m, w' = w.drewN m) := by
  by_cases c : plP a n = true
  case neg =>
    have c := Bool.not_eq_true _ ▸ c
    have e := hid (show getS x a n = 0 by unfold getS; rw [c]; rfl)
    go_enter Try.func41, Try.ntmps41
    go_wp2_with fail
    refine (rplace_any a n _ h1 h2 h3 h4).mono ?_
    rintro e w2 ⟨rfl, rfl⟩
    rw [c]
    clear c
    go_wp2_with fail
    go_ret
    exact ⟨ret_int (by rw [e.out]; rfl), ⟨0, rfl⟩⟩
  have e := hid (show getS x a n = x / 2 ^ a.toNat % 2 ^ n.toNat by unfold getS; rw [if_pos c])
  have c1 : 1 ≤ n ∧ n ≤ 32 ∧ 0 ≤ a ∧ a + n ≤ 32 := by unfold plP at c; simpa using c
  go_enter Try.func41, Try.ntmps41
  go_wp2_with fail
  refine (rplace_any a n _ h1 h2 h3 h4).mono ?_
  rintro e w2 ⟨rfl, rfl⟩
  rw [c]
  clear c
  obtain ⟨a, rfl⟩ := Int.eq_ofNat_of_zero_le c1.2.2.1
  obtain ⟨n, rfl⟩ := Int.eq_ofNat_of_zero_le (show 0 ≤ n by omega)
  obtain ⟨p1, q1⟩ : ∃ p, Go.RowKit.Hid (p = 2 ^ a) := ⟨_, hid (Eq.refl (2 ^ a))⟩
  obtain ⟨p2, q2⟩ : ∃ p, Go.RowKit.Hid (p = 2 ^ n) := ⟨_, hid (Eq.refl (2 ^ n))⟩
  have g1 : 1 ≤ p1 := by rw [q1.out]; exact Nat.one_le_two_pow
  have g2 : 1 ≤ p2 := by rw [q2.out]; exact Nat.one_le_two_pow
  obtain ⟨d, hd⟩ : ∃ d : Nat, (x : Int) / (p1 : Int) = d := ⟨x / p1, by simp⟩
  have hd0 : d = x / p1 := by have h : ((x / p1 : Nat) : Int) = d := by rw [← hd]; simp
                              omega
  have hdx : d ≤ x := by rw [hd0]; exact Nat.div_le_self _ _
  obtain ⟨r, hr⟩ : ∃ r : Nat, (d : Int) % (p2 : Int) = r := ⟨d % p2, by simp⟩
  have hr0 : r = d % p2 := by have h : ((d % p2 : Nat) : Int) = r := by rw [← hr]; simp
                              omega
  have hrd : r ≤ d := by rw [hr0]; exact Nat.mod_le _ _
  have hR : Go.RowKit.Hid (getS x a n = r) := by
    show getS x a n = r
    rw [e.out, hr0, hd0, q1.out, q2.out]; rfl
  clear hr0 hd0 e
  have n1 : ¬ (p1 = 0) := by omega
  have n2 : ¬ (p2 = 0) := by omega
  have hr2 : (d : Int).tmod (p2 : Int) = r := by rw [Int.tmod_eq_emod_of_nonneg (by omega)]; exact hr
  have f1 : IntKind.u64.wrap (x : Int) = x := by simp [IntKind.wrap, IntKind.bits, IntKind.signed]; omega
  have f2 : IntKind.u64.wrap (d : Int) = d := by simp [IntKind.wrap, IntKind.bits, IntKind.signed]; omega
  have f3 : IntKind.u64.wrap (r : Int) = r := by simp [IntKind.wrap, IntKind.bits, IntKind.signed]; omega
  have f4 : IntKind.u32.wrap (r : Int) = r := by simp [IntKind.wrap, IntKind.bits, IntKind.signed]; omega
  go_wp2_with fail
  refine wp_region_quiet_lit (by kernel_rfl) (by kernel_rfl) ?_
  quiet_step (fail)
  quiet_step (fail)
  quiet_step (fail)
  quiet_step (exact Calls.quiet_of_same (bpower_any _ _ q1 _ (by omega)))
  quiet_step (fail)
  quiet_step (fail)
  quiet_step (exact Calls.quiet_of_same (bpower_any _ _ q2 _ (by omega)))
  quiet_step (fail)
  quiet_step (fail)
  quiet_step (fail)
  refine wpQuiet_nil ?_
  intro _ hw0
  obtain ⟨nq, hw1⟩ := hw0
  subst hw1
  go_wp2_with fail
  go_ret
  exact ⟨ret_int (by rw [hR.out]), ⟨_, rfl⟩⟩

theorem get_any (x : Nat) (a n : Int) (w : World) (hx : x < 4294967296) (h1 : -9223372036854775808 ≤ n) (h2 : n ≤ 9223372036854775807) (h3 : -9223372036854775808 ≤ a) (h4 : a ≤ 9223372036854775807) :
    Calls Try.prog 39 #[.int .u32 x, .int .i64 a, .int .i64 n] w fun e w' => e = .returned (.int .u32 (getS x a n)) ∧ (∃ m, w' = w.drewN m) := by
  by_cases c : plP a n = true
  case neg =>
    have c := Bool.not_eq_true _ ▸ c
    have e := hid (show getS x a n = 0 by unfold getS; rw [c]; rfl)
    go_enter Try.func39, Try.ntmps39
    go_wp2_with fail
    refine (place_any a n _ h1 h2 h3 h4).mono ?_
    rintro e w2 ⟨rfl, rfl⟩
    rw [c]
    clear c
    go_wp2_with fail
    go_ret
    exact ⟨ret_int (by rw [e.out]; rfl), ⟨0, rfl⟩⟩
  have e := hid (show getS x a n = x / 2 ^ a.toNat % 2 ^ n.toNat by unfold getS; rw [if_pos c])
  have c1 : 1 ≤ n ∧ n ≤ 32 ∧ 0 ≤ a ∧ a + n ≤ 32 := by unfold plP at c; simpa using c
  go_enter Try.func39, Try.ntmps39
  go_wp2_with fail
  refine (place_any a n _ h1 h2 h3 h4).mono ?_
  rintro e w2 ⟨rfl, rfl⟩
  rw [c]
  clear c
  obtain ⟨a, rfl⟩ := Int.eq_ofNat_of_zero_le c1.2.2.1
  obtain ⟨n, rfl⟩ := Int.eq_ofNat_of_zero_le (show 0 ≤ n by omega)
  obtain ⟨d, hd⟩ : ∃ d : Nat, d = x / 2 ^ a := ⟨_, rfl⟩
  have hdx : d ≤ x := by rw [hd]; exact Nat.div_le_self _ _
  have hsh : (x : Int) / 2 ^ a = (d : Int) := by rw [hd]; simp
  obtain ⟨m, hm⟩ : ∃ m : Nat, m = 2 ^ n - 1 := ⟨_, rfl⟩
  have hm32 : m < 4294967296 := by
    have : 2 ^ n ≤ 2 ^ 32 := Nat.pow_le_pow_right (by omega) (by omega)
    have h32 : (2 : Nat) ^ 32 = 4294967296 := by decide
    omega
  have hA : bits .and .u32 (d : Int) (m : Int) = ((getS x a n : Nat) : Int) := by
    rw [u32_and_nat d m (by omega) hm32, hm, Nat.and_two_pow_sub_one_eq_mod, hd, e.out]; rfl
  have hlow := hid (fun w => (hm ▸ low_any n w (by omega) (by omega) : Calls Try.prog 46 #[.int .i64 n] w fun e w' => e = .returned (.int .u32 (m : Int)) ∧ w' = w))
  have a31 : (a : Int) < 32 := by omega
  obtain ⟨R, hR⟩ : ∃ R, Go.RowKit.Hid (getS x a n = R) := ⟨_, hid (Eq.refl (getS x a n))⟩
  rw [hR.out] at hA
  clear hd hm e
  go_wp2_with fail
  refine wp_region_quiet_lit (by kernel_rfl) (by kernel_rfl) ?_
  repeat (quiet_step (exact Calls.quiet_of_same (hlow.out _)))
  refine wpQuiet_nil ?_
  intro _ hw0
  obtain ⟨nq, hw1⟩ := hw0
  subst hw1
  go_wp2_with fail
  go_ret
  exact ⟨ret_int (by rw [hR.out]), ⟨_, rfl⟩⟩

end Go.Proofs.Ytnabfimammojhaa
