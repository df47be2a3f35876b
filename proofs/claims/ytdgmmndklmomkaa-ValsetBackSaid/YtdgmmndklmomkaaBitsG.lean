/- Package bits: Get. -/
import Derived.Test.YtdgmmndklmomkaaKA
import Derived.Laws.BitsAllLaws
import Derived.Laws.ShiftsVarLaws
namespace Go.Proofs.Ytdgmmndklmomkaa
open Go.ChangeShapes Go.WideShapes Go.ChangeAt Go.RowKit
set_option linter.unusedVariables false

def szP (n : Int) : Bool := decide (1 ≤ n ∧ n ≤ 32)
def plP (at_ n : Int) : Bool := decide (1 ≤ n ∧ n ≤ 32 ∧ 0 ≤ at_ ∧ at_ + n ≤ 32)

theorem bg_sized_any (n : Int) (w : World) (h1 : -9223372036854775808 ≤ n) (h2 : n ≤ 9223372036854775807) :
    Calls Try.prog 66 #[.int .i64 n] w fun e w' => e = .returned (.bool (szP n)) ∧ w' = w := by
  by_cases c1 : 1 ≤ n
  · by_cases c2 : n ≤ 32
    · have e := hid (show szP n = true by unfold szP; simp; omega)
      go_enter Try.func66, Try.ntmps66
      go_wp2_with fail
      go_ret
      exact ⟨ret_bool e.out.symm, rfl⟩
    · have e := hid (show szP n = false by unfold szP; simp; omega)
      go_enter Try.func66, Try.ntmps66
      go_wp2_with fail
      go_ret
      exact ⟨ret_bool e.out.symm, rfl⟩
  · have e := hid (show szP n = false by unfold szP; simp; omega)
    go_enter Try.func66, Try.ntmps66
    go_wp2_with fail
    go_ret
    exact ⟨ret_bool e.out.symm, rfl⟩

theorem bg_low_is : ∀ n : Nat, n < 33 → 1 ≤ n → (4294967295 : Int) / 2 ^ (32 - n) = ((2 ^ n - 1 : Nat) : Int) := by decide
theorem bg_low_any (n : Nat) (w : World) (h1 : 1 ≤ n) (h2 : n ≤ 32) :
    Calls Try.prog 58 #[.int .i64 n] w fun e w' => e = .returned (.int .u32 ((2 ^ n - 1 : Nat) : Int)) ∧ w' = w := by
  go_enter Try.func58, Try.ntmps58
  have e := hid (bg_low_is n (by omega) h1)
  go_wp2_with fail
  go_ret
  exact ⟨ret_int e.out, rfl⟩

theorem bg_place_any (a n : Int) (w : World) (h1 : -9223372036854775808 ≤ n) (h2 : n ≤ 9223372036854775807) (h3 : -9223372036854775808 ≤ a) (h4 : a ≤ 9223372036854775807) :
    Calls Try.prog 57 #[.int .i64 a, .int .i64 n] w fun e w' => e = .returned (.bool (plP a n)) ∧ w' = w := by
  go_enter Try.func57, Try.ntmps57
  go_wp2_with fail
  refine (bg_sized_any n _ h1 h2).mono ?_
  rintro e w2 ⟨rfl, rfl⟩
  by_cases c : 1 ≤ n ∧ n ≤ 32
  · have e : szP n = true := by unfold szP; simp; omega
    rw [e]
    clear e
    go_wp2_with fail
    all_goals go_ret
    all_goals exact ⟨ret_bool (by unfold plP; rw [Bool.eq_iff_iff]; simp; omega), rfl⟩
  · have e : szP n = false := by unfold szP; simp; omega
    rw [e]
    have e2 : plP a n = false := by unfold plP; simp; omega
    have e2 := hid e2
    clear e
    go_wp2_with fail
    all_goals go_ret
    all_goals exact ⟨ret_bool (by rw [e2.out]), rfl⟩

/-- The bits of a place. -/
def getS (x : Nat) (a n : Int) : Nat := if plP a n then x / 2 ^ a.toNat % 2 ^ n.toNat else 0

theorem bg_get_any (x : Nat) (a n : Int) (w : World) (hx : x < 4294967296) (h1 : -9223372036854775808 ≤ n) (h2 : n ≤ 9223372036854775807) (h3 : -9223372036854775808 ≤ a) (h4 : a ≤ 9223372036854775807) :
    Calls Try.prog 41 #[.int .u32 x, .int .i64 a, .int .i64 n] w fun e w' => e = .returned (.int .u32 (getS x a n)) ∧ (∃ m, w' = w.drewN m) := by
  by_cases c : plP a n = true
  case neg =>
    have c := Bool.not_eq_true _ ▸ c
    have e := hid (show getS x a n = 0 by unfold getS; rw [c]; rfl)
    go_enter Try.func41, Try.ntmps41
    go_wp2_with fail
    refine (bg_place_any a n _ h1 h2 h3 h4).mono ?_
    rintro e w2 ⟨rfl, rfl⟩
    rw [c]
    clear c
    go_wp2_with fail
    go_ret
    exact ⟨ret_int (by rw [e.out]; rfl), ⟨0, rfl⟩⟩
  have e := hid (show getS x a n = x / 2 ^ a.toNat % 2 ^ n.toNat by unfold getS; rw [if_pos c])
  have c1 : 1 ≤ n ∧ n ≤ 32 ∧ 0 ≤ a ∧ a + n ≤ 32 := by unfold plP at c; simpa using c
  go_enter Try.func41, Try.ntmps41
  go_wp2_with fail
  refine (bg_place_any a n _ h1 h2 h3 h4).mono ?_
  rintro e w2 ⟨rfl, rfl⟩
  rw [c]
  clear c
  obtain ⟨a, rfl⟩ := Int.eq_ofNat_of_zero_le c1.2.2.1
  obtain ⟨n, rfl⟩ := Int.eq_ofNat_of_zero_le (show 0 ≤ n by omega)
  obtain ⟨d, hd⟩ : ∃ d : Nat, d = x / 2 ^ a := ⟨_, rfl⟩
  have hdx : d ≤ x := by rw [hd]; exact Nat.div_le_self _ _
  have hsh : (x : Int) / 2 ^ a = (d : Int) := by rw [hd]; simp
  obtain ⟨m, hm⟩ : ∃ m : Nat, m = 2 ^ n - 1 := ⟨_, rfl⟩
  have hm32 : m < 4294967296 := by
    have : 2 ^ n ≤ 2 ^ 32 := Nat.pow_le_pow_right (by omega) (by omega)
    have h32 : (2 : Nat) ^ 32 = 4294967296 := by decide
    omega
  have hA : bits .and .u32 (d : Int) (m : Int) = ((getS x a n : Nat) : Int) := by
    rw [u32_and_nat d m (by omega) hm32, hm, Nat.and_two_pow_sub_one_eq_mod, hd, e.out]; rfl
  have hlow := hid (fun w => (hm ▸ bg_low_any n w (by omega) (by omega) : Calls Try.prog 58 #[.int .i64 n] w fun e w' => e = .returned (.int .u32 (m : Int)) ∧ w' = w))
  have a31 : (a : Int) < 32 := by omega
  obtain ⟨R, hR⟩ : ∃ R, Go.RowKit.Hid (getS x a n = R) := ⟨_, hid (Eq.refl (getS x a n))⟩
  rw [hR.out] at hA
  clear hd hm e
  go_wp2_with fail
  refine wp_region_quiet_lit (by kernel_rfl) (by kernel_rfl) ?_
  repeat (quiet_step (exact Calls.quiet_of_same (hlow.out _)))
  refine wpQuiet_nil ?_
  intro _ hw0
  obtain ⟨nq, hw1⟩ := hw0
  subst hw1
  go_wp2_with fail
  go_ret
  exact ⟨ret_int (by rw [hR.out]), ⟨_, rfl⟩⟩

end Go.Proofs.Ytdgmmndklmomkaa
