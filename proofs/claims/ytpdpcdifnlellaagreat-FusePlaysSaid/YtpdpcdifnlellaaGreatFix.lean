/- What each function of package fix comes to: contracts, by walking their text. -/
import Derived.Test.YtpdpcdifnlellaaGreatKA
namespace Go.Proofs.YtpdpcdifnlellaaGreat
open Go.ChangeShapes Go.WideShapes Go.ChangeAt Go.RowKit

theorem wrapU64_neg (n : Int) (h1 : -9223372036854775808 ≤ n) (h : n < 0) : IntKind.u64.wrap (-IntKind.u64.wrap n) = ↑n.natAbs := by
  simp [IntKind.wrap, IntKind.bits, IntKind.signed]
  omega

theorem wrap64_neg (q : Nat) (h1 : q ≤ 9223372036854775808) : wrap64 (IntKind.u64.wrap (-(q : Int))) = -(q : Int) := by
  simp [IntKind.wrap, IntKind.bits, IntKind.signed, wrap64]
  omega

theorem far_any (n : Int) (w : World) (h1 : -9223372036854775808 ≤ n) (h2 : n ≤ 9223372036854775807) :
    Calls Tryz.prog 75 #[.int .i64 n] w fun e w' => e = .returned (.int .u64 n.natAbs) ∧ w' = w := by
  by_cases h : n < 0
  · have hd := hid (wrapU64_neg n h1 h)
    go_enter Tryz.func75, Tryz.ntmps75
    go_wp2
    go_ret
    exact ⟨ret_int hd.out, rfl⟩
  · go_enter Tryz.func75, Tryz.ntmps75
    go_wp2
    go_ret
    exact ⟨ret_int (by omega), rfl⟩

/-- a by b, to the nearest -/
def qn (a b : Nat) : Nat := if b - a % b ≤ a % b then a / b + 1 else a / b
def overS (n d : Int) : Int := if d = 0 then 0 else if n < 0 ∧ ¬ d < 0 ∨ ¬ n < 0 ∧ d < 0 then -(qn n.natAbs d.natAbs : Int) else if qn n.natAbs d.natAbs ≤ 9223372036854775807 then (qn n.natAbs d.natAbs : Int) else 9223372036854775807

theorem qn_le (a b : Nat) (h : a ≤ 9223372036854775808) (hb : 0 < b) : qn a b ≤ 9223372036854775808 := by
  unfold qn
  have h1 : a / b ≤ a := Nat.div_le_self a b
  split
  · rename_i hc
    have h2 := Nat.mod_lt a hb
    by_cases h1b : b = 1
    · subst h1b; simp [Nat.mod_one] at hc
    · have : a / b ≤ a / 2 := Nat.div_le_div_left (by omega) (by omega)
      omega
  · omega

set_option maxHeartbeats 1000000 in
theorem over_any (n d : Int) (w : World) (h1 : -9223372036854775808 ≤ n) (h2 : n ≤ 9223372036854775807) (h3 : -9223372036854775808 ≤ d) (h4 : d ≤ 9223372036854775807) :
    Calls Tryz.prog 44 #[.int .i64 n, .int .i64 d] w fun e w' => e = .returned (.int .i64 (overS n d)) ∧ ∃ k, w' = w.drewN k := by
  by_cases h : d = 0
  · subst h
    go_enter Tryz.func44, Tryz.ntmps44
    go_wp2
    go_ret
    exact ⟨ret_int rfl, 0, rfl⟩
  · go_enter Tryz.func44, Tryz.ntmps44
    go_wp2_with (go_at_call 75; refine (far_any _ _ (by assumption) (by assumption)).mono ?_; rintro e w' ⟨rfl, rfl⟩)
    have hd0 : 0 < d.natAbs := by omega
    have hq0 := qn_le n.natAbs d.natAbs (by omega) hd0
    have HS : Go.RowKit.Hid (overS n d = if n < 0 ∧ ¬ d < 0 ∨ ¬ n < 0 ∧ d < 0 then -(qn n.natAbs d.natAbs : Int) else if qn n.natAbs d.natAbs ≤ 9223372036854775807 then (qn n.natAbs d.natAbs : Int) else 9223372036854775807) := if_neg h
    have ha0 : n.natAbs ≤ 9223372036854775808 := by omega
    have hb0 : d.natAbs ≤ 9223372036854775808 := by omega
    generalize n.natAbs = a at *
    generalize d.natAbs = b at *
    have hm := Nat.mod_lt a hd0
    have hm2 := Nat.mod_le a b
    have hdv : a / b ≤ a := Nat.div_le_self a b
    have HQ : Go.RowKit.Hid (qn a b = if b - a % b ≤ a % b then a / b + 1 else a / b) := rfl
    have eq1 : (a : Int) / (b : Int) = ((a / b : Nat) : Int) := rfl
    have er1 : (a : Int) % (b : Int) = ((a % b : Nat) : Int) := rfl
    generalize a / b = q at *
    generalize a % b = r at *
    have hbi : (b : Int) ≠ 0 := by omega
    have wq : IntKind.u64.wrap (q : Int) = q := IntWalk.u64_in _ (by omega)
    go_quiet (fail)
    clear wq eq1 hbi
    have hq1 : Go.RowKit.Hid (qn a b = if b - r ≤ r then q + 1 else q) := HQ
    have hq2 := hid hq0
    have hr1 := hid er1
    clear HQ hq0 hdv hm2 er1
    by_cases hn : n < 0 <;> by_cases hdn : d < 0
    all_goals
      go_wp2
      all_goals
        go_ret
        refine ⟨ret_int ?_, _, rfl⟩
        have e1 := HS.out
        have e2 := hq1.out
        have e3 := hq2.out
        have e4 := hr1.out
        clear HS hq1 hq2 hr1
        first
          | rw [if_pos (by omega)] at e1
          | rw [if_neg (by omega)] at e1
        rw [e1]
        simp only [wrap64, IntKind.wrap_u64, e4] at *
        (repeat' split at e2) <;> (repeat' split) <;> omega

theorem within_any (n h : Int) (w : World) (h0 : 0 ≤ h) :
    Calls Tryz.prog 50 #[.int .i64 n, .int .i64 h] w fun e w' => e = .returned (.int .i64 (max 0 (min n h))) ∧ w' = w := by
  by_cases c1 : n < 0 <;> by_cases c2 : h < n
  all_goals
    go_enter Tryz.func50, Tryz.ntmps50
    go_wp2
    try all_goals
      go_ret
      exact ⟨ret_int (by omega), rfl⟩

def pow2 (k : Nat) : Int := ((2 ^ k : Nat) : Int)
theorem pow2_zero : pow2 0 = 1 := rfl
theorem pow2_succ (k : Nat) : pow2 (k + 1) = pow2 k + pow2 k := by unfold pow2; rw [Nat.pow_succ]; omega
theorem pow2_pos (k : Nat) : 1 ≤ pow2 k := by unfold pow2; have := Nat.pow_pos (n := k) (show 0 < 2 by decide); omega
theorem pow2_mono (a b : Nat) (h : a ≤ b) : pow2 a ≤ pow2 b := by unfold pow2; exact Int.ofNat_le.2 (Nat.pow_le_pow_right (by decide) h)
theorem pow2_62 : pow2 62 = 4611686018427387904 := by decide +kernel
theorem pow2_30 : pow2 30 = 1073741824 := by decide +kernel
theorem pow2_le (k : Nat) (h : k ≤ 62) : pow2 k ≤ 4611686018427387904 := by rw [← pow2_62]; exact pow2_mono _ _ h

theorem power_any (k : Nat) (hk : k ≤ 62) (w : World) :
    Calls Tryz.prog 49 #[.int .i64 k] w fun e w' => e = .returned (.int .i64 (pow2 k)) ∧ w' = w := by
  go_enter Tryz.func49, Tryz.ntmps49
  go_wp2
  go_loop [3, 5] (fun p i => ∃ j : Nat, j ≤ k ∧ i = .int .i64 j ∧ p = .int .i64 (pow2 j)) (fun _ i => k - (intOf i).toNat)
  case atStart => exact ⟨0, Nat.zero_le _, rfl, rfl⟩
  case round =>
    obtain ⟨j, hj, rfl, rfl⟩ := hrel
    have hp := pow2_pos j
    by_cases hlt : j < k
    · have hs := pow2_le (j + 1) (by omega)
      rw [pow2_succ] at hs
      go_wp2
      go_round
      case rel => exact ⟨j + 1, by omega, by go_num, by rw [pow2_succ]⟩
      case measure => simp [intOf]; omega
    · go_wp2
      go_ret
      exact ⟨by rw [show k = j from by omega]; rfl, rfl⟩

def clampS (n : Int) : Int := if 2147483647 < n then 2147483647 else if n < -2147483648 then -2147483648 else n
def clampB (n : Int) : Bool := decide (2147483647 < n ∨ n < -2147483648)
def clampV (n : Int) : Value := .tuple #[.int .i32 (clampS n), .bool (clampB n)]
theorem clampV_hi (n : Int) (h : 2147483647 < n) : clampV n = .tuple #[.int .i32 2147483647, .bool true] := by
  simp [clampV, clampS, clampB, h]
theorem clampV_lo (n : Int) (h : n < -2147483648) : clampV n = .tuple #[.int .i32 (-2147483648), .bool true] := by
  simp [clampV, clampS, clampB, h]; omega
theorem clampV_in (n : Int) (h : ¬ 2147483647 < n) (h' : ¬ n < -2147483648) : clampV n = .tuple #[.int .i32 n, .bool false] := by
  simp only [clampV, clampS, clampB]; rw [if_neg h, if_neg h', decide_eq_false (by omega)]

set_option maxHeartbeats 1000000 in
theorem cut1_any (x : Int) (b : Nat) (w : World) (h1 : -9223372036854775808 ≤ x) (h2 : x ≤ 9223372036854775807) (hc : w.cell? ⟨b, 0, none⟩ = some (.int .i64 x)) :
    Calls Tryz.prog 48 #[.slice (some ⟨b, 0, none⟩) 1 1] w fun e w' => e = .returned (clampV x) ∧ w' = w := by
  go_enter Tryz.func48, Tryz.ntmps48
  go_wp2
  go_loop [4, 5, 8] (fun n j i => ∃ k : Nat, k ≤ 1 ∧ i = .int .i64 k ∧ n = .int .i64 (if k = 0 then 0 else x)) (fun _ _ i => 1 - (intOf i).toNat)
  case atStart => exact ⟨0, Nat.zero_le _, rfl, rfl⟩
  case round =>
    obtain ⟨k, hk, rfl, rfl⟩ := hrel
    by_cases hlt : k < 1
    · obtain rfl : k = 0 := by omega
      go_wp2
      go_round
      case rel => exact ⟨1, by omega, rfl, rfl⟩
      case measure => simp [intOf]
    · obtain rfl : k = 1 := by omega
      by_cases c1 : 2147483647 < x
      · have HV := hid (clampV_hi x c1)
        go_wp2
        go_ret2
        exact ⟨by rw [HV.out]; rfl, rfl⟩
      · by_cases c2 : x < -2147483648
        · have HV := hid (clampV_lo x c2)
          go_wp2
          go_ret2
          exact ⟨by rw [HV.out]; rfl, rfl⟩
        · have HV := hid (clampV_in x c1 c2)
          go_wp2
          go_ret2
          exact ⟨by rw [HV.out]; rfl, rfl⟩

set_option maxHeartbeats 1000000 in
theorem cut2_any (x y : Int) (b : Nat) (w : World) (h1 : -4294967296 ≤ x) (h2 : x ≤ 4294967296) (h3 : -4294967296 ≤ y) (h4 : y ≤ 4294967296)
    (hc : w.cell? ⟨b, 0, none⟩ = some (.int .i64 x)) (hd : w.cell? ⟨b, 1, none⟩ = some (.int .i64 y)) :
    Calls Tryz.prog 48 #[.slice (some ⟨b, 0, none⟩) 2 2] w fun e w' => e = .returned (clampV (x + y)) ∧ w' = w := by
  go_enter Tryz.func48, Tryz.ntmps48
  go_wp2
  go_loop [4, 5, 8] (fun n j i => ∃ k : Nat, k ≤ 2 ∧ i = .int .i64 k ∧ n = .int .i64 (if k = 0 then 0 else if k = 1 then x else x + y)) (fun _ _ i => 2 - (intOf i).toNat)
  case atStart => exact ⟨0, Nat.zero_le _, rfl, rfl⟩
  case round =>
    obtain ⟨k, hk, rfl, rfl⟩ := hrel
    by_cases hlt : k < 2
    · by_cases h0 : k = 0
      · subst h0
        go_wp2
        go_round
        case rel => exact ⟨1, by omega, rfl, rfl⟩
        case measure => simp [intOf]
      · obtain rfl : k = 1 := by omega
        go_wp2
        go_round
        case rel => exact ⟨2, by omega, rfl, rfl⟩
        case measure => simp [intOf]
    · obtain rfl : k = 2 := by omega
      by_cases c1 : 2147483647 < x + y
      · have HV := hid (clampV_hi (x + y) c1)
        go_wp2
        go_ret2
        exact ⟨by rw [HV.out]; rfl, rfl⟩
      · by_cases c2 : x + y < -2147483648
        · have HV := hid (clampV_lo (x + y) c2)
          go_wp2
          go_ret2
          exact ⟨by rw [HV.out]; rfl, rfl⟩
        · have HV := hid (clampV_in (x + y) c1 c2)
          go_wp2
          go_ret2
          exact ⟨by rw [HV.out]; rfl, rfl⟩

theorem clampV_def (n : Int) : clampV n = .tuple #[.int .i32 (clampS n), .bool (clampB n)] := rfl

theorem clamp_any (x : Int) (w : World) (h1 : -9223372036854775808 ≤ x) (h2 : x ≤ 9223372036854775807) :
    Calls Tryz.prog 21 #[.int .i64 x] w fun e w' => e = .returned (clampV x) ∧ Below w.heap.size w w' := by
  go_enter Tryz.func21, Tryz.ntmps21
  go_wp2_with (go_at_call 48; refine (cut1_any x _ _ h1 h2 (by simp)).mono ?_; rintro e w' ⟨rfl, rfl⟩; rw [clampV_def])
  go_ret2
  exact ⟨rfl, (Below.refl _ _).alloc (Nat.le_refl _) _⟩

theorem add_any (a b : Int) (w : World) (h1 : -2147483648 ≤ a) (h2 : a ≤ 2147483647) (h3 : -2147483648 ≤ b) (h4 : b ≤ 2147483647) :
    Calls Tryz.prog 100 #[.int .i32 a, .int .i32 b] w fun e w' => e = .returned (clampV (a + b)) ∧ Below w.heap.size w w' := by
  go_enter Tryz.func100, Tryz.ntmps100
  go_wp2_with (go_at_call 48; refine (cut2_any a b _ _ (by omega) (by omega) (by omega) (by omega) (by simp) (by simp)).mono ?_; rintro e w' ⟨rfl, rfl⟩; rw [clampV_def])
  go_ret2
  exact ⟨rfl, (Below.refl _ _).alloc (Nat.le_refl _) _⟩

theorem sub_any (a b : Int) (w : World) (h1 : -2147483648 ≤ a) (h2 : a ≤ 2147483647) (h3 : -2147483648 ≤ b) (h4 : b ≤ 2147483647) :
    Calls Tryz.prog 98 #[.int .i32 a, .int .i32 b] w fun e w' => e = .returned (clampV (a - b)) ∧ Below w.heap.size w w' := by
  have hs : a + -b = a - b := by omega
  go_enter Tryz.func98, Tryz.ntmps98
  go_wp2_with (go_at_call 48; refine (cut2_any a (-b) _ _ (by omega) (by omega) (by omega) (by omega) (by simp) (by simp)).mono ?_; rintro e w' ⟨rfl, rfl⟩; rw [clampV_def])
  go_ret2
  exact ⟨by rw [← hs]; rfl, (Below.refl _ _).alloc (Nat.le_refl _) _⟩

theorem over_bd (n d : Int) (h1 : -9223372036854775808 ≤ n) (h2 : n ≤ 9223372036854775807) : -9223372036854775808 ≤ overS n d ∧ overS n d ≤ 9223372036854775807 := by
  unfold overS
  split
  · omega
  · have := qn_le n.natAbs d.natAbs (by omega) (by omega)
    split
    · omega
    · split <;> omega

def bnd (n hi : Int) : Nat := (max 0 (min n hi)).toNat
theorem bnd_cast (n hi : Int) : ((bnd n hi : Nat) : Int) = max 0 (min n hi) := by unfold bnd; omega
theorem bnd62 (n : Int) : bnd n 62 ≤ 62 := by unfold bnd; omega
theorem bnd30 (n : Int) : bnd n 30 ≤ 30 := by unfold bnd; omega
theorem bnd_bnd (n : Int) : bnd (bnd n 30) 62 = bnd n 30 := by unfold bnd; omega
def roundS (n frac : Int) : Int := overS n (pow2 (bnd frac 62))

theorem round_any (n f : Int) (w : World) (h1 : -9223372036854775808 ≤ n) (h2 : n ≤ 9223372036854775807) :
    Calls Tryz.prog 22 #[.int .i64 n, .int .i64 f] w fun e w' => e = .returned (.int .i64 (roundS n f)) ∧ ∃ k, w' = w.drewN k := by
  have hb := bnd62 f
  have hp := pow2_le _ hb
  have hq := pow2_pos (bnd f 62)
  have hbc := hid (bnd_cast f 62)
  go_enter Tryz.func22, Tryz.ntmps22
  go_wp2_with fail
  refine (within_any _ _ _ (by omega)).mono ?_
  rintro e w' ⟨rfl, rfl⟩
  rw [← hbc.out]
  go_wp2_with fail
  refine (power_any _ hb _).mono ?_
  rintro e w' ⟨rfl, rfl⟩
  go_wp2_with fail
  refine (over_any _ _ _ h1 h2 (by omega) (by omega)).mono ?_
  rintro e w' ⟨rfl, k, rfl⟩
  go_wp2_with fail
  go_ret
  exact ⟨rfl, k, rfl⟩

theorem mul_bd (a b : Int) (h1 : -2147483648 ≤ a) (h2 : a ≤ 2147483647) (h3 : -2147483648 ≤ b) (h4 : b ≤ 2147483647) : -4611686018427387904 ≤ a * b ∧ a * b ≤ 4611686018427387904 := by
  have ha : a.natAbs ≤ 2147483648 := by omega
  have hb : b.natAbs ≤ 2147483648 := by omega
  have hm : (a * b).natAbs ≤ 2147483648 * 2147483648 := by rw [Int.natAbs_mul]; exact Nat.mul_le_mul ha hb
  omega

theorem mul_any (a b f : Int) (w : World) (h1 : -2147483648 ≤ a) (h2 : a ≤ 2147483647) (h3 : -2147483648 ≤ b) (h4 : b ≤ 2147483647) :
    Calls Tryz.prog 99 #[.int .i32 a, .int .i32 b, .int .i64 f] w fun e w' => e = .returned (clampV (roundS (a * b) (bnd f 30))) ∧ Below w.heap.size w w' := by
  have hbc := hid (bnd_cast f 30)
  obtain ⟨m1, m2⟩ := mul_bd a b h1 h2 h3 h4
  have hr : _ ≤ roundS (a * b) (bnd f 30) ∧ roundS (a * b) (bnd f 30) ≤ _ := over_bd (a * b) (pow2 (bnd (bnd f 30) 62)) (by omega) (by omega)
  have hr2 := hid hr
  clear hr
  go_enter Tryz.func99, Tryz.ntmps99
  go_wp2_with fail
  refine (within_any _ _ _ (by omega)).mono ?_
  rintro e w' ⟨rfl, rfl⟩
  rw [← hbc.out]
  go_wp2_with fail
  refine (round_any _ _ _ (by omega) (by omega)).mono ?_
  rintro e w' ⟨rfl, k, rfl⟩
  go_wp2_with fail
  refine (cut1_any (roundS (a * b) (bnd f 30)) _ _ hr2.out.1 hr2.out.2 (cell_new _ _ rfl _ _)).mono ?_
  rintro e w' ⟨rfl, rfl⟩
  rw [clampV_def]
  go_wp2_with fail
  go_ret2
  exact ⟨rfl, balloc (bdrewN (Below.refl _ _) _) (Nat.le_refl _) _⟩

def beyondS (a : Int) : Int := if 0 < a then 2147483647 else if a < 0 then -2147483648 else 0
def divV (a b f : Int) : Value := if b = 0 then .tuple #[.int .i32 (beyondS a), .bool true] else clampV (overS (a * pow2 (bnd f 30)) b)

end Go.Proofs.YtpdpcdifnlellaaGreat
