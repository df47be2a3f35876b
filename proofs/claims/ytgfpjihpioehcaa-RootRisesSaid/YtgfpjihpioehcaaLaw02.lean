/- The laws of layer 2, walked: each returns true. -/
import Derived.Test.YtgfpjihpioehcaaRoot
import Derived.Test.YtgfpjihpioehcaaSlices
namespace Go.Proofs.Ytgfpjihpioehcaa
open Go.ChangeShapes Go.WideShapes Go.ChangeAt Go.RowKit
set_option linter.unusedVariables false

theorem knows02_any (w : World) :
    Calls Try.prog 7 #[] w fun e w' => e = .returned (.bool true) ∧ Below w.heap.size w w' := by
  have e1 : Go.RowKit.Hid (sqrtS 99 = 9) := hid (by decide +kernel)
  have e2 : Go.RowKit.Hid (nearS 99 = 10) := hid (by decide +kernel)
  have e3 : Go.RowKit.Hid (nearS 90 = 9) := hid (by decide +kernel)
  have e4 : Go.RowKit.Hid (lengthS [3, 4] = 5) := hid (by decide +kernel)
  go_enter Try.func7, Try.ntmps7
  go_wp2_with fail
  refine (sqrt_nat 99 _ (by decide)).mono ?_
  rintro e w1 ⟨rfl, rfl⟩
  rw [e1.out]
  go_wp2_with fail
  refine (near_any 99 _ (by decide)).mono ?_
  rintro e w1 ⟨rfl, rfl⟩
  rw [e2.out]
  go_wp2_with fail
  refine (near_any 90 _ (by decide)).mono ?_
  rintro e w1 ⟨rfl, rfl⟩
  rw [e3.out]
  go_wp2_with fail
  refine (length_any _ _ [3, 4] _ (by decide) ?_ (by decide)).mono ?_
  · intro i hi
    have hi2 : i = 0 ∨ i = 1 := by simp at hi; omega
    rcases hi2 with rfl | rfl
    · exact ⟨_, _, rfl, (cell_new2 _ _ rfl _ _ _).1⟩
    · exact ⟨_, _, rfl, (cell_new2 _ _ rfl _ _ _).2⟩
  rintro e w1 ⟨rfl, rfl⟩
  rw [e4.out]
  go_wp2_with fail
  go_ret
  exact ⟨rfl, (Below.refl _ _).alloc (Nat.le_refl _) _⟩

theorem law_RootFloor (a0 : Int) (w0 : (Lit.int .u64 a0).wf = true) (w : World) :
    Calls Try.prog 4 #[.int .u64 a0] w fun e w' => e = .returned (.bool true) ∧ Below w.heap.size w w' := by
  obtain ⟨b1, b2⟩ := bounds_u64 w0
  obtain ⟨n, rfl⟩ := Int.eq_ofNat_of_zero_le b1
  have hl := sqrtS_lt n (by omega)
  obtain ⟨hs1, hs2⟩ := sqrtS_spec n (by omega)
  have hs3 : n - sqrtS n * sqrtS n ≤ 2 * sqrtS n := by
    have : (sqrtS n + 1) * (sqrtS n + 1) = sqrtS n * sqrtS n + 2 * sqrtS n + 1 := by simp only [Nat.add_mul, Nat.mul_add]; omega
    omega
  clear hs2
  go_enter Try.func4, Try.ntmps4
  go_wp2_with fail
  refine (sqrt_nat n _ (by omega)).mono ?_
  rintro e w1 ⟨rfl, rfl⟩
  generalize sqrtS n = s at *
  have ht : (s : Int) * (s : Int) = ((s * s : Nat) : Int) := by simp
  generalize s * s = t at *
  have hs4 : (n : Int) - (t : Int) ≤ 2 * (s : Int) := by omega
  go_wp2_with fail
  refine (knows02_any _).mono ?_
  rintro e w2 ⟨rfl, hb⟩
  go_wp2_with fail
  go_ret
  exact ⟨rfl, hb⟩

theorem nearS_spec (n : Nat) (h : n ≤ 4611686018427387904) (h0 : 0 < n) : nearS n ≤ 2147483648 ∧ n ≤ nearS n * nearS n + nearS n ∧ nearS n * nearS n < n + nearS n := by
  obtain ⟨hs1, hs2⟩ := sqrtS_spec n (by omega)
  have e : (sqrtS n + 1) * (sqrtS n + 1) = sqrtS n * sqrtS n + 2 * sqrtS n + 1 := by simp only [Nat.add_mul, Nat.mul_add]; omega
  have hl : sqrtS n < 2147483649 := sq_lt (by omega)
  unfold nearS
  generalize sqrtS n = s at *
  split
  · have hs : s ≤ 2147483647 := by
      have : s ≠ 2147483648 := by intro hh; subst hh; omega
      omega
    rw [e] at hs2 ⊢
    omega
  · have : s ≠ 0 := by intro hh; subst hh; omega
    omega

theorem law_RootNear (a0 : Int) (w0 : (Lit.int .u64 a0).wf = true) (w : World) :
    Calls Try.prog 5 #[.int .u64 a0] w fun e w' => e = .returned (.bool true) ∧ Below w.heap.size w w' := by
  obtain ⟨b1, b2⟩ := bounds_u64 w0
  obtain ⟨n, rfl⟩ := Int.eq_ofNat_of_zero_le b1
  by_cases c : (4611686018427387904 : Int) < n
  · go_enter Try.func5, Try.ntmps5
    go_wp2_with fail
    refine (knows02_any _).mono ?_
    rintro e w1 ⟨rfl, hb⟩
    go_wp2_with fail
    go_ret
    exact ⟨rfl, hb⟩
  · by_cases c0 : n = 0
    · subst c0
      have h0 : Go.RowKit.Hid (nearS 0 = 0) := hid (by decide +kernel)
      go_enter Try.func5, Try.ntmps5
      go_wp2_with fail
      refine (knows02_any _).mono ?_
      rintro e w1 ⟨rfl, hb⟩
      go_wp2_with fail
      refine (near_any 0 _ (by omega)).mono ?_
      rintro e w2 ⟨rfl, rfl⟩
      rw [h0.out]
      go_wp2_with fail
      go_ret
      exact ⟨rfl, hb⟩
    · obtain ⟨n1, n2, n3⟩ := nearS_spec n (by omega) (by omega)
      have hz : ((n : Int) == 0) = false := by simp; omega
      go_enter Try.func5, Try.ntmps5
      go_wp2_with fail
      refine (knows02_any _).mono ?_
      rintro e w1 ⟨rfl, hb⟩
      go_wp2_with fail
      refine (near_any n _ (by omega)).mono ?_
      rintro e w2 ⟨rfl, rfl⟩
      generalize nearS n = s at *
      have ht : (s : Int) * (s : Int) = ((s * s : Nat) : Int) := by simp
      have hm : s * s ≤ 2147483648 * 2147483648 := Nat.mul_le_mul n1 n1
      generalize s * s = t at *
      have hs4 : (n : Int) ≤ (t : Int) + (s : Int) := by omega
      have hs5 : (t : Int) < (n : Int) + (s : Int) := by omega
      go_wp2_with fail
      go_ret
      exact ⟨rfl, hb⟩

set_option maxHeartbeats 1000000 in
theorem law_RootTells (a0 : Int) (a1 : Option Addr) (len1 cap1 : Nat) (z1 : List Int) (w : World) (w0 : (Lit.int .u64 a0).wf = true) (w1 : IsRow .i32 w a1 len1 cap1 z1) :
    Calls Try.prog 3 #[.int .u64 a0, .slice a1 len1 cap1] w fun e w' => e = .returned (.bool true) ∧ Below w.heap.size w w' := by
  obtain ⟨b1, b2⟩ := bounds_u64 w0
  obtain ⟨n, rfl⟩ := Int.eq_ofNat_of_zero_le b1
  obtain ⟨hlen, hmax, hr, hz⟩ := w1.rd
  clear w1
  generalize z1.take len1 = zs at *
  subst hlen
  unfold maxLen at hmax
  by_cases c : (100 : Int) < zs.length
  · go_enter Try.func3, Try.ntmps3
    go_wp2_with fail
    refine (knows02_any _).mono ?_
    rintro e w1 ⟨rfl, hb⟩
    go_wp2_with fail
    go_ret
    exact ⟨rfl, hb⟩
  · go_enter Try.func3, Try.ntmps3
    go_wp2_with fail
    refine (knows02_any _).mono ?_
    rintro e w1 ⟨rfl, hb⟩
    have hr1 := hr.below hb
    go_wp2_with fail
    refine (sqrt_nat n _ (by omega)).mono ?_
    rintro e w2 ⟨rfl, rfl⟩
    go_wp2_with fail
    refine (rsqrt_nat n _ (by omega)).mono ?_
    rintro e w2 ⟨rfl, rfl⟩
    go_wp2_with fail
    refine (near_any n _ (by omega)).mono ?_
    rintro e w2 ⟨rfl, rfl⟩
    go_wp2_with fail
    refine (rnear_any n _ (by omega)).mono ?_
    rintro e w2 ⟨rfl, rfl⟩
    go_wp2_with fail
    refine (squares_any _ _ zs _ (by omega) hr1 hz).mono ?_
    rintro e w2 ⟨rfl, rfl⟩
    go_wp2_with fail
    refine (rsquares_any _ _ zs _ (by omega) hr1 hz).mono ?_
    rintro e w2 ⟨rfl, k, rfl⟩
    go_wp2_with fail
    refine (length_any _ _ zs _ (by omega) (hr1.drewN k) hz).mono ?_
    rintro e w2 ⟨rfl, rfl⟩
    go_wp2_with fail
    refine (rlength_any _ _ zs _ (by omega) (hr1.drewN k) hz).mono ?_
    rintro e w2 ⟨rfl, k2, rfl⟩
    go_wp2_with fail
    go_ret
    exact ⟨rfl, bdrewN hb _⟩

theorem ints32 : IntsOf Try.prog 23 21 .i32 4 := ⟨Try.underlying23, by kernel_rfl⟩

theorem length_more (zs : List Int) (x : Int) : lengthS zs ≤ lengthS (zs ++ [x]) := by
  have h1 := sqs_more zs x 0 (by omega)
  have h2 := sqs_le (zs ++ [x]) 0 (by omega)
  exact sqrtS_mono _ _ h1 (by omega)

set_option maxHeartbeats 2000000 in
theorem law_RootRises (a0 : Int) (a1 : Int) (a2 : Option Addr) (len2 cap2 : Nat) (z2 : List Int) (a3 : Int) (w : World) (w0 : (Lit.int .u64 a0).wf = true) (w1 : (Lit.int .u64 a1).wf = true) (w2 : IsRow .i32 w a2 len2 cap2 z2) (w3 : (Lit.int .i32 a3).wf = true) :
    Calls Try.prog 6 #[.int .u64 a0, .int .u64 a1, .slice a2 len2 cap2, .int .i32 a3] w fun e w' => e = .returned (.bool true) ∧ Below w.heap.size w w' := by
  obtain ⟨b1, b2⟩ := bounds_u64 w0
  obtain ⟨b3, b4⟩ := bounds_u64 w1
  obtain ⟨n, rfl⟩ := Int.eq_ofNat_of_zero_le b1
  obtain ⟨m, rfl⟩ := Int.eq_ofNat_of_zero_le b3
  obtain ⟨hlen, hmax, hr, hz⟩ := w2.rd
  have hnil := w2.capNil
  clear w2
  generalize z2.take len2 = zs at *
  subst hlen
  unfold maxLen at hmax
  by_cases c : (100 : Int) < zs.length
  · go_enter Try.func6, Try.ntmps6
    go_wp2_with fail
    refine (knows02_any _).mono ?_
    rintro e w1 ⟨rfl, hb⟩
    go_wp2_with fail
    go_ret
    exact ⟨rfl, hb⟩
  · have hmor := length_more zs a3
    have HZ : Go.RowKit.Hid (∀ n ∈ zs ++ [a3], (Lit.int .i32 n).wf = true) := hid (by intro n hn; rcases List.mem_append.1 hn with h | h; exact hz n h; rw [List.mem_singleton.1 h]; exact w3)
    rcases Nat.lt_trichotomy n m with cn | rfl | cn
    all_goals
      go_enter Try.func6, Try.ntmps6
      go_wp2_with fail
      refine (knows02_any _).mono ?_
      rintro e w1 ⟨rfl, hb⟩
      have hr1 := hr.below hb
      go_wp2_with fail
      refine (sqrt_nat _ _ (by omega)).mono ?_
      rintro e w2 ⟨rfl, rfl⟩
      go_wp2_with fail
      refine (sqrt_nat _ _ (by omega)).mono ?_
      rintro e w2 ⟨rfl, rfl⟩
      first
        | (have hmo := sqrtS_mono n m (by omega) (by omega))
        | (have hmo := sqrtS_mono m n (by omega) (by omega))
        | (have hmo := Nat.le_refl (sqrtS n))
      go_wp2_with fail
      refine (length_any _ _ zs _ (by omega) hr1 hz).mono ?_
      rintro e w2 ⟨rfl, rfl⟩
      have ho := Own.lit .i32 21 w2 [] w2.heap.size (Nat.le_refl _) (by simp) #[] rfl
      have hr2 := hr1.below ((Below.refl _ _).alloc (Nat.le_refl _) (.cells #[] 21))
      go_wp2_with (first
        | (at_builtin; refine wpList_app _ rfl (.tmp 29) (.tmp 30) 23 rfl _ 21 .i32 4 ints32 _ [] rfl ho a2 cap2 zs rfl hr2 hnil (by simp; omega) (by decide) (by simp) ?_))
      intro v1 W1 own1 hg1
      have bel1 := ho.grew hg1 ((Below.refl w2.heap.size w2).alloc (Nat.le_refl _) _) (Nat.le_refl _) (by simp)
      clear ho hr2 hg1
      have hsz := bel1.size
      have own2 := own1.alloc (.cells #[.int .i32 a3] 21)
      have hr3 : Rd .i32 (W1.alloc (.cells #[.int .i32 a3] 21)) (some ⟨W1.heap.size, 0, none⟩) [a3] := by
        intro i hi
        obtain rfl : i = 0 := by simp at hi; omega
        exact ⟨_, _, rfl, cell_new _ _ rfl _ _⟩
      go_wp2_with (first
        | (at_builtin; refine wpList_app _ rfl (.tmp 31) (.tmp 33) 23 rfl _ 21 .i32 4 ints32 v1 zs rfl own2 (some ⟨W1.heap.size, 0, none⟩) 1 [a3] rfl hr3 (by intro h; cases h) (by simp; omega) (by decide) (by simp; omega) ?_))
      intro v2 W2 own3 hg2
      have bel2 := own2.grew hg2 (bel1.alloc hsz _) (Nat.le_refl _) (by simp; omega)
      obtain ⟨a4, cap4, hv2, hr4, -, -⟩ := own3.rd
      clear own2 hr3 hg2 own1 own3
      have hl4 : (zs ++ [a3]).length ≤ 1000 := by simp; omega
      generalize zs ++ [a3] = ys at *
      rw [hv2]
      clear hv2
      go_wp2_with fail
      refine (length_any _ _ ys _ hl4 hr4 HZ.out).mono ?_
      rintro e w5 ⟨rfl, rfl⟩
      go_wp2_with fail
      go_ret
      exact ⟨rfl, bthen hb bel2⟩

end Go.Proofs.Ytgfpjihpioehcaa
