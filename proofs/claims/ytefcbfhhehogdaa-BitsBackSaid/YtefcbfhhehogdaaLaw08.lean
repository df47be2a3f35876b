/- The laws BitsGets, BitsSplits, BitsBack, walked: they return true. -/
import Derived.Test.YtefcbfhhehogdaaBits8
namespace Go.Proofs.Ytefcbfhhehogdaa
open Go.ChangeShapes Go.WideShapes Go.ChangeAt Go.RowKit
set_option linter.unusedVariables false

theorem sl_lit (k : IntKind) (E : TypeId) (w : World) (zs : List Int) (hm : zs.length ≤ maxLen) (cs : Array Value) (hcs : cs = (zs.map (Value.int k)).toArray) (n : Nat) (hn : zs.length = n) : Sl k (w.alloc (.cells cs E)) (some ⟨w.heap.size, 0, none⟩) n n zs := by
  subst hn
  obtain ⟨a, cap, hv, hs⟩ := (Own.lit k E w zs w.heap.size (Nat.le_refl _) hm cs hcs).sl
  cases hv
  exact hs

set_option maxRecDepth 100000 in
set_option maxHeartbeats 1000000 in
theorem knows08_any (w : World) :
    Calls Try.prog 14 #[] w fun e w' => e = .returned (.bool true) ∧ Below w.heap.size w w' := by
  have h1 := sl_lit .i64 3 w [1, 30, 1] (by decide) #[.int .i64 1, .int .i64 30, .int .i64 1] rfl 3 rfl
  have hb1 : Below w.heap.size w (w.alloc (.cells #[.int .i64 1, .int .i64 30, .int .i64 1] 3)) := (Below.refl _ _).alloc (Nat.le_refl _) _
  go_enter Try.func14, Try.ntmps14
  go_wp2_with fail
  refine (split_any 2147483649 _ 3 3 [1, 30, 1] _ (by decide) h1 (by decide) (by decide)).mono ?_
  rintro e w2 ⟨a, len, cap, rfl, hsl, hb2⟩
  have hS : splitL 2147483649 [1, 30, 1] = [1, 0, 1] := by decide +kernel
  have hR : rightB [1, 30, 1] = true := by decide +kernel
  rw [hS] at hsl
  rw [hR]
  obtain rfl : len = 3 := hsl.1.symm
  replace hb2 := bthen hb1 hb2
  clear hb1 h1 hS hR
  go_wp2_with fail
  refine (get_any 240 4 4 _ (by decide) (by decide) (by decide) (by decide) (by decide)).mono ?_
  rintro e w3 ⟨rfl, m, rfl⟩
  have hG : getS 240 4 4 = 15 := by decide +kernel
  rw [hG]
  clear hG
  have hl3 := hsl.drewN m
  replace hb2 := bdrewN hb2 m
  clear hsl
  generalize w2.drewN m = w3 at *
  have h2 := sl_lit .u32 22 w3 [1, 0, 1] (by decide) #[.int .u32 1, .int .u32 0, .int .u32 1] rfl 3 rfl
  have hl4 := hl3.below ((Below.refl _ w3).alloc (Nat.le_refl _) (.cells #[.int .u32 1, .int .u32 0, .int .u32 1] 22))
  replace hb2 := hb2.alloc hb2.size (.cells #[.int .u32 1, .int .u32 0, .int .u32 1] 22)
  go_wp2_with fail
  refine (same_any _ _ 3 3 cap 3 [1, 0, 1] [1, 0, 1] _ hl4 h2 (by decide) (by decide)).mono ?_
  rintro e w4 ⟨rfl, m2, rfl⟩
  rw [show sameP [1, 0, 1] [1, 0, 1] = true from by decide +kernel]
  go_wp2_with fail
  refine (fits_any (-1) 1 _ (by decide) (by decide) (by decide) (by decide)).mono ?_
  rintro e w5 ⟨rfl, rfl⟩
  rw [show fitB (-1) 1 = true from by decide +kernel]
  go_wp2_with fail
  refine (signed_any 1 1 _ (by decide) (by decide) (by decide)).mono ?_
  rintro e w5 ⟨rfl, rfl⟩
  rw [show sgnS 1 1 = -1 from by decide +kernel]
  go_wp2_with fail
  go_ret
  exact ⟨rfl, bdrewN hb2 _⟩

theorem split_len (x : Nat) (zs : List Int) : (splitL x zs).length ≤ zs.length := by
  unfold splitL; split
  · rw [parts_len]; exact Nat.le_refl _
  · exact Nat.zero_le _

set_option maxRecDepth 100000 in
set_option maxHeartbeats 1000000 in
theorem law_BitsGets (a0 : Int) (a1 : Int) (a2 : Int) (a3 : Int) (a4 : Int) (w0 : (Lit.int .u32 a0).wf = true) (w1 : (Lit.int .i64 a1).wf = true) (w2 : (Lit.int .i64 a2).wf = true) (w3 : (Lit.int .u32 a3).wf = true) (w4 : (Lit.int .i32 a4).wf = true) (w : World) :
    Calls Try.prog 3 #[.int .u32 a0, .int .i64 a1, .int .i64 a2, .int .u32 a3, .int .i32 a4] w fun e w' => e = .returned (.bool true) ∧ Below w.heap.size w w' := by
  obtain ⟨b1, b2⟩ := bounds_u32 w0
  obtain ⟨x, rfl⟩ := Int.eq_ofNat_of_zero_le b1
  obtain ⟨b3, b4⟩ := bounds_i64 w1
  obtain ⟨b5, b6⟩ := bounds_i64 w2
  obtain ⟨b7, b8⟩ := bounds_u32 w3
  obtain ⟨v, rfl⟩ := Int.eq_ofNat_of_zero_le b7
  obtain ⟨b9, b10⟩ := bounds_i32 w4
  clear w0 w1 w2 w3 w4
  go_enter Try.func3, Try.ntmps3
  go_wp2_with fail
  refine (put_any x a1 a2 v _ (by omega) (by omega) b5 b6 b3 b4).mono ?_
  rintro e w2 ⟨rfl, m1, rfl⟩
  go_wp2_with fail
  refine (rput_any x a1 a2 v _ (by omega) (by omega) b5 b6 b3 b4).mono ?_
  rintro e w2 ⟨rfl, m2, rfl⟩
  generalize putV x a1 a2 v = pv at *
  generalize putOk a1 a2 v = po at *
  go_wp2_with fail
  refine (get_any x a1 a2 _ (by omega) b5 b6 b3 b4).mono ?_
  rintro e w2 ⟨rfl, m3, rfl⟩
  go_wp2_with fail
  refine (rget_any x a1 a2 _ (by omega) b5 b6 b3 b4).mono ?_
  rintro e w2 ⟨rfl, m4, rfl⟩
  generalize getS x a1 a2 = g at *
  have hb := bdrewN (Below.refl w.heap.size w) (m1 + m2 + m3 + m4)
  go_wp2_with fail
  refine (signed_any x a2 _ (by omega) b5 b6).mono ?_
  rintro e w2 ⟨rfl, rfl⟩
  go_wp2_with fail
  refine (rsigned_any x a2 _ (by omega) b5 b6).mono ?_
  rintro e w2 ⟨rfl, rfl⟩
  generalize sgnS x a2 = g at *
  go_wp2_with fail
  refine (fits_any a4 a2 _ b9 b10 b5 b6).mono ?_
  rintro e w2 ⟨rfl, rfl⟩
  go_wp2_with fail
  refine (rfits_any a4 a2 _ b9 b10 b5 b6).mono ?_
  rintro e w2 ⟨rfl, rfl⟩
  generalize fitB a4 a2 = fb at *
  go_wp2_with fail
  refine (knows08_any _).mono ?_
  rintro e w3 ⟨rfl, hb3⟩
  go_wp2_with fail
  go_ret
  exact ⟨rfl, bthen hb hb3⟩

set_option maxRecDepth 100000 in
set_option maxHeartbeats 1000000 in
theorem law_BitsSplits (a0 : Int) (a1 : Option Addr) (len1 cap1 : Nat) (z1 : List Int) (a2 : Option Addr) (len2 cap2 : Nat) (z2 : List Int) (w : World) (w0 : (Lit.int .u32 a0).wf = true) (w1 : IsRow .i64 w a1 len1 cap1 z1) (w2 : IsRow .u32 w a2 len2 cap2 z2) :
    Calls Try.prog 4 #[.int .u32 a0, .slice a1 len1 cap1, .slice a2 len2 cap2] w fun e w' => e = .returned (.bool true) ∧ Below w.heap.size w w' := by
  obtain ⟨b1, b2⟩ := bounds_u32 w0
  obtain ⟨x, rfl⟩ := Int.eq_ofNat_of_zero_le b1
  obtain ⟨hsl1, hz1⟩ := w1.sl
  obtain ⟨hsl2, hz2⟩ := w2.sl
  clear w0 w1 w2
  generalize z1.take len1 = zs at *
  generalize z2.take len2 = ys at *
  have hzl0 := hid hsl1.1
  by_cases c1 : (40 : Int) < len1
  · go_enter Try.func4, Try.ntmps4
    go_wp2_with fail
    refine (knows08_any _).mono ?_
    rintro e w3 ⟨rfl, hb3⟩
    go_wp2_with fail
    go_ret
    exact ⟨rfl, hb3⟩
  by_cases c2 : (40 : Int) < len2
  · go_enter Try.func4, Try.ntmps4
    go_wp2_with fail
    refine (knows08_any _).mono ?_
    rintro e w3 ⟨rfl, hb3⟩
    go_wp2_with fail
    go_ret
    exact ⟨rfl, hb3⟩
  go_enter Try.func4, Try.ntmps4
  go_wp2_with fail
  refine (knows08_any _).mono ?_
  rintro e w2 ⟨rfl, hb2⟩
  have s1 := hsl1.below hb2
  have s2 := hsl2.below hb2
  clear hsl1 hsl2
  go_wp2_with fail
  refine (split_any x _ _ _ zs _ (by omega) s1 hz1 (by omega)).mono ?_
  rintro e w3 ⟨a, la, ca, rfl, sa, hb3⟩
  replace s1 := s1.below hb3
  replace s2 := s2.below hb3
  replace hb3 := bthen hb2 hb3
  clear hb2
  go_wp2_with fail
  refine (rsplit_any x _ _ _ zs _ (by omega) s1 hz1 (by omega)).mono ?_
  rintro e w4 ⟨b, lb, cb, rfl, sb, hb4⟩
  replace s1 := s1.below hb4
  replace s2 := s2.below hb4
  replace sa := sa.below hb4
  replace hb4 := bthen hb3 hb4
  clear hb3
  generalize rightB zs = rb at *
  go_wp2_with fail
  refine (join_any _ _ _ _ _ _ zs ys _ s1 hz1 (by omega) s2 hz2 (by omega)).mono ?_
  rintro e w5 ⟨rfl, hb5⟩
  replace s1 := s1.below hb5
  replace s2 := s2.below hb5
  replace sa := sa.below hb5
  replace sb := sb.below hb5
  replace hb5 := bthen hb4 hb5
  clear hb4
  go_wp2_with fail
  refine (rjoin_any _ _ _ _ _ _ zs ys _ s1 hz1 (by omega) s2 hz2 (by omega)).mono ?_
  rintro e w6 ⟨rfl, hb6⟩
  replace sa := sa.below hb6
  replace sb := sb.below hb6
  replace hb6 := bthen hb5 hb6
  clear hb5 s1 s2
  generalize joinV zs ys = jv at *
  generalize joinOk zs ys = jo at *
  have hll := split_len x zs
  have hzl := hzl0.out
  have hla := sa.1
  have hlb := sb.1
  go_wp2_with fail
  refine (same_any _ _ _ _ _ _ _ _ _ sa sb (by omega) (by omega)).mono ?_
  rintro e w7 ⟨rfl, m, rfl⟩
  rw [show sameP (splitL x zs) (splitL x zs) = true from decide_eq_true rfl]
  go_wp2_with fail
  go_ret
  exact ⟨rfl, bdrewN hb6 _⟩

theorem getS_lt (x : Nat) (a n : Int) : getS x a n < 2 ^ n.toNat := by
  unfold getS; split
  · exact Nat.mod_lt _ (Nat.two_pow_pos _)
  · exact Nat.two_pow_pos _
theorem parts_get (x : Nat) (zs : List Int) (k i : Nat) (h : i < k) : (parts x zs k).getD i 0 = partAt x zs i := by simp [parts, h]
theorem getS_yes (x : Nat) (a n : Nat) (h1 : 1 ≤ n) (h2 : a + n ≤ 32) : getS x a n = x / 2 ^ a % 2 ^ n := by
  unfold getS; rw [if_pos]; · rfl
  unfold plP; simp; omega
theorem joinR_parts (x : Nat) (hx : x < 4294967296) (zs : List Int) (hr : rightP zs) : ∀ k, k ≤ zs.length → joinR zs (parts x zs zs.length) k = x / 2 ^ (leftAt zs k).toNat
  | 0, _ => by
    rw [show leftAt zs 0 = 32 from rfl]
    exact (Nat.div_eq_of_lt (by have : (2 : Nat) ^ (32 : Int).toNat = 4294967296 := by decide
                                omega)).symm
  | k + 1, hk => by
    have ih := joinR_parts x hx zs hr k (by omega)
    have hb := left_bd zs hr k (by omega)
    obtain ⟨a, ha⟩ := Int.eq_ofNat_of_zero_le hb.1
    obtain ⟨n, hn⟩ := Int.eq_ofNat_of_zero_le (show 0 ≤ zs.getD k 0 by omega)
    have hL : leftAt zs k = ((a + n : Nat) : Int) := by omega
    simp only [joinR]
    rw [ih, parts_get x zs _ k (by omega)]
    unfold partAt
    rw [hn, ha, hL]
    simp only [Int.toNat_natCast]
    rw [getS_yes x a n (by omega) (by omega), Nat.pow_add, ← Nat.div_div_eq_div_mul]
    exact Nat.div_add_mod' _ _
theorem join_split (x : Nat) (hx : x < 4294967296) (zs : List Int) (hr : rightP zs) : joinP zs (splitL x zs) ∧ joinV zs (splitL x zs) = x := by
  have hs : splitL x zs = parts x zs zs.length := by unfold splitL; exact if_pos (decide_eq_true hr)
  have hj : joinP zs (splitL x zs) := by
    rw [hs]
    refine ⟨hr, parts_len x zs _, fun i hi => ?_⟩
    rw [parts_get x zs _ i hi]
    unfold partAt
    exact getS_lt _ _ _
  refine ⟨hj, ?_⟩
  rw [(join_yes hj).1, hs, joinR_parts x hx zs hr _ (Nat.le_refl _), show leftAt zs zs.length = 0 from by unfold leftAt; rw [List.take_length, hr.2]; rfl]
  exact Nat.div_one x
theorem u32_wf (n : Nat) (h : n < 4294967296) : (Lit.int .u32 (n : Int)).wf = true := by
  have h3 : IntKind.u32.min = 0 := rfl
  have h4 : IntKind.u32.max = 4294967295 := rfl
  simp [Lit.wf, h3, h4]; omega
theorem split_wf (x : Nat) (hx : x < 4294967296) (zs : List Int) : ∀ n ∈ splitL x zs, (Lit.int .u32 n).wf = true := by
  intro n hn
  unfold splitL at hn
  split at hn
  · obtain ⟨i, _, rfl⟩ := List.mem_map.1 hn
    unfold partAt
    have : getS x (leftAt zs (i + 1)) (zs.getD i 0) ≤ x := by
      unfold getS; split
      · exact Nat.le_trans (Nat.mod_le _ _) (Nat.div_le_self _ _)
      · omega
    exact u32_wf _ (by omega)
  · cases hn

theorem getS_bit (x i : Nat) (h : i < 32) : getS x i 1 = (x.testBit i).toNat := by
  have e := getS_yes x i 1 (by omega) (by omega)
  rw [show ((1 : Nat) : Int) = 1 from rfl] at e
  rw [e, Nat.pow_one, Nat.toNat_testBit]
theorem putV_bit (x a n v i : Nat) (h : putP a n v) (hi : i < a ∨ a + n ≤ i) : (putV x a n v).testBit i = x.testBit i := by
  have hv : v < 2 ^ n := h.2
  rw [(put_yes (x := x) h).1, put_sum x a n v hv, Nat.testBit_or, Nat.testBit_or, tb_mul, tb_mul, Nat.testBit_div_two_pow, Nat.testBit_mod_two_pow]
  rcases hi with hi | hi
  · have a1 : ¬ a + n ≤ i := by omega
    have a2 : ¬ a ≤ i := by omega
    simp [a1, a2, hi]
  · have a1 : ¬ i < a := by omega
    have a3 : i - (a + n) + (a + n) = i := by omega
    have a4 : v.testBit (i - a) = false := tb_high hv (by omega)
    simp [a1, hi, a3, a4]
theorem putV_got (x a n v : Nat) (h : putP a n v) (h1 : 1 ≤ n) (h2 : a + n ≤ 32) : getS (putV x a n v) a n = v := by
  have hv : v < 2 ^ n := h.2
  rw [getS_yes _ _ _ h1 h2, (put_yes (x := x) h).1]
  have e1 : x / 2 ^ (a + n) * 2 ^ (a + n) = x / 2 ^ (a + n) * 2 ^ n * 2 ^ a := by rw [Nat.pow_add, Nat.mul_comm (2 ^ a), ← Nat.mul_assoc]
  rw [e1, ← Nat.add_mul, Nat.add_comm, Nat.add_mul_div_right _ _ (Nat.two_pow_pos a), Nat.div_eq_of_lt (Nat.mod_lt _ (Nat.two_pow_pos a)), Nat.zero_add, Nat.add_comm, Nat.add_mul_mod_self_right]
  exact Nat.mod_eq_of_lt hv
theorem sgn_fit (v n : Nat) (hv : v < 4294967296) (h1 : 1 ≤ n) (h2 : n ≤ 32) : -2147483648 ≤ sgnS v n ∧ sgnS v n < 2147483648 ∧ fitB (sgnS v n) n = true ∧ sgnS (sgnS v n % 4294967296).toNat n = sgnS v n := by
  have hs : ∀ u : Nat, sgnS u n = sgnN u n := fun u => by unfold sgnS; rw [if_pos (by unfold szP; simp; omega)]; rfl
  have hb := sgn_nat v n h1 h2 hv
  have hp : 2 ^ (n - 1) ≤ 2147483648 := Nat.pow_le_pow_right (n := 2) (by omega) (show n - 1 ≤ 31 by omega)
  have hlo : -2147483648 ≤ sgnN v n := by omega
  have hhi : sgnN v n < 2147483648 := by omega
  rw [hs v]
  refine ⟨hlo, hhi, decide_eq_true ⟨by omega, by omega, hb.1, hb.2⟩, ?_⟩
  rw [hs]
  exact (sgn_back (sgnN v n) n h1 h2 hlo hhi).2 hb

set_option maxRecDepth 100000 in
set_option maxHeartbeats 2000000 in
theorem law_BitsBack (a0 : Int) (a1 : Option Addr) (len1 cap1 : Nat) (z1 : List Int) (a2 : Int) (a3 : Int) (a4 : Int) (w : World) (w0 : (Lit.int .u32 a0).wf = true) (w1 : IsRow .i64 w a1 len1 cap1 z1) (w2 : (Lit.int .i64 a2).wf = true) (w3 : (Lit.int .i64 a3).wf = true) (w4 : (Lit.int .u32 a4).wf = true) :
    Calls Try.prog 5 #[.int .u32 a0, .slice a1 len1 cap1, .int .i64 a2, .int .i64 a3, .int .u32 a4] w fun e w' => e = .returned (.bool true) ∧ Below w.heap.size w w' := by
  obtain ⟨b1, b2⟩ := bounds_u32 w0
  obtain ⟨x, rfl⟩ := Int.eq_ofNat_of_zero_le b1
  obtain ⟨b3, b4⟩ := bounds_i64 w2
  obtain ⟨b5, b6⟩ := bounds_i64 w3
  obtain ⟨b7, b8⟩ := bounds_u32 w4
  obtain ⟨v, rfl⟩ := Int.eq_ofNat_of_zero_le b7
  obtain ⟨hsl1, hz1⟩ := w1.sl
  clear w0 w1 w2 w3 w4
  generalize z1.take len1 = zs at *
  have hzl := hid hsl1.1
  by_cases c1 : (40 : Int) < len1
  · go_enter Try.func5, Try.ntmps5
    go_wp2_with fail
    refine (knows08_any _).mono ?_
    rintro e w3 ⟨rfl, hb3⟩
    go_wp2_with fail
    go_ret
    exact ⟨rfl, hb3⟩
  have hx : x < 4294967296 := by omega
  have hsw := hid (split_wf x hx zs)
  have hsplen : (splitL x zs).length ≤ 40 := by have := split_len x zs; have := hzl.out; omega
  have hjs := hid (fun h => join_split x hx zs h)
  have hjn := hid (fun h => join_no (zs := zs) (ys := splitL x zs) h)
  go_enter Try.func5, Try.ntmps5
  go_wp2_with fail
  refine (knows08_any _).mono ?_
  rintro e w2 ⟨rfl, hb2⟩
  have s1 := hsl1.below hb2
  clear hsl1
  go_wp2_with fail
  refine (split_any x _ _ _ zs _ (by omega) s1 hz1 (by omega)).mono ?_
  rintro e w3 ⟨a, la, ca, rfl, sa, hb3⟩
  replace s1 := s1.below hb3
  replace hb3 := bthen hb2 hb3
  have hla := hid sa.1
  have hla40 : la ≤ 40 := by have := sa.1; omega
  clear hb2
  go_wp2_with fail
  refine (join_any _ _ _ _ _ _ zs _ _ s1 hz1 (by omega) sa hsw.out (by omega)).mono ?_
  rintro e w4 ⟨rfl, hb4⟩
  replace hb4 := bthen hb3 hb4
  clear hb3 s1 sa
  have hcase : ∃ rb : Bool, rightB zs = rb ∧ joinOk zs (splitL x zs) = rb ∧ (rb = true → x = joinV zs (splitL x zs) ∧ la = len1) ∧ (rb = false → la = 0) := by
    by_cases hr : rightP zs
    · have h := hjs.out hr
      refine ⟨true, decide_eq_true hr, decide_eq_true h.1, fun _ => ⟨h.2.symm, ?_⟩, (by intro h; cases h)⟩
      rw [← hla.out, h.1.2.1, hzl.out]
    · refine ⟨false, decide_eq_false hr, (hjn.out (fun h => hr h.1)).2, (by intro h; cases h), fun _ => ?_⟩
      rw [← hla.out]; unfold splitL; rw [if_neg (by rw [show rightB zs = false from decide_eq_false hr]; decide)]; rfl
  obtain ⟨rb, e1, e2, e3, e4⟩ := hcase
  rw [e1, e2]
  generalize joinV zs (splitL x zs) = jv at *
  clear hjs hjn hsw hzl hla e1 e2 hsplen
  have hput := hid (put_any x a2 a3 v w4 (by omega) (by omega) b5 b6 b3 b4)
  have hrest : ∃ rr, Go.RowKit.Hid (rr = rb) := ⟨rb, hid rfl⟩
  cases rb
  case' true => obtain ⟨rfl, rfl⟩ := e3 rfl
  case' false => obtain rfl := e4 rfl
  all_goals
    clear e3 e4
    go_wp2_with fail
    refine hput.out.mono ?_
    rintro e w5 ⟨rfl, m5, rfl⟩
    by_cases cp : putP a2 a3 v
    case neg =>
      have hno := put_no (x := x) cp
      rw [hno.1, hno.2]
      clear hno cp
      go_wp2_with fail
      go_ret
      exact ⟨rfl, bdrewN hb4 _⟩
    have cpl : plP a2 a3 = true := cp.1
    have hpl : 1 ≤ a3 ∧ a3 ≤ 32 ∧ 0 ≤ a2 ∧ a2 + a3 ≤ 32 := by unfold plP at cpl; simpa using cpl
    obtain ⟨a, rfl⟩ := Int.eq_ofNat_of_zero_le hpl.2.2.1
    obtain ⟨n, rfl⟩ := Int.eq_ofNat_of_zero_le (show 0 ≤ a3 by omega)
    have hbit := hid (fun i h => putV_bit x a n v i cp h)
    have hgot := hid (putV_got x a n v cp (by omega) (by omega))
    have hfit := sgn_fit v n (by omega) (by omega) (by omega)
    have hok := (put_yes (x := x) cp).2
    have hylt : putV x a n v < 4294967296 := by
      have := put_lt x a n v hx (by omega) cp.2
      rw [(put_yes (x := x) cp).1]; exact this
    rw [hok]
    clear hok cp cpl
    generalize putV x a n v = y at *
    obtain ⟨S, hS⟩ : ∃ S, sgnS v n = S := ⟨_, rfl⟩
    rw [hS] at hfit
    obtain ⟨f1, f2, f3, f4⟩ := hfit
    replace f3 := hid f3
    replace f4 := hid f4
    replace hS := hid hS
    replace hb4 := bdrewN hb4 m5
    generalize w4.drewN m5 = w6 at *
    go_wp2_with fail
    go_loopw [17] (fun i wr => ∃ (k : Nat), k ≤ 32 ∧ i = .int .i64 k ∧ Below w.heap.size w wr) (fun i _ => 32 - (intOf i).toNat)
    case atStart => exact ⟨0, by omega, rfl, hb4⟩
    case round =>
      obtain ⟨k, hk, rfl, hbr⟩ := hrel
      by_cases hlt : (k : Int) < 32
      · by_cases hin : (k : Int) < (a : Int)
        · have he : getS y k 1 = getS x k 1 := by rw [getS_bit y k (by omega), getS_bit x k (by omega), hbit.out k (Or.inl (by omega))]
          go_wp2_with fail
          refine (get_any y k 1 _ hylt (by omega) (by omega) (by omega) (by omega)).mono ?_
          rintro e w7 ⟨rfl, m7, rfl⟩
          rw [he]
          go_wp2_with fail
          refine (get_any x k 1 _ hx (by omega) (by omega) (by omega) (by omega)).mono ?_
          rintro e w8 ⟨rfl, m8, rfl⟩
          generalize getS x k 1 = g at *
          clear he
          go_wp2_with fail
          go_roundw
          case rel => exact ⟨k + 1, by omega, by simp, bdrewN hbr (m7 + m8)⟩
          case measure => simp [intOf]; omega
        by_cases hin2 : (a : Int) + (n : Int) ≤ (k : Int)
        · have he : getS y k 1 = getS x k 1 := by rw [getS_bit y k (by omega), getS_bit x k (by omega), hbit.out k (Or.inr (by omega))]
          go_wp2_with fail
          all_goals (first | omega | skip)
          refine (get_any y k 1 _ hylt (by omega) (by omega) (by omega) (by omega)).mono ?_
          rintro e w7 ⟨rfl, m7, rfl⟩
          rw [he]
          go_wp2_with fail
          refine (get_any x k 1 _ hx (by omega) (by omega) (by omega) (by omega)).mono ?_
          rintro e w8 ⟨rfl, m8, rfl⟩
          generalize getS x k 1 = g at *
          clear he
          go_wp2_with fail
          go_roundw
          case rel => exact ⟨k + 1, by omega, by simp, bdrewN hbr (m7 + m8)⟩
          case measure => simp [intOf]; omega
        · go_wp2_with fail
          all_goals (first | omega | skip)
          go_roundw
          case rel => exact ⟨k + 1, by omega, by simp, hbr⟩
          case measure => simp [intOf]; omega
      · go_wp2_with fail
        refine (signed_any v n _ (by omega) (by omega) (by omega)).mono ?_
        rintro e w7 ⟨rfl, rfl⟩
        rw [hS.out]
        go_wp2_with fail
        refine (get_any y a n _ hylt (by omega) (by omega) (by omega) (by omega)).mono ?_
        rintro e w8 ⟨rfl, m8, rfl⟩
        rw [hgot.out]
        go_wp2_with fail
        refine (fits_any S n _ f1 (by omega) (by omega) (by omega)).mono ?_
        rintro e w8 ⟨rfl, rfl⟩
        rw [f3.out]
        obtain ⟨U, hU⟩ : ∃ U : Nat, S % 4294967296 = (U : Int) := ⟨(S % 4294967296).toNat, by omega⟩
        have hw : IntKind.u32.wrap S = U := by rw [IntKind.wrap_u32]; exact hU
        have hU2 : U < 4294967296 := by omega
        have hUS : sgnS U n = S := by have := f4.out; rw [show (S % 4294967296).toNat = U from by omega] at this; exact this
        replace hUS := hid hUS
        clear hU
        go_wp2_with fail
        refine (signed_any U n _ hU2 (by omega) (by omega)).mono ?_
        rintro e w9 ⟨rfl, rfl⟩
        rw [hUS.out]
        go_wp2_with fail
        go_ret
        exact ⟨rfl, bdrewN hbr m8⟩

end Go.Proofs.Ytefcbfhhehogdaa
