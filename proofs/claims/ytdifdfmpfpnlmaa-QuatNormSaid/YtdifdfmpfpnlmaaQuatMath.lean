/- Numbers of package quat: products of units, one, and the other order. -/
import Derived.Test.YtdifdfmpfpnlmaaLaw10
namespace Go.Proofs.Ytdifdfmpfpnlmaa
open Go.RowKit
set_option linter.unusedVariables false

theorem roundS_30 (n : Int) : roundS n 30 = if n < 0 then -(qn n.natAbs 1073741824 : Int) else if qn n.natAbs 1073741824 ≤ 9223372036854775807 then (qn n.natAbs 1073741824 : Int) else 9223372036854775807 := by
  have hp : pow2 (bnd 30 62) = 1073741824 := by decide +kernel
  unfold roundS overS
  rw [hp, if_neg (by omega)]
  have e : (1073741824 : Int).natAbs = 1073741824 := rfl
  rw [e]
  by_cases h : n < 0
  · rw [if_pos (by omega), if_pos h]
  · rw [if_neg (by omega), if_neg h]
theorem qn30_near (a : Nat) (h : a ≤ 4611686018427387904) : ∃ e : Int, 1073741824 * (qn a 1073741824 : Int) = a + e ∧ -536870912 ≤ e ∧ e ≤ 536870912 ∧ qn a 1073741824 ≤ 4294967297 := by
  unfold qn
  split
  · exact ⟨1073741824 * ((a / 1073741824 + 1 : Nat) : Int) - a, by omega, by omega, by omega, by omega⟩
  · exact ⟨1073741824 * ((a / 1073741824 : Nat) : Int) - a, by omega, by omega, by omega, by omega⟩
/-- A product that is rounded is at most half away. -/
theorem round_near (n : Int) (h1 : -4611686018427387904 ≤ n) (h2 : n ≤ 4611686018427387904) : ∃ e : Int, 1073741824 * roundS n 30 = n + e ∧ -536870912 ≤ e ∧ e ≤ 536870912 := by
  obtain ⟨e, h3, h4, h5, h6⟩ := qn30_near n.natAbs (by omega)
  rw [roundS_30]
  by_cases h : n < 0
  · rw [if_pos h]; exact ⟨-e, by omega, by omega, by omega⟩
  · rw [if_neg h, if_pos (by omega)]; exact ⟨e, by omega, by omega, by omega⟩
theorem round_odd (n : Int) (h1 : -4611686018427387904 ≤ n) (h2 : n ≤ 4611686018427387904) : roundS (-n) 30 = -roundS n 30 := by
  obtain ⟨e, h3, h4, h5, h6⟩ := qn30_near n.natAbs (by omega)
  rw [roundS_30, roundS_30, Int.natAbs_neg]
  by_cases h : n < 0
  · rw [if_neg (by omega), if_pos h, if_pos (by omega)]; omega
  · by_cases h0 : n = 0
    · subst h0; decide
    · rw [if_pos (by omega), if_neg h, if_pos (by omega)]
theorem qn_mul30 (a : Nat) : qn (a * 1073741824) 1073741824 = a := by
  unfold qn
  rw [Nat.mul_mod_left, Nat.mul_div_cancel _ (by omega), if_neg (by omega)]
theorem round_mul (x : Int) (h : B32 x) : roundS (x * 1073741824) 30 = x := by
  unfold B32 at h
  rw [roundS_30]
  have e : (x * 1073741824).natAbs = x.natAbs * 1073741824 := by omega
  rw [e, qn_mul30]
  by_cases h : x < 0
  · rw [if_pos (by omega)]; omega
  · rw [if_neg (by omega), if_pos (by omega)]; omega
theorem round_0 : roundS 0 30 = 0 := by decide +kernel
theorem euler4 (x y z t a b c d : Int) : (x*a - y*b - z*c - t*d)*(x*a - y*b - z*c - t*d) + (x*b + y*a + z*d - t*c)*(x*b + y*a + z*d - t*c) + (x*c + z*a + t*b - y*d)*(x*c + z*a + t*b - y*d) + (x*d + t*a + y*c - z*b)*(x*d + t*a + y*c - z*b) = (x*x+y*y+z*z+t*t)*(a*a+b*b+c*c+d*d) := by grind
theorem sq_nn (x : Int) : 0 ≤ x * x := by
  rcases Int.le_total 0 x with h | h
  · exact Int.mul_nonneg h h
  · have := Int.mul_nonneg (show 0 ≤ -x by omega) (show 0 ≤ -x by omega); rwa [Int.neg_mul_neg] at this
theorem abs_of_sq (s M : Int) (hM : 0 ≤ M) (h : s * s ≤ M * M) : -M ≤ s ∧ s ≤ M := by
  constructor
  · rcases Int.lt_or_le s (-M) with h1 | h1
    · have h2 : (M + 1) * (M + 1) ≤ (-s) * (-s) := Int.mul_le_mul (by omega) (by omega) (by omega) (by omega)
      rw [Int.neg_mul_neg, Int.add_mul, Int.mul_add] at h2; omega
    · exact h1
  · rcases Int.lt_or_le M s with h1 | h1
    · have h2 : (M + 1) * (M + 1) ≤ s * s := Int.mul_le_mul (by omega) (by omega) (by omega) (by omega)
      rw [Int.add_mul, Int.mul_add] at h2; omega
    · exact h1
theorem prod_b (s d M D : Int) (h1 : -M ≤ s) (h2 : s ≤ M) (h3 : -D ≤ d) (h4 : d ≤ D) : -(M * D) ≤ s * d ∧ s * d ≤ M * D := by
  have e : (s * d).natAbs = s.natAbs * d.natAbs := Int.natAbs_mul s d
  have h : s.natAbs * d.natAbs ≤ M.natAbs * D.natAbs := Nat.mul_le_mul (by omega) (by omega)
  have e2 : ((M.natAbs * D.natAbs : Nat) : Int) = M * D := by rw [Int.natCast_mul]; congr 1 <;> omega
  omega
theorem sq_part (p S D : Int) (h : 1073741824 * p = S + D) : 1152921504606846976 * (p * p) = S * S + 2 * (S * D) + D * D := by grind
theorem prod_small (x a : Int) (hx : B32 x) (ha : B32 a) : -4611686018427387904 ≤ x * a ∧ x * a ≤ 4611686018427387904 := by
  have := prod_b x a 2147483648 2147483648 hx.1 (by have := hx.2; omega) ha.1 (by have := ha.2; omega)
  omega
/-- The product of two that are nearly one. -/
theorem mul_near (x y z t a b c d : Int) (p0 : B32 x) (p1 : B32 y) (p2 : B32 z) (p3 : B32 t) (q0 : B32 a) (q1 : B32 b) (q2 : B32 c) (q3 : B32 d)
    (h1 : 1152920405095219200 ≤ x*x+y*y+z*z+t*t) (h2 : x*x+y*y+z*z+t*t ≤ 1152922604118474752) (h3 : 1152920405095219200 ≤ a*a+b*b+c*c+d*d) (h4 : a*a+b*b+c*c+d*d ≤ 1152922604118474752) :
    ∃ p q r s : Int, mulW x y z t a b c d = p ∧ mulX x y z t a b c d = q ∧ mulY x y z t a b c d = r ∧ mulZ x y z t a b c d = s ∧ B32 p ∧ B32 q ∧ B32 r ∧ B32 s ∧
      1152917106560335872 ≤ p*p+q*q+r*r+s*s ∧ p*p+q*q+r*r+s*s ≤ 1152925902653358080 := by
  refine ⟨_, _, _, _, rfl, rfl, rfl, rfl, ?_⟩
  have rn : ∀ u v, B32 u → B32 v → ∃ e : Int, 1073741824 * roundS (u * v) 30 = u * v + e ∧ -536870912 ≤ e ∧ e ≤ 536870912 := fun u v hu hv =>
    round_near _ (prod_small u v hu hv).1 (prod_small u v hu hv).2
  have hw : ∃ D, 1073741824 * mulW x y z t a b c d = (x*a - y*b - z*c - t*d) + D ∧ -2147483648 ≤ D ∧ D ≤ 2147483648 := by
    obtain ⟨e1, f1, g1, g2⟩ := rn x a p0 q0
    obtain ⟨e2, f2, g3, g4⟩ := rn y b p1 q1
    obtain ⟨e3, f3, g5, g6⟩ := rn z c p2 q2
    obtain ⟨e4, f4, g7, g8⟩ := rn t d p3 q3
    unfold mulW
    exact ⟨e1 - e2 - e3 - e4, by omega, by omega, by omega⟩
  have hx : ∃ D, 1073741824 * mulX x y z t a b c d = (x*b + y*a + z*d - t*c) + D ∧ -2147483648 ≤ D ∧ D ≤ 2147483648 := by
    obtain ⟨e1, f1, g1, g2⟩ := rn x b p0 q1
    obtain ⟨e2, f2, g3, g4⟩ := rn y a p1 q0
    obtain ⟨e3, f3, g5, g6⟩ := rn z d p2 q3
    obtain ⟨e4, f4, g7, g8⟩ := rn t c p3 q2
    unfold mulX
    exact ⟨e1 + e2 + e3 - e4, by omega, by omega, by omega⟩
  have hy : ∃ D, 1073741824 * mulY x y z t a b c d = (x*c + z*a + t*b - y*d) + D ∧ -2147483648 ≤ D ∧ D ≤ 2147483648 := by
    obtain ⟨e1, f1, g1, g2⟩ := rn x c p0 q2
    obtain ⟨e2, f2, g3, g4⟩ := rn z a p2 q0
    obtain ⟨e3, f3, g5, g6⟩ := rn t b p3 q1
    obtain ⟨e4, f4, g7, g8⟩ := rn y d p1 q3
    unfold mulY
    exact ⟨e1 + e2 + e3 - e4, by omega, by omega, by omega⟩
  have hz : ∃ D, 1073741824 * mulZ x y z t a b c d = (x*d + t*a + y*c - z*b) + D ∧ -2147483648 ≤ D ∧ D ≤ 2147483648 := by
    obtain ⟨e1, f1, g1, g2⟩ := rn x d p0 q3
    obtain ⟨e2, f2, g3, g4⟩ := rn t a p3 q0
    obtain ⟨e3, f3, g5, g6⟩ := rn y c p1 q2
    obtain ⟨e4, f4, g7, g8⟩ := rn z b p2 q1
    unfold mulZ
    exact ⟨e1 + e2 + e3 - e4, by omega, by omega, by omega⟩
  have heu := euler4 x y z t a b c d
  obtain ⟨D0, hw, w1, w2⟩ := hw
  obtain ⟨D1, hx, x1, x2⟩ := hx
  obtain ⟨D2, hy, y1, y2⟩ := hy
  obtain ⟨D3, hz, z1, z2⟩ := hz
  generalize x*a - y*b - z*c - t*d = S0 at *
  generalize x*b + y*a + z*d - t*c = S1 at *
  generalize x*c + z*a + t*b - y*d = S2 at *
  generalize x*d + t*a + y*c - z*b = S3 at *
  generalize x*x+y*y+z*z+t*t = NA at *
  generalize a*a+b*b+c*c+d*d = NB at *
  generalize mulW x y z t a b c d = P0 at *
  generalize mulX x y z t a b c d = P1 at *
  generalize mulY x y z t a b c d = P2 at *
  generalize mulZ x y z t a b c d = P3 at *
  have hN1 : 1152920405095219200 * 1152920405095219200 ≤ NA * NB := Int.mul_le_mul h1 h3 (by omega) (by omega)
  have hN2 : NA * NB ≤ 1152922604118474752 * 1152922604118474752 := Int.mul_le_mul h2 h4 (by omega) (by omega)
  have n0 := sq_nn S0
  have n1 := sq_nn S1
  have n2 := sq_nn S2
  have n3 := sq_nn S3
  obtain ⟨l0, u0⟩ := abs_of_sq S0 1152922604118474752 (by omega) (by omega)
  obtain ⟨l1, u1⟩ := abs_of_sq S1 1152922604118474752 (by omega) (by omega)
  obtain ⟨l2, u2⟩ := abs_of_sq S2 1152922604118474752 (by omega) (by omega)
  obtain ⟨l3, u3⟩ := abs_of_sq S3 1152922604118474752 (by omega) (by omega)
  have s0 := sq_part _ _ _ hw
  have s1 := sq_part _ _ _ hx
  have s2 := sq_part _ _ _ hy
  have s3 := sq_part _ _ _ hz
  have m0 := prod_b S0 D0 _ _ l0 u0 w1 w2
  have m1 := prod_b S1 D1 _ _ l1 u1 x1 x2
  have m2 := prod_b S2 D2 _ _ l2 u2 y1 y2
  have m3 := prod_b S3 D3 _ _ l3 u3 z1 z2
  have k0 := prod_b D0 D0 _ _ w1 w2 w1 w2
  have k1 := prod_b D1 D1 _ _ x1 x2 x1 x2
  have k2 := prod_b D2 D2 _ _ y1 y2 y1 y2
  have k3 := prod_b D3 D3 _ _ z1 z2 z1 z2
  have e0 := sq_nn D0
  have e1 := sq_nn D1
  have e2 := sq_nn D2
  have e3 := sq_nn D3
  unfold B32
  refine ⟨by omega, by omega, by omega, by omega, by omega, by omega⟩
theorem sqs_min (x y z t : Int) (p0 : B32 x) (p1 : B32 y) (p2 : B32 z) (p3 : B32 t) : ((sqs [x, y, z, t] 0 : Nat) : Int) = if x*x+y*y+z*z+t*t ≤ 18446744073709551615 then x*x+y*y+z*z+t*t else 18446744073709551615 := by
  have n0 := sq_nn x
  have n1 := sq_nn y
  have n2 := sq_nn z
  have n3 := sq_nn t
  have b0 := (prod_small x x p0 p0).2
  have b1 := (prod_small y y p1 p1).2
  have b2 := (prod_small z z p2 p2).2
  have b3 := (prod_small t t p3 p3).2
  simp only [sqs]
  generalize x * x = X at *
  generalize y * y = Y at *
  generalize z * z = Z at *
  generalize t * t = T at *
  by_cases h : X + Y + Z + T ≤ 18446744073709551615
  · rw [if_pos h, if_neg (by omega), if_neg (by omega), if_neg (by omega), if_neg (by omega)]; omega
  · rw [if_neg h, if_neg (by omega), if_neg (by omega), if_neg (by omega), if_pos (by omega)]; omega

theorem clampS_in {n : Int} (h : B32 n) : clampS n = n := by unfold B32 at h; unfold clampS; rw [if_neg (by omega), if_neg (by omega)]
theorem clampB_in {n : Int} (h : B32 n) : clampB n = false := by unfold B32 at h; unfold clampB; simp; omega
theorem clampB_out {n : Int} (h : clampB n = false) : B32 n := by unfold clampB at h; simp at h; unfold B32; omega
theorem clampS_32 (n : Int) : B32 (clampS n) := by unfold clampS B32; split <;> (try split) <;> omega
theorem cut4_in {x y z t : Int} (p0 : B32 x) (p1 : B32 y) (p2 : B32 z) (p3 : B32 t) : cut4 x y z t = .tuple #[.agg #[.int .i32 x, .int .i32 y, .int .i32 z, .int .i32 t], .int .i64 (0 : Nat)] := by
  unfold cut4
  rw [clampS_in p0, clampS_in p1, clampS_in p2, clampS_in p3]
  simp [cuts, sel4, clampB_in p0, clampB_in p1, clampB_in p2, clampB_in p3]
theorem cuts4_none {x y z t : Int} (h : cuts (fun i => sel4 i x y z t) 4 = 0) : B32 x ∧ B32 y ∧ B32 z ∧ B32 t := by
  simp only [cuts, sel4] at h
  cases h0 : clampB x <;> cases h1 : clampB y <;> cases h2 : clampB z <;> cases h3 : clampB t <;> simp [h0, h1, h2, h3] at h
  exact ⟨clampB_out h0, clampB_out h1, clampB_out h2, clampB_out h3⟩
theorem mul_one_r {x y z t : Int} (p0 : B32 x) (p1 : B32 y) (p2 : B32 z) (p3 : B32 t) : mulV x y z t 1073741824 0 0 0 = .tuple #[.agg #[.int .i32 x, .int .i32 y, .int .i32 z, .int .i32 t], .int .i64 (0 : Nat)] := by
  unfold mulV mulW mulX mulY mulZ
  simp only [Int.mul_zero, round_0, round_mul _ p0, round_mul _ p1, round_mul _ p2, round_mul _ p3]
  rw [show x - 0 - 0 - 0 = x from by omega, show 0 + y + 0 - 0 = y from by omega, show 0 + z + 0 - 0 = z from by omega, show 0 + t + 0 - 0 = t from by omega]
  exact cut4_in p0 p1 p2 p3
theorem mul_one_l {x y z t : Int} (p0 : B32 x) (p1 : B32 y) (p2 : B32 z) (p3 : B32 t) : mulV 1073741824 0 0 0 x y z t = .tuple #[.agg #[.int .i32 x, .int .i32 y, .int .i32 z, .int .i32 t], .int .i64 (0 : Nat)] := by
  unfold mulV mulW mulX mulY mulZ
  simp only [Int.zero_mul, round_0, Int.mul_comm 1073741824, round_mul _ p0, round_mul _ p1, round_mul _ p2, round_mul _ p3]
  rw [show x - 0 - 0 - 0 = x from by omega, show y + 0 + 0 - 0 = y from by omega, show z + 0 + 0 - 0 = z from by omega, show t + 0 + 0 - 0 = t from by omega]
  exact cut4_in p0 p1 p2 p3
/-- The product of both turned round, in the other order. -/
theorem mul_back {x y z t a b c d : Int} (p0 : B32 x) (p1 : B32 y) (p2 : B32 z) (p3 : B32 t) (q0 : B32 a) (q1 : B32 b) (q2 : B32 c) (q3 : B32 d) :
    mulW a (-b) (-c) (-d) x (-y) (-z) (-t) = mulW x y z t a b c d ∧ mulX a (-b) (-c) (-d) x (-y) (-z) (-t) = -mulX x y z t a b c d ∧ mulY a (-b) (-c) (-d) x (-y) (-z) (-t) = -mulY x y z t a b c d ∧ mulZ a (-b) (-c) (-d) x (-y) (-z) (-t) = -mulZ x y z t a b c d := by
  have o : ∀ u v, B32 u → B32 v → roundS (-(u * v)) 30 = -roundS (u * v) 30 := fun u v hu hv => round_odd _ (prod_small u v hu hv).1 (prod_small u v hu hv).2
  unfold mulW mulX mulY mulZ
  simp only [Int.mul_neg, Int.neg_mul, Int.neg_neg]
  simp only [Int.mul_comm a, Int.mul_comm b, Int.mul_comm c, Int.mul_comm d]
  rw [o x b p0 q1, o y a p1 q0, o x c p0 q2, o z a p2 q0, o x d p0 q3, o t a p3 q0]
  refine ⟨?_, ?_, ?_, ?_⟩ <;> first | trivial | omega
theorem order_cases (x y z t a b c d : Int) (p0 : B32 x) (p1 : B32 y) (p2 : B32 z) (p3 : B32 t) (q0 : B32 a) (q1 : B32 b) (q2 : B32 c) (q3 : B32 d) :
    ∃ (s0 s1 s2 s3 u0 u1 u2 u3 v0 v1 v2 v3 w0 w1 w2 w3 y0 y1 y2 y3 : Int) (n1 n2 n3 n4 n5 : Nat),
      mulV x y z t a b c d = .tuple #[.agg #[.int .i32 s0, .int .i32 s1, .int .i32 s2, .int .i32 s3], .int .i64 n1] ∧
      cut4 s0 (-s1) (-s2) (-s3) = .tuple #[.agg #[.int .i32 u0, .int .i32 u1, .int .i32 u2, .int .i32 u3], .int .i64 n2] ∧
      cut4 x (-y) (-z) (-t) = .tuple #[.agg #[.int .i32 v0, .int .i32 v1, .int .i32 v2, .int .i32 v3], .int .i64 n3] ∧
      cut4 a (-b) (-c) (-d) = .tuple #[.agg #[.int .i32 w0, .int .i32 w1, .int .i32 w2, .int .i32 w3], .int .i64 n4] ∧
      mulV w0 w1 w2 w3 v0 v1 v2 v3 = .tuple #[.agg #[.int .i32 y0, .int .i32 y1, .int .i32 y2, .int .i32 y3], .int .i64 n5] ∧
      B32 s0 ∧ B32 s1 ∧ B32 s2 ∧ B32 s3 ∧ B32 v0 ∧ B32 v1 ∧ B32 v2 ∧ B32 v3 ∧ B32 w0 ∧ B32 w1 ∧ B32 w2 ∧ B32 w3 ∧ n1 ≤ 4 ∧ n2 ≤ 4 ∧ n3 ≤ 4 ∧ n4 ≤ 4 ∧ n5 ≤ 4 ∧
      (0 < n1 + n2 + n3 + n4 + n5 ∨ (n1 = 0 ∧ n2 = 0 ∧ n3 = 0 ∧ n4 = 0 ∧ n5 = 0 ∧ u0 = y0 ∧ u1 = y1 ∧ u2 = y2 ∧ u3 = y3)) := by
  refine ⟨_, _, _, _, _, _, _, _, _, _, _, _, _, _, _, _, _, _, _, _, _, _, _, _, _, rfl, rfl, rfl, rfl, rfl, clampS_32 _, clampS_32 _, clampS_32 _, clampS_32 _, clampS_32 _, clampS_32 _, clampS_32 _, clampS_32 _, clampS_32 _, clampS_32 _, clampS_32 _, clampS_32 _, cuts_le _ 4, cuts_le _ 4, cuts_le _ 4, cuts_le _ 4, cuts_le _ 4, ?_⟩
  rcases Nat.eq_zero_or_pos (cuts (fun i => sel4 i (mulW x y z t a b c d) (mulX x y z t a b c d) (mulY x y z t a b c d) (mulZ x y z t a b c d)) 4 + cuts (fun i => sel4 i (clampS (mulW x y z t a b c d)) (-clampS (mulX x y z t a b c d)) (-clampS (mulY x y z t a b c d)) (-clampS (mulZ x y z t a b c d))) 4 + cuts (fun i => sel4 i x (-y) (-z) (-t)) 4 + cuts (fun i => sel4 i a (-b) (-c) (-d)) 4 + cuts (fun i => sel4 i (mulW (clampS a) (clampS (-b)) (clampS (-c)) (clampS (-d)) (clampS x) (clampS (-y)) (clampS (-z)) (clampS (-t))) (mulX (clampS a) (clampS (-b)) (clampS (-c)) (clampS (-d)) (clampS x) (clampS (-y)) (clampS (-z)) (clampS (-t))) (mulY (clampS a) (clampS (-b)) (clampS (-c)) (clampS (-d)) (clampS x) (clampS (-y)) (clampS (-z)) (clampS (-t))) (mulZ (clampS a) (clampS (-b)) (clampS (-c)) (clampS (-d)) (clampS x) (clampS (-y)) (clampS (-z)) (clampS (-t)))) 4) with h | h
  case inr => exact .inl h
  right
  have n1 : cuts (fun i => sel4 i (mulW x y z t a b c d) (mulX x y z t a b c d) (mulY x y z t a b c d) (mulZ x y z t a b c d)) 4 = 0 := by omega
  obtain ⟨a0, a1, a2, a3⟩ := cuts4_none n1
  rw [clampS_in a0, clampS_in a1, clampS_in a2, clampS_in a3] at h ⊢
  have n2 : cuts (fun i => sel4 i (mulW x y z t a b c d) (-mulX x y z t a b c d) (-mulY x y z t a b c d) (-mulZ x y z t a b c d)) 4 = 0 := by omega
  obtain ⟨b0, b1, b2, b3⟩ := cuts4_none n2
  have n3 : cuts (fun i => sel4 i x (-y) (-z) (-t)) 4 = 0 := by omega
  obtain ⟨c0, c1, c2, c3⟩ := cuts4_none n3
  have n4 : cuts (fun i => sel4 i a (-b) (-c) (-d)) 4 = 0 := by omega
  obtain ⟨d0, d1, d2, d3⟩ := cuts4_none n4
  rw [clampS_in c0, clampS_in c1, clampS_in c2, clampS_in c3, clampS_in d0, clampS_in d1, clampS_in d2, clampS_in d3] at h ⊢
  obtain ⟨k0, k1, k2, k3⟩ := mul_back p0 p1 p2 p3 q0 q1 q2 q3
  rw [k0, k1, k2, k3] at h ⊢
  refine ⟨n1, n2, n3, n4, n2, rfl, rfl, rfl, rfl⟩

end Go.Proofs.Ytdifdfmpfpnlmaa
