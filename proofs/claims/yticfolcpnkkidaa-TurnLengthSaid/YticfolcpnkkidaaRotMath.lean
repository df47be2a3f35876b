/- How long a turned vector is. -/
import Derived.Test.YticfolcpnkkidaaLaw13c
import Derived.Test.YticfolcpnkkidaaTurn8
import Derived.Deep.DeepCutAuto
namespace Go.Proofs.Yticfolcpnkkidaa
open Go.ChangeShapes Go.WideShapes Go.ChangeAt Go.RowKit
set_option linter.unusedVariables false

theorem qn30_near_l (a : Nat) (h : a ≤ 4611686018427387904) : ∃ e : Int, 1073741824 * (qn a 1073741824 : Int) = a + e ∧ -536870912 ≤ e ∧ e ≤ 536870912 ∧ qn a 1073741824 ≤ 4294967297 := by
  unfold qn
  split
  · exact ⟨1073741824 * ((a / 1073741824 + 1 : Nat) : Int) - a, by omega, by omega, by omega, by omega⟩
  · exact ⟨1073741824 * ((a / 1073741824 : Nat) : Int) - a, by omega, by omega, by omega, by omega⟩
theorem round_near_l (n : Int) (h1 : -4611686018427387904 ≤ n) (h2 : n ≤ 4611686018427387904) : ∃ e : Int, 1073741824 * roundS n 30 = n + e ∧ -536870912 ≤ e ∧ e ≤ 536870912 := by
  obtain ⟨e, h3, h4, h5, h6⟩ := qn30_near_l n.natAbs (by omega)
  rw [roundS_30_t]
  by_cases h : n < 0
  · rw [if_pos h]; exact ⟨-e, by omega, by omega, by omega⟩
  · rw [if_neg h, if_pos (by omega)]; exact ⟨e, by omega, by omega, by omega⟩
theorem sq_nn_l (x : Int) : 0 ≤ x * x := by
  rcases Int.le_total 0 x with h | h
  · exact Int.mul_nonneg h h
  · have := Int.mul_nonneg (show 0 ≤ -x by omega) (show 0 ≤ -x by omega); rwa [Int.neg_mul_neg] at this
theorem abs_of_sq_l (s M : Int) (hM : 0 ≤ M) (h : s * s ≤ M * M) : -M ≤ s ∧ s ≤ M := by
  constructor
  · rcases Int.lt_or_le s (-M) with h1 | h1
    · have h2 : (M + 1) * (M + 1) ≤ (-s) * (-s) := Int.mul_le_mul (by omega) (by omega) (by omega) (by omega)
      rw [Int.neg_mul_neg, Int.add_mul, Int.mul_add] at h2; omega
    · exact h1
  · rcases Int.lt_or_le M s with h1 | h1
    · have h2 : (M + 1) * (M + 1) ≤ s * s := Int.mul_le_mul (by omega) (by omega) (by omega) (by omega)
      rw [Int.add_mul, Int.mul_add] at h2; omega
    · exact h1
theorem prod_b_l (s d M D : Int) (h1 : -M ≤ s) (h2 : s ≤ M) (h3 : -D ≤ d) (h4 : d ≤ D) : -(M * D) ≤ s * d ∧ s * d ≤ M * D := by
  have e : (s * d).natAbs = s.natAbs * d.natAbs := Int.natAbs_mul s d
  have h : s.natAbs * d.natAbs ≤ M.natAbs * D.natAbs := Nat.mul_le_mul (by omega) (by omega)
  have e2 : ((M.natAbs * D.natAbs : Nat) : Int) = M * D := by rw [Int.natCast_mul]; congr 1 <;> omega
  omega
theorem prod_small_l (x a : Int) (hx : B32 x) (ha : B32 a) : -4611686018427387904 ≤ x * a ∧ x * a ≤ 4611686018427387904 := by
  have := prod_b_l x a 2147483648 2147483648 hx.1 (by have := hx.2; omega) ha.1 (by have := ha.2; omega)
  omega
theorem cs3 (a b c x y z : Int) : (a * x + b * y + c * z) * (a * x + b * y + c * z) ≤ (a * a + b * b + c * c) * (x * x + y * y + z * z) := by
  have h : (a * a + b * b + c * c) * (x * x + y * y + z * z) = (a * x + b * y + c * z) * (a * x + b * y + c * z) + (a * y - b * x) * (a * y - b * x) + (a * z - c * x) * (a * z - c * x) + (b * z - c * y) * (b * z - c * y) := by grind
  have h1 := sq_nn_l (a * y - b * x)
  have h2 := sq_nn_l (a * z - c * x)
  have h3 := sq_nn_l (b * z - c * y)
  omega
theorem rot_id (K x y z t a b c c0 c1 c2 : Int) (h1 : a * c0 + b * c1 + c * c2 = 0) (h2 : y * c0 + z * c1 + t * c2 = 0) (h3 : a * (z * c2 - t * c1) + b * (t * c0 - y * c2) + c * (y * c1 - z * c0) = -(c0 * c0 + c1 * c1 + c2 * c2)) :
    (K * a + 2 * (x * c0 + (z * c2 - t * c1))) * (K * a + 2 * (x * c0 + (z * c2 - t * c1))) + (K * b + 2 * (x * c1 + (t * c0 - y * c2))) * (K * b + 2 * (x * c1 + (t * c0 - y * c2))) + (K * c + 2 * (x * c2 + (y * c1 - z * c0))) * (K * c + 2 * (x * c2 + (y * c1 - z * c0))) = K * K * (a * a + b * b + c * c) + 4 * ((c0 * c0 + c1 * c1 + c2 * c2) * (x * x + y * y + z * z + t * t - K)) := by
  have e : (K * a + 2 * (x * c0 + (z * c2 - t * c1))) * (K * a + 2 * (x * c0 + (z * c2 - t * c1))) + (K * b + 2 * (x * c1 + (t * c0 - y * c2))) * (K * b + 2 * (x * c1 + (t * c0 - y * c2))) + (K * c + 2 * (x * c2 + (y * c1 - z * c0))) * (K * c + 2 * (x * c2 + (y * c1 - z * c0))) = K * K * (a * a + b * b + c * c) + 4 * (K * x * (a * c0 + b * c1 + c * c2)) + 4 * (K * (a * (z * c2 - t * c1) + b * (t * c0 - y * c2) + c * (y * c1 - z * c0))) + 4 * (x * x * (c0 * c0 + c1 * c1 + c2 * c2)) + 4 * ((y * y + z * z + t * t) * (c0 * c0 + c1 * c1 + c2 * c2)) - 4 * ((y * c0 + z * c1 + t * c2) * (y * c0 + z * c1 + t * c2)) := by grind
  rw [e, h1, h2, h3]
  grind
theorem cross_le (y z t a b c : Int) : (z * c - t * b) * (z * c - t * b) + (t * a - y * c) * (t * a - y * c) + (y * b - z * a) * (y * b - z * a) ≤ (y * y + z * z + t * t) * (a * a + b * b + c * c) := by
  have h : (y * y + z * z + t * t) * (a * a + b * b + c * c) = (z * c - t * b) * (z * c - t * b) + (t * a - y * c) * (t * a - y * c) + (y * b - z * a) * (y * b - z * a) + (y * a + z * b + t * c) * (y * a + z * b + t * c) := by grind
  have h1 := sq_nn_l (y * a + z * b + t * c)
  omega
theorem sqs3_l (a b c : Int) (h0 : -1073741824 ≤ a) (h1 : a ≤ 1073741824) (h2 : -1073741824 ≤ b) (h3 : b ≤ 1073741824) (h4 : -1073741824 ≤ c) (h5 : c ≤ 1073741824) : ((sqs [a, b, c] 0 : Nat) : Int) = a * a + b * b + c * c := by
  have n0 := sq_nn_l a
  have n1 := sq_nn_l b
  have n2 := sq_nn_l c
  have b0 := (prod_b_l a a _ _ h0 h1 h0 h1).2
  have b1 := (prod_b_l b b _ _ h2 h3 h2 h3).2
  have b2 := (prod_b_l c c _ _ h4 h5 h4 h5).2
  simp only [sqs]
  generalize a * a = X at *
  generalize b * b = Y at *
  generalize c * c = Z at *
  rw [if_neg (by omega), if_neg (by omega), if_neg (by omega)]; omega
/-- The lengths of two vectors, the second of which is nearly the first, turned. -/
theorem len_near (N M L R EE ED MD DD : Int) (L0 : 0 ≤ L) (L1 : L ≤ 33554430) (R0 : 0 ≤ R) (hL1 : L * L ≤ N) (hL2 : N ≤ L * L + 2 * L) (hR1 : R * R ≤ M) (hR2 : M ≤ R * R + 2 * R)
    (e1 : 1329227995784915872903807060280344576 * N - 79228162514264337593543950336 * N ≤ EE) (e2 : EE ≤ 1329227995784915872903807060280344576 * N + 79228162514264337593543950336 * N)
    (hM : 1329227995784915872903807060280344576 * M = EE + 2 * ED + DD) (hE : EE = 1329227995784915872903807060280344576 * M - 2 * (1152921504606846976 * MD) + DD) (d0 : 0 ≤ DD) (d1 : DD ≤ 81 * 1329227995784915872903807060280344576) (c1 : ED * ED ≤ EE * DD) (c2 : MD * MD ≤ M * DD) : R - L ≤ 16 ∧ L - R ≤ 16 := by
  have hLm : L * L ≤ L * 33554430 := Int.mul_le_mul_of_nonneg_left L1 L0
  have m0 : 0 ≤ M := Int.le_trans (sq_nn_l R) hR1
  have n0 : 0 ≤ N := Int.le_trans (sq_nn_l L) hL1
  have ee0 : 0 ≤ EE := by omega
  have s2 : (L + 2) * (L + 2) = L * L + 4 * L + 4 := by grind
  have s11 : (L + 11) * (L + 11) = L * L + 22 * L + 121 := by grind
  have eb : EE ≤ 1329227995784915872903807060280344576 * ((L + 2) * (L + 2)) := by rw [s2]; omega
  have g0 : 0 ≤ (L + 2) * (L + 2) := sq_nn_l _
  -- above
  have q1 : ED * ED ≤ (9 * 1329227995784915872903807060280344576 * (L + 2)) * (9 * 1329227995784915872903807060280344576 * (L + 2)) := by
    have h : EE * DD ≤ (1329227995784915872903807060280344576 * ((L + 2) * (L + 2))) * (81 * 1329227995784915872903807060280344576) := Int.mul_le_mul eb d1 d0 (by omega)
    have h2 : (1329227995784915872903807060280344576 * ((L + 2) * (L + 2))) * (81 * 1329227995784915872903807060280344576) = (9 * 1329227995784915872903807060280344576 * (L + 2)) * (9 * 1329227995784915872903807060280344576 * (L + 2)) := by grind
    omega
  obtain ⟨-, q2⟩ := abs_of_sq_l ED _ (by omega) q1
  have up : M ≤ (L + 11) * (L + 11) := by rw [s11]; rw [s2] at eb; omega
  have u1 : R * R ≤ (L + 11) * (L + 11) := Int.le_trans hR1 up
  obtain ⟨-, u2⟩ := abs_of_sq_l R (L + 11) (by omega) u1
  -- below
  have t1 : (R + 1) * (R + 1) = R * R + 2 * R + 1 := by grind
  have mb : M ≤ (R + 1) * (R + 1) := by omega
  have q3 : MD * MD ≤ (9 * 1152921504606846976 * (R + 1)) * (9 * 1152921504606846976 * (R + 1)) := by
    have h : M * DD ≤ ((R + 1) * (R + 1)) * (81 * 1329227995784915872903807060280344576) := Int.mul_le_mul mb d1 d0 (sq_nn_l _)
    have h2 : ((R + 1) * (R + 1)) * (81 * 1329227995784915872903807060280344576) = (9 * 1152921504606846976 * (R + 1)) * (9 * 1152921504606846976 * (R + 1)) := by grind
    omega
  obtain ⟨q4, -⟩ := abs_of_sq_l MD _ (by omega) q3
  refine ⟨by omega, ?_⟩
  rcases Int.lt_or_le 16 (L - R) with h | h
  · exfalso
    have k1 : (R + 10) * (R + 10) ≤ (L - 7) * (L - 7) := Int.mul_le_mul (by omega) (by omega) (by omega) (by omega)
    have k2 : (R + 10) * (R + 10) = R * R + 20 * R + 100 := by grind
    have k3 : (L - 7) * (L - 7) = L * L - 14 * L + 49 := by grind
    omega
  · exact h
theorem part_le {p q r s : Int} (h : p * p + q * q + r * r + s * s ≤ 1152921504606846976 + 8589934592) : (-1073741828 ≤ p ∧ p ≤ 1073741828) ∧ (-1073741828 ≤ q ∧ q ≤ 1073741828) ∧ (-1073741828 ≤ r ∧ r ≤ 1073741828) ∧ (-1073741828 ≤ s ∧ s ≤ 1073741828) := by
  have h0 := sq_nn_l p
  have h1 := sq_nn_l q
  have h2 := sq_nn_l r
  have h3 := sq_nn_l s
  exact ⟨abs_of_sq_l p _ (by omega) (by omega), abs_of_sq_l q _ (by omega) (by omega), abs_of_sq_l r _ (by omega) (by omega), abs_of_sq_l s _ (by omega) (by omega)⟩
theorem turn_part (u v p q : Int) (hu : -1073741828 ≤ u ∧ u ≤ 1073741828) (hv : -1073741828 ≤ v ∧ v ≤ 1073741828) (hp : -16777216 ≤ p ∧ p ≤ 16777216) (hq : -16777216 ≤ q ∧ q ≤ 16777216) :
    ∃ s e : Int, 2 * (roundS (u * p) 30 - roundS (v * q) 30) = s ∧ 1073741824 * s = 2 * (u * p - v * q) + e ∧ -2147483648 ≤ e ∧ e ≤ 2147483648 ∧ -67108900 ≤ s ∧ s ≤ 67108900 := by
  have b1 := prod_b_l u p _ _ hu.1 hu.2 hp.1 hp.2
  have b2 := prod_b_l v q _ _ hv.1 hv.2 hq.1 hq.2
  obtain ⟨e1, h1, g1, g2⟩ := round_near_l (u * p) (by omega) (by omega)
  obtain ⟨e2, h2, g3, g4⟩ := round_near_l (v * q) (by omega) (by omega)
  exact ⟨_, 2 * (e1 - e2), rfl, by omega, by omega, by omega, by omega, by omega⟩
theorem turn_out (w u v a s0 s1 s2 : Int) (hw : -1073741828 ≤ w ∧ w ≤ 1073741828) (hu : -1073741828 ≤ u ∧ u ≤ 1073741828) (hv : -1073741828 ≤ v ∧ v ≤ 1073741828) (ha : -16777216 ≤ a ∧ a ≤ 16777216) (h0 : -67108900 ≤ s0 ∧ s0 ≤ 67108900) (h1 : -67108900 ≤ s1 ∧ s1 ≤ 67108900) (h2 : -67108900 ≤ s2 ∧ s2 ≤ 67108900) :
    ∃ r n : Int, a + roundS (w * s0) 30 + (roundS (u * s1) 30 - roundS (v * s2) 30) = r ∧ 1073741824 * r = 1073741824 * a + w * s0 + (u * s1 - v * s2) + n ∧ -1610612736 ≤ n ∧ n ≤ 1610612736 ∧ -1073741824 ≤ r ∧ r ≤ 1073741824 := by
  have b0 := prod_b_l w s0 _ _ hw.1 hw.2 h0.1 h0.2
  have b1 := prod_b_l u s1 _ _ hu.1 hu.2 h1.1 h1.2
  have b2 := prod_b_l v s2 _ _ hv.1 hv.2 h2.1 h2.2
  obtain ⟨e0, f0, g0, g1⟩ := round_near_l (w * s0) (by omega) (by omega)
  obtain ⟨e1, f1, g2, g3⟩ := round_near_l (u * s1) (by omega) (by omega)
  obtain ⟨e2, f2, g4, g5⟩ := round_near_l (v * s2) (by omega) (by omega)
  exact ⟨_, e0 + e1 - e2, rfl, by omega, by omega, by omega, by omega, by omega⟩
/-- The error of a part. -/
theorem err_le {w u v e0 e1 e2 n : Int} (hq : w * w + u * u + v * v ≤ 1152921504606846976 + 8589934592) (h0 : -2147483648 ≤ e0 ∧ e0 ≤ 2147483648) (h1 : -2147483648 ≤ e1 ∧ e1 ≤ 2147483648) (h2 : -2147483648 ≤ e2 ∧ e2 ≤ 2147483648) (hn : -1610612736 ≤ n ∧ n ≤ 1610612736) :
    -5764607523034234880 ≤ w * e0 + (u * e1 - v * e2) + 1073741824 * n ∧ w * e0 + (u * e1 - v * e2) + 1073741824 * n ≤ 5764607523034234880 := by
  have c := cs3 w u v e0 e1 (-e2)
  have b0 := (prod_b_l e0 e0 _ _ h0.1 h0.2 h0.1 h0.2).2
  have b1 := (prod_b_l e1 e1 _ _ h1.1 h1.2 h1.1 h1.2).2
  have b2 := (prod_b_l e2 e2 _ _ h2.1 h2.2 h2.1 h2.2).2
  have x0 := sq_nn_l w
  have x1 := sq_nn_l u
  have x2 := sq_nn_l v
  have y0 := sq_nn_l e0
  have y1 := sq_nn_l e1
  have y2 := sq_nn_l e2
  have z : -e2 * -e2 = e2 * e2 := Int.neg_mul_neg _ _
  have zz : w * e0 + u * e1 + v * -e2 = w * e0 + (u * e1 - v * e2) := by rw [Int.mul_neg]; omega
  rw [z, zz] at c
  have hb : (w * w + u * u + v * v) * (e0 * e0 + e1 * e1 + e2 * e2) ≤ (1152921504606846976 + 8589934592) * 13835058055282163712 := Int.mul_le_mul hq (by omega) (by omega) (by omega)
  obtain ⟨k1, k2⟩ := abs_of_sq_l (w * e0 + (u * e1 - v * e2)) 4035225266123964416 (by omega) (by omega)
  omega
theorem rot_len (x y z t a b c : Int) (h1 : 1152921504606846976 - 8589934592 ≤ x * x + y * y + z * z + t * t) (h2 : x * x + y * y + z * z + t * t ≤ 1152921504606846976 + 8589934592)
    (ha : -16777216 ≤ a ∧ a ≤ 16777216) (hb : -16777216 ≤ b ∧ b ≤ 16777216) (hc : -16777216 ≤ c ∧ c ≤ 16777216) :
    ∃ u0 u1 u2 : Int, rotV x y z t a b c = .tuple #[.agg #[.int .i32 u0, .int .i32 u1, .int .i32 u2], .int .i64 0] ∧ B32 u0 ∧ B32 u1 ∧ B32 u2 ∧ (lengthS [u0, u1, u2] : Int) - lengthS [a, b, c] ≤ 16 ∧ -16 ≤ (lengthS [u0, u1, u2] : Int) - lengthS [a, b, c] := by
  obtain ⟨bx, by', bz, bt⟩ := part_le h2
  obtain ⟨s0, e0, d0, f0, g0, g0', i0, i0'⟩ := turn_part z t c b bz bt hc hb
  obtain ⟨s1, e1, d1, f1, g1, g1', i1, i1'⟩ := turn_part t y a c bt by' ha hc
  obtain ⟨s2, e2, d2, f2, g2, g2', i2, i2'⟩ := turn_part y z b a by' bz hb ha
  obtain ⟨r0, n0, k0, l0, o0, o0', j0, j0'⟩ := turn_out x z t a s0 s2 s1 bx bz bt ha ⟨i0, i0'⟩ ⟨i2, i2'⟩ ⟨i1, i1'⟩
  obtain ⟨r1, n1, k1, l1, o1, o1', j1, j1'⟩ := turn_out x t y b s1 s0 s2 bx bt by' hb ⟨i1, i1'⟩ ⟨i0, i0'⟩ ⟨i2, i2'⟩
  obtain ⟨r2, n2, k2, l2, o2, o2', j2, j2'⟩ := turn_out x y z c s2 s1 s0 bx by' bz hc ⟨i2, i2'⟩ ⟨i1, i1'⟩ ⟨i0, i0'⟩
  have B : ∀ {n : Int}, -1073741824 ≤ n → n ≤ 1073741824 → B32 n := fun p q => by unfold B32; omega
  refine ⟨r0, r1, r2, ?_, B j0 j0', B j1 j1', B j2 j2', ?_⟩
  · unfold rotV
    rw [d0, d1, d2, clampS_in_t (n := s0) (B (by omega) (by omega)), clampS_in_t (n := s1) (B (by omega) (by omega)), clampS_in_t (n := s2) (B (by omega) (by omega)), clampB_in_t (n := s0) (B (by omega) (by omega)), clampB_in_t (n := s1) (B (by omega) (by omega)), clampB_in_t (n := s2) (B (by omega) (by omega))]
    unfold rotQ
    rw [k0, k1, k2, clampS_in_t (B j0 j0'), clampS_in_t (B j1 j1'), clampS_in_t (B j2 j2'), clampB_in_t (B j0 j0'), clampB_in_t (B j1 j1'), clampB_in_t (B j2 j2')]
    rfl
  have hlN := sqs3_l a b c (by omega) (by omega) (by omega) (by omega) (by omega) (by omega)
  have hlM := sqs3_l r0 r1 r2 j0 j0' j1 j1' j2 j2'
  have pN : a * a + b * b + c * c ≤ 844424930131968 := by
    have := (prod_b_l a a _ _ ha.1 ha.2 ha.1 ha.2).2
    have := (prod_b_l b b _ _ hb.1 hb.2 hb.1 hb.2).2
    have := (prod_b_l c c _ _ hc.1 hc.2 hc.1 hc.2).2
    omega
  have pM : r0 * r0 + r1 * r1 + r2 * r2 ≤ 3458764513820540928 := by
    have := (prod_b_l r0 r0 _ _ j0 j0' j0 j0').2
    have := (prod_b_l r1 r1 _ _ j1 j1' j1 j1').2
    have := (prod_b_l r2 r2 _ _ j2 j2' j2 j2').2
    omega
  have sN := sqrtS_spec (sqs [a, b, c] 0) (by omega)
  have sM := sqrtS_spec (sqs [r0, r1, r2] 0) (by omega)
  have eN : lengthS [a, b, c] = sqrtS (sqs [a, b, c] 0) := rfl
  have eM : lengthS [r0, r1, r2] = sqrtS (sqs [r0, r1, r2] 0) := rfl
  rw [← eN] at sN
  rw [← eM] at sM
  clear eN eM
  generalize lengthS [a, b, c] = L at *
  generalize lengthS [r0, r1, r2] = R at *
  generalize sqs [a, b, c] 0 = SN at *
  generalize sqs [r0, r1, r2] 0 = SM at *
  have cl : ∀ X : Nat, (((X + 1) * (X + 1) : Nat) : Int) = (X : Int) * X + 2 * X + 1 := fun X => by rw [Int.natCast_mul, Int.natCast_add]; grind
  have cq : ∀ X : Nat, ((X * X : Nat) : Int) = (X : Int) * X := fun X => by rw [Int.natCast_mul]
  have n1' := cl L
  have n2' := cq L
  have m1' := cl R
  have m2' := cq R
  -- exact and error
  obtain ⟨c0, hc0⟩ : ∃ X, z * c - t * b = X := ⟨_, rfl⟩
  obtain ⟨c1, hc1⟩ : ∃ X, t * a - y * c = X := ⟨_, rfl⟩
  obtain ⟨c2, hc2⟩ : ∃ X, y * b - z * a = X := ⟨_, rfl⟩
  have cr := cross_le y z t a b c
  have w1 : a * c0 + b * c1 + c * c2 = 0 := by rw [← hc0, ← hc1, ← hc2]; grind
  have w2 : y * c0 + z * c1 + t * c2 = 0 := by rw [← hc0, ← hc1, ← hc2]; grind
  have w3 : a * (z * c2 - t * c1) + b * (t * c0 - y * c2) + c * (y * c1 - z * c0) = -(c0 * c0 + c1 * c1 + c2 * c2) := by rw [← hc0, ← hc1, ← hc2]; grind
  rw [hc0, hc1, hc2] at cr
  rw [hc0] at f0
  rw [hc1] at f1
  rw [hc2] at f2
  have id := rot_id 1152921504606846976 x y z t a b c c0 c1 c2 w1 w2 w3
  have qx := sq_nn_l x
  have qy := sq_nn_l y
  have qz := sq_nn_l z
  have qt := sq_nn_l t
  have er0 := err_le (w := x) (u := z) (v := t) (e0 := e0) (e1 := e2) (e2 := e1) (n := n0) (by omega) ⟨g0, g0'⟩ ⟨g2, g2'⟩ ⟨g1, g1'⟩ ⟨o0, o0'⟩
  have er1 := err_le (w := x) (u := t) (v := y) (e0 := e1) (e1 := e0) (e2 := e2) (n := n1) (by omega) ⟨g1, g1'⟩ ⟨g0, g0'⟩ ⟨g2, g2'⟩ ⟨o1, o1'⟩
  have er2 := err_le (w := x) (u := y) (v := z) (e0 := e2) (e1 := e1) (e2 := e0) (n := n2) (by omega) ⟨g2, g2'⟩ ⟨g1, g1'⟩ ⟨g0, g0'⟩ ⟨o2, o2'⟩
  have x0 : 1152921504606846976 * r0 = (1152921504606846976 * a + 2 * (x * c0 + (z * c2 - t * c1))) + (x * e0 + (z * e2 - t * e1) + 1073741824 * n0) := by
    have y0 : x * (1073741824 * s0) = x * (2 * c0 + e0) := by rw [f0]
    have y1 : z * (1073741824 * s2) = z * (2 * c2 + e2) := by rw [f2]
    have y2 : t * (1073741824 * s1) = t * (2 * c1 + e1) := by rw [f1]
    grind
  have x1 : 1152921504606846976 * r1 = (1152921504606846976 * b + 2 * (x * c1 + (t * c0 - y * c2))) + (x * e1 + (t * e0 - y * e2) + 1073741824 * n1) := by
    have y0 : x * (1073741824 * s1) = x * (2 * c1 + e1) := by rw [f1]
    have y1 : t * (1073741824 * s0) = t * (2 * c0 + e0) := by rw [f0]
    have y2 : y * (1073741824 * s2) = y * (2 * c2 + e2) := by rw [f2]
    grind
  have x2 : 1152921504606846976 * r2 = (1152921504606846976 * c + 2 * (x * c2 + (y * c1 - z * c0))) + (x * e2 + (y * e1 - z * e0) + 1073741824 * n2) := by
    have y0 : x * (1073741824 * s2) = x * (2 * c2 + e2) := by rw [f2]
    have y1 : y * (1073741824 * s1) = y * (2 * c1 + e1) := by rw [f1]
    have y2 : z * (1073741824 * s0) = z * (2 * c0 + e0) := by rw [f0]
    grind
  clear w1 w2 w3 f0 f1 f2 l0 l1 l2 k0 k1 k2 d0 d1 d2
  generalize 1152921504606846976 * a + 2 * (x * c0 + (z * c2 - t * c1)) = E0 at *
  generalize 1152921504606846976 * b + 2 * (x * c1 + (t * c0 - y * c2)) = E1 at *
  generalize 1152921504606846976 * c + 2 * (x * c2 + (y * c1 - z * c0)) = E2 at *
  generalize x * e0 + (z * e2 - t * e1) + 1073741824 * n0 = D0 at *
  generalize x * e1 + (t * e0 - y * e2) + 1073741824 * n1 = D1 at *
  generalize x * e2 + (y * e1 - z * e0) + 1073741824 * n2 = D2 at *
  have cc0 : 0 ≤ c0 * c0 + c1 * c1 + c2 * c2 := by have := sq_nn_l c0; have := sq_nn_l c1; have := sq_nn_l c2; omega
  have nn : 0 ≤ a * a + b * b + c * c := by have := sq_nn_l a; have := sq_nn_l b; have := sq_nn_l c; omega
  have cr2 : (y * y + z * z + t * t) * (a * a + b * b + c * c) ≤ 1152921513196781568 * (a * a + b * b + c * c) := Int.mul_le_mul_of_nonneg_right (by omega) nn
  have up : (c0 * c0 + c1 * c1 + c2 * c2) * (x * x + y * y + z * z + t * t - 1152921504606846976) ≤ (c0 * c0 + c1 * c1 + c2 * c2) * 8589934592 := Int.mul_le_mul_of_nonneg_left (by omega) cc0
  have lo : (c0 * c0 + c1 * c1 + c2 * c2) * (-8589934592) ≤ (c0 * c0 + c1 * c1 + c2 * c2) * (x * x + y * y + z * z + t * t - 1152921504606846976) := Int.mul_le_mul_of_nonneg_left (by omega) cc0
  have cs1 := cs3 E0 E1 E2 D0 D1 D2
  have cs2 := cs3 r0 r1 r2 D0 D1 D2
  have v0 := prod_b_l D0 D0 _ _ er0.1 er0.2 er0.1 er0.2
  have v1 := prod_b_l D1 D1 _ _ er1.1 er1.2 er1.1 er1.2
  have v2 := prod_b_l D2 D2 _ _ er2.1 er2.2 er2.1 er2.2
  have z0 := sq_nn_l D0
  have z1 := sq_nn_l D1
  have z2 := sq_nn_l D2
  have hM : 1329227995784915872903807060280344576 * (r0 * r0 + r1 * r1 + r2 * r2) = (E0 * E0 + E1 * E1 + E2 * E2) + 2 * (E0 * D0 + E1 * D1 + E2 * D2) + (D0 * D0 + D1 * D1 + D2 * D2) := by
    have y0 : (1152921504606846976 * r0) * (1152921504606846976 * r0) = (E0 + D0) * (E0 + D0) := by rw [x0]
    have y1 : (1152921504606846976 * r1) * (1152921504606846976 * r1) = (E1 + D1) * (E1 + D1) := by rw [x1]
    have y2 : (1152921504606846976 * r2) * (1152921504606846976 * r2) = (E2 + D2) * (E2 + D2) := by rw [x2]
    grind
  have hE : E0 * E0 + E1 * E1 + E2 * E2 = 1329227995784915872903807060280344576 * (r0 * r0 + r1 * r1 + r2 * r2) - 2 * (1152921504606846976 * (r0 * D0 + r1 * D1 + r2 * D2)) + (D0 * D0 + D1 * D1 + D2 * D2) := by
    have y0 : E0 = 1152921504606846976 * r0 - D0 := by omega
    have y1 : E1 = 1152921504606846976 * r1 - D1 := by omega
    have y2 : E2 = 1152921504606846976 * r2 - D2 := by omega
    rw [y0, y1, y2]
    grind
  have dd0 : 0 ≤ D0 * D0 + D1 * D1 + D2 * D2 := by omega
  have dd1 : D0 * D0 + D1 * D1 + D2 * D2 ≤ 81 * 1329227995784915872903807060280344576 := by omega
  clear v0 v1 v2 z0 z1 z2
  generalize E0 * E0 + E1 * E1 + E2 * E2 = EE at *
  generalize D0 * D0 + D1 * D1 + D2 * D2 = DD at *
  generalize E0 * D0 + E1 * D1 + E2 * D2 = ED at *
  generalize r0 * D0 + r1 * D1 + r2 * D2 = MD at *
  generalize (c0 * c0 + c1 * c1 + c2 * c2) * (x * x + y * y + z * z + t * t - 1152921504606846976) = CQ at *
  generalize c0 * c0 + c1 * c1 + c2 * c2 = CC at *
  generalize (y * y + z * z + t * t) * (a * a + b * b + c * c) = YN at *
  generalize a * a + b * b + c * c = N at *
  generalize r0 * r0 + r1 * r1 + r2 * r2 = M at *
  have Lb : (L : Int) ≤ 33554430 := by
    rcases Int.lt_or_le 33554430 (L : Int) with h | h
    · exfalso
      have : (33554431 : Int) * 33554431 ≤ (L : Int) * L := Int.mul_le_mul (by omega) (by omega) (by omega) (by omega)
      omega
    · exact h
  have fin := len_near N M L R EE ED MD DD (by omega) Lb (by omega) (by omega) (by omega) (by omega) (by omega) (by omega) (by omega) hM hE dd0 dd1 cs1 cs2
  omega

end Go.Proofs.Yticfolcpnkkidaa
