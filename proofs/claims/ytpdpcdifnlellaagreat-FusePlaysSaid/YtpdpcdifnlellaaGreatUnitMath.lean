/- Numbers of package unit: what is made of a quaternion. -/
import Derived.Test.YtpdpcdifnlellaaGreatVecMath
import Derived.Test.YtpdpcdifnlellaaGreatQuat2
import Derived.Test.YtpdpcdifnlellaaGreatKB
namespace Go.Proofs.YtpdpcdifnlellaaGreat
open Go.ChangeShapes Go.WideShapes Go.ChangeAt Go.RowKit
set_option maxRecDepth 100000
set_option linter.unusedVariables false

def far4 (x y z t : Int) : Bool := farP x || farP y || farP z || farP t
def dbl4 : Nat → Int → Int → Int → Int → Int × Int × Int × Int
  | 0, x, y, z, t => (x, y, z, t)
  | n + 1, x, y, z, t => if far4 x y z t = true then (x, y, z, t) else dbl4 n (2 * x) (2 * y) (2 * z) (2 * t)
theorem dbl4_far (n : Nat) (x y z t : Int) (h : far4 x y z t = true) : dbl4 n x y z t = (x, y, z, t) := by
  cases n with
  | zero => rfl
  | succ n => exact if_pos h
theorem dbl4_near (n : Nat) (x y z t : Int) (h : ¬ far4 x y z t = true) : dbl4 (n + 1) x y z t = dbl4 n (2 * x) (2 * y) (2 * z) (2 * t) := if_neg h
def unitL4 (x y z t : Int) : Int := (lengthS [(dbl4 33 x y z t).1, (dbl4 33 x y z t).2.1, (dbl4 33 x y z t).2.2.1, (dbl4 33 x y z t).2.2.2] : Nat)
def unitV4 (x y z t : Int) : Value := .agg #[.int .i32 (unitN (unitL4 x y z t) (dbl4 33 x y z t).1), .int .i32 (unitN (unitL4 x y z t) (dbl4 33 x y z t).2.1), .int .i32 (unitN (unitL4 x y z t) (dbl4 33 x y z t).2.2.1), .int .i32 (unitN (unitL4 x y z t) (dbl4 33 x y z t).2.2.2)]
def unitT4 (x y z t : Int) : Value := if x = 0 ∧ y = 0 ∧ z = 0 ∧ t = 0 then .tuple #[.agg #[.int .i32 0, .int .i32 0, .int .i32 0, .int .i32 0], .bool false] else .tuple #[unitV4 x y z t, .bool true]
theorem near4 {x y z t : Int} (h : far4 x y z t = false) : -1073741824 < x ∧ x < 1073741824 ∧ -1073741824 < y ∧ y < 1073741824 ∧ -1073741824 < z ∧ z < 1073741824 ∧ -1073741824 < t ∧ t < 1073741824 := by
  unfold far4 farP at h
  simp at h
  omega
def Reach4 (x y z t X Y Z T : Int) : Prop := ∃ j : Nat, j ≤ 33 ∧ dbl4 (33 - j) X Y Z T = dbl4 33 x y z t ∧ 2 ^ j ≤ X.natAbs + Y.natAbs + Z.natAbs + T.natAbs ∧ B32 X ∧ B32 Y ∧ B32 Z ∧ B32 T
theorem reach4_start {x y z t : Int} (h : ¬ (x = 0 ∧ y = 0 ∧ z = 0 ∧ t = 0)) (p0 : B32 x) (p1 : B32 y) (p2 : B32 z) (p3 : B32 t) : Reach4 x y z t x y z t := ⟨0, by omega, rfl, by rw [Nat.pow_zero]; omega, p0, p1, p2, p3⟩
theorem reach4_more {x y z t X Y Z T : Int} (h : Reach4 x y z t X Y Z T) (hf : far4 X Y Z T = false) : Reach4 x y z t (2 * X) (2 * Y) (2 * Z) (2 * T) := by
  obtain ⟨j, h1, h2, h3, h4, h5, h6, h7⟩ := h
  have hn := near4 hf
  have hj : j < 33 := by
    rcases Nat.lt_or_ge j 33 with h | h
    · exact h
    · have : 2 ^ 33 ≤ 2 ^ j := Nat.pow_le_pow_right (by omega) h
      have h33 : (2 : Nat) ^ 33 = 8589934592 := by decide
      omega
  refine ⟨j + 1, by omega, ?_, by rw [Nat.pow_succ]; omega, by unfold B32; omega, by unfold B32; omega, by unfold B32; omega, by unfold B32; omega⟩
  rw [← h2, show 33 - j = 33 - (j + 1) + 1 from by omega, dbl4_near _ _ _ _ _ (by rw [hf]; decide)]
theorem reach4_done {x y z t X Y Z T : Int} (h : Reach4 x y z t X Y Z T) (hf : far4 X Y Z T = true) : dbl4 33 x y z t = (X, Y, Z, T) := by
  obtain ⟨j, h1, h2, _⟩ := h
  rw [← h2, dbl4_far _ _ _ _ _ hf]
theorem reach4_sum {x y z t X Y Z T : Int} (h : Reach4 x y z t X Y Z T) : 1 ≤ X.natAbs + Y.natAbs + Z.natAbs + T.natAbs := by
  obtain ⟨j, h1, h2, h3, _⟩ := h
  have := Nat.two_pow_pos j
  omega
theorem reach4_b {x y z t X Y Z T : Int} (h : Reach4 x y z t X Y Z T) : B32 X ∧ B32 Y ∧ B32 Z ∧ B32 T := by
  obtain ⟨j, h1, h2, h3, h4⟩ := h
  exact h4
theorem unit4_no {x y z t : Int} (h : x = 0 ∧ y = 0 ∧ z = 0 ∧ t = 0) : unitT4 x y z t = .tuple #[.agg #[.int .i32 0, .int .i32 0, .int .i32 0, .int .i32 0], .bool false] := if_pos h
theorem unit4_yes {x y z t X Y Z T : Int} (h : ¬ (x = 0 ∧ y = 0 ∧ z = 0 ∧ t = 0)) (hd : dbl4 33 x y z t = (X, Y, Z, T)) : unitT4 x y z t = .tuple #[.agg #[.int .i32 (unitN (lengthS [X, Y, Z, T] : Nat) X), .int .i32 (unitN (lengthS [X, Y, Z, T] : Nat) Y), .int .i32 (unitN (lengthS [X, Y, Z, T] : Nat) Z), .int .i32 (unitN (lengthS [X, Y, Z, T] : Nat) T)], .bool true] := by
  unfold unitT4
  rw [if_neg h]
  unfold unitV4 unitL4
  rw [hd]
theorem length4_lt (x y z t : Int) : lengthS [x, y, z, t] < 4294967296 := by
  unfold lengthS
  exact sqrtS_lt _ (by have := sqs_le [x, y, z, t] 0 (by omega); omega)
theorem dbl4_scale : ∀ (n : Nat) (x y z t : Int), ∃ c : Int, 0 < c ∧ dbl4 n x y z t = (c * x, c * y, c * z, c * t)
  | 0, x, y, z, t => ⟨1, by omega, by simp [dbl4]⟩
  | n + 1, x, y, z, t => by
    by_cases h : far4 x y z t = true
    · exact ⟨1, by omega, by rw [dbl4_far _ _ _ _ _ h]; simp⟩
    · obtain ⟨c, hc, e⟩ := dbl4_scale n (2 * x) (2 * y) (2 * z) (2 * t)
      refine ⟨c * 2, by omega, ?_⟩
      rw [dbl4_near _ _ _ _ _ h, e, Int.mul_assoc, Int.mul_assoc, Int.mul_assoc, Int.mul_assoc]
theorem dbl4_end : ∀ (n : Nat) (x y z t : Int), n ≤ 33 → B32 x → B32 y → B32 z → B32 t → 2 ^ (33 - n) ≤ x.natAbs + y.natAbs + z.natAbs + t.natAbs → ∃ X Y Z T, dbl4 n x y z t = (X, Y, Z, T) ∧ far4 X Y Z T = true ∧ B32 X ∧ B32 Y ∧ B32 Z ∧ B32 T
  | 0, x, y, z, t, _, hx, hy, hz, ht, h => by
    have h33 : (2 : Nat) ^ (33 - 0) = 8589934592 := by decide
    rw [h33] at h
    refine ⟨x, y, z, t, rfl, ?_, hx, hy, hz, ht⟩
    unfold B32 at *
    unfold far4 farP
    simp
    omega
  | n + 1, x, y, z, t, hn, hx, hy, hz, ht, h => by
    by_cases hf : far4 x y z t = true
    · exact ⟨x, y, z, t, dbl4_far _ _ _ _ _ hf, hf, hx, hy, hz, ht⟩
    · have hf0 : far4 x y z t = false := by simpa using hf
      have hb := near4 hf0
      rw [dbl4_near _ _ _ _ _ hf]
      refine dbl4_end n (2 * x) (2 * y) (2 * z) (2 * t) (by omega) (by unfold B32; omega) (by unfold B32; omega) (by unfold B32; omega) (by unfold B32; omega) ?_
      have e : 33 - n = 33 - (n + 1) + 1 := by omega
      rw [e, Nat.pow_succ]; omega
theorem sqs4 (x y z t : Int) (p0 : B32 x) (p1 : B32 y) (p2 : B32 z) (p3 : B32 t) : ((sqs [x, y, z, t] 0 : Nat) : Int) = (if x*x+y*y+z*z+t*t ≤ 18446744073709551615 then x*x+y*y+z*z+t*t else 18446744073709551615) ∧ x*x+y*y+z*z+t*t ≤ 18446744073709551616 := by
  have n0 := sq_nonneg' x
  have n1 := sq_nonneg' y
  have n2 := sq_nonneg' z
  have n3 := sq_nonneg' t
  have b0 := (mul_bd x x p0.1 p0.2 p0.1 p0.2).2
  have b1 := (mul_bd y y p1.1 p1.2 p1.1 p1.2).2
  have b2 := (mul_bd z z p2.1 p2.2 p2.1 p2.2).2
  have b3 := (mul_bd t t p3.1 p3.2 p3.1 p3.2).2
  simp only [sqs]
  generalize x * x = X at *
  generalize y * y = Y at *
  generalize z * z = Z at *
  generalize t * t = T at *
  refine ⟨?_, by omega⟩
  by_cases h : X + Y + Z + T ≤ 18446744073709551615
  · rw [if_pos h, if_neg (by omega), if_neg (by omega), if_neg (by omega), if_neg (by omega)]; omega
  · rw [if_neg h, if_neg (by omega), if_neg (by omega), if_neg (by omega), if_pos (by omega)]; omega
/-- The squares of four parts that were divided by the length. -/
theorem unit_sum4 (X Y Z T : Int) (L : Nat) (S : Int) (hS : S = X * X + Y * Y + Z * Z + T * T) (h1 : (L : Int) * L ≤ S) (h2 : S < ((L : Int) + 1) * ((L : Int) + 1) + 1) (hL : 1073741824 ≤ L) (hX : X.natAbs ≤ L) (hY : Y.natAbs ≤ L) (hZ : Z.natAbs ≤ L) (hT : T.natAbs ≤ L)
    (u v s q a b c d : Int) (eu : (L : Int) * u = 1073741824 * X + a) (ev : (L : Int) * v = 1073741824 * Y + b) (es : (L : Int) * s = 1073741824 * Z + c) (eq : (L : Int) * q = 1073741824 * T + d) (ha : 2 * a.natAbs ≤ L) (hb : 2 * b.natAbs ≤ L) (hc : 2 * c.natAbs ≤ L) (hd : 2 * d.natAbs ≤ L) :
    1152921504606846976 - 8589934592 ≤ u * u + v * v + s * s + q * q ∧ u * u + v * v + s * s + q * q ≤ 1152921504606846976 + 8589934592 := by
  have s1 := part_sq L u X a eu
  have s2 := part_sq L v Y b ev
  have s3 := part_sq L s Z c es
  have s4 := part_sq L q T d eq
  have c1 := cross_b X a L hX ha
  have c2 := cross_b Y b L hY hb
  have c3 := cross_b Z c L hZ hc
  have c4 := cross_b T d L hT hd
  have q1 := sq_b a L ha
  have q2 := sq_b b L hb
  have q3 := sq_b c L hc
  have q4 := sq_b d L hd
  have hsum : (L : Int) * L * (u * u + v * v + s * s + q * q) = 1152921504606846976 * S + 2147483648 * (X * a) + a * a + 2147483648 * (Y * b) + b * b + 2147483648 * (Z * c) + c * c + 2147483648 * (T * d) + d * d := by
    rw [Int.mul_add, Int.mul_add, Int.mul_add, s1, s2, s3, s4, hS]; omega
  have hm : ((L : Int) + 1) * ((L : Int) + 1) = (L : Int) * L + 2 * L + 1 := by rw [Int.add_mul, Int.mul_add]; omega
  have hLL : 1073741824 * (L : Int) ≤ (L : Int) * L := Int.mul_le_mul_of_nonneg_right (by omega) (by omega)
  have hpos : (0 : Int) < (L : Int) * L := by omega
  generalize u * u + v * v + s * s + q * q = D at *
  rw [hm] at h2
  generalize (L : Int) * L = M at *
  constructor
  · refine Int.le_of_mul_le_mul_left (a := M) ?_ hpos
    rw [hsum, Int.mul_comm M]; omega
  · refine Int.le_of_mul_le_mul_left (a := M) ?_ hpos
    rw [hsum, Int.mul_comm M]; omega
theorem qn_mono (a b L : Nat) (hL : 0 < L) (h : a ≤ b) : qn a L ≤ qn b L := by
  have h1 := Nat.div_add_mod a L
  have h2 := Nat.div_add_mod b L
  have m1 := Nat.mod_lt a hL
  have m2 := Nat.mod_lt b hL
  have hd : a / L ≤ b / L := Nat.div_le_div_right h
  unfold qn
  by_cases e : a / L = b / L
  · rw [e] at h1 ⊢
    split <;> split <;> omega
  · split <;> split <;> omega
theorem over_abs (n : Int) (L : Nat) (hL : 0 < L) (hn : n.natAbs ≤ 1073741824 * L) : (overS n L).natAbs = qn n.natAbs L := by
  have hq := qn_small n.natAbs L hL hn
  have e2 : ((L : Int)).natAbs = L := by omega
  unfold overS
  rw [if_neg (by omega), e2]
  split
  · omega
  · rw [if_pos (by omega)]; omega
/-- What is made of a quaternion. -/
theorem unit_all4 (x y z t : Int) (hnz : ¬ (x = 0 ∧ y = 0 ∧ z = 0 ∧ t = 0)) (p0 : B32 x) (p1 : B32 y) (p2 : B32 z) (p3 : B32 t) :
    ∃ (f : Int → Int), unitT4 x y z t = .tuple #[.agg #[.int .i32 (f x), .int .i32 (f y), .int .i32 (f z), .int .i32 (f t)], .bool true] ∧ B32 (f x) ∧ B32 (f y) ∧ B32 (f z) ∧ B32 (f t) ∧
      1152921504606846976 - 8589934592 ≤ f x * f x + f y * f y + f z * f z + f t * f t ∧ f x * f x + f y * f y + f z * f z + f t * f t ≤ 1152921504606846976 + 8589934592 ∧
      (∀ a, a = x ∨ a = y ∨ a = z ∨ a = t → (a < 0 → f a ≤ 0) ∧ (0 ≤ a → 0 ≤ f a) ∧ (a = 0 → f a = 0) ∧ ∀ b, b = x ∨ b = y ∨ b = z ∨ b = t → b.natAbs ≤ a.natAbs → (f b).natAbs ≤ (f a).natAbs) := by
  obtain ⟨X, Y, Z, T, hd, hf, hX, hY, hZ, hT⟩ := dbl4_end 33 x y z t (by omega) p0 p1 p2 p3 (by rw [Nat.sub_self, Nat.pow_zero]; omega)
  obtain ⟨c, hc, hd2⟩ := dbl4_scale 33 x y z t
  rw [hd] at hd2
  simp only [Prod.mk.injEq] at hd2
  obtain ⟨e1, e2, e3, e4⟩ := hd2
  obtain ⟨hs, hs0⟩ := sqs4 X Y Z T hX hY hZ hT
  have hsle := sqs_le [X, Y, Z, T] 0 (by omega)
  have hL := sqrtS_spec (sqs [X, Y, Z, T] 0) (by omega)
  have hlen : lengthS [X, Y, Z, T] = sqrtS (sqs [X, Y, Z, T] 0) := rfl
  rw [← hlen] at hL
  rw [unit4_yes hnz hd]
  obtain ⟨L, hLd⟩ : ∃ L, lengthS [X, Y, Z, T] = L := ⟨_, rfl⟩
  rw [hLd] at hL ⊢
  obtain ⟨S, hSd⟩ : ∃ S, X * X + Y * Y + Z * Z + T * T = S := ⟨_, rfl⟩
  rw [hSd] at hs hs0
  have l1 : (L : Int) * L ≤ S := by
    have h := hL.1
    have h2 : ((L * L : Nat) : Int) = (L : Int) * L := by simp
    rw [← h2]; split at hs <;> omega
  have l2 : S < ((L : Int) + 1) * ((L : Int) + 1) + 1 := by
    have h := hL.2
    have h2 : (((L + 1) * (L + 1) : Nat) : Int) = ((L : Int) + 1) * ((L : Int) + 1) := by simp
    rw [← h2]; split at hs <;> omega
  have n1 := sq_nonneg' X
  have n2 := sq_nonneg' Y
  have n3 := sq_nonneg' Z
  have n4 := sq_nonneg' T
  have hL30 : 1073741824 ≤ L := by
    have hfx : 1073741824 ≤ X.natAbs ∨ 1073741824 ≤ Y.natAbs ∨ 1073741824 ≤ Z.natAbs ∨ 1073741824 ≤ T.natAbs := by
      unfold far4 farP at hf
      simp at hf
      omega
    have hSb : (1152921504606846976 : Int) ≤ S := by
      have g : ∀ V : Int, 1073741824 ≤ V.natAbs → (1152921504606846976 : Int) ≤ V * V := fun V hV => by
        have h1 : 1073741824 * 1073741824 ≤ V.natAbs * V.natAbs := Nat.mul_le_mul hV hV
        have h2 : ((V.natAbs * V.natAbs : Nat) : Int) = V * V := by rw [Int.natCast_mul]; exact Int.natAbs_mul_self' V
        omega
      rcases hfx with h | h | h | h
      · have := g X h; omega
      · have := g Y h; omega
      · have := g Z h; omega
      · have := g T h; omega
    rcases Nat.lt_or_ge L 1073741824 with h | h
    · exfalso
      have h3 : (L + 1) * (L + 1) ≤ 1073741824 * 1073741824 := Nat.mul_le_mul h h
      have h4 := hL.2
      split at hs <;> omega
    · exact h
  have hLb : L < 4294967296 := by rw [← hLd]; exact length4_lt X Y Z T
  have ab : ∀ V : Int, B32 V → V * V ≤ S → V.natAbs ≤ L := by
    intro V hV hVS
    rcases Nat.lt_or_ge L V.natAbs with h | h
    · exfalso
      have h1 : (L + 1) * (L + 1) ≤ V.natAbs * V.natAbs := Nat.mul_le_mul h h
      have h2 : ((V.natAbs * V.natAbs : Nat) : Int) = V * V := by rw [Int.natCast_mul]; exact Int.natAbs_mul_self' V
      have h3 := hL.2
      have h5 : V * V ≤ 4611686018427387904 := (mul_bd V V hV.1 hV.2 hV.1 hV.2).2
      split at hs <;> omega
    · exact h
  have hXL := ab X hX (by omega)
  have hYL := ab Y hY (by omega)
  have hZL := ab Z hZ (by omega)
  have hTL := ab T hT (by omega)
  have on : ∀ V : Int, V.natAbs ≤ L → ∃ r : Int, (L : Int) * overS (1073741824 * V) L = 1073741824 * V + r ∧ 2 * r.natAbs ≤ L ∧ unitN L V = overS (1073741824 * V) L ∧ B32 (overS (1073741824 * V) L) ∧ (overS (1073741824 * V) L).natAbs = qn (1073741824 * V).natAbs L ∧ (1073741824 * V < 0 → overS (1073741824 * V) L ≤ 0) ∧ (0 ≤ 1073741824 * V → 0 ≤ overS (1073741824 * V) L) ∧ (1073741824 * V = 0 → overS (1073741824 * V) L = 0) := by
    intro V hV
    obtain ⟨r, h1, h2, h3, h4, h5, h6⟩ := over_near (1073741824 * V) L (by omega) (by omega)
    exact ⟨r, h1, h2, wrap32_in h3, by unfold B32; omega, over_abs _ L (by omega) (by omega), h4, h5, h6⟩
  obtain ⟨ru, eu, bu, w1, B1, -⟩ := on X hXL
  obtain ⟨rv, ev, bv, w2, B2, -⟩ := on Y hYL
  obtain ⟨rs, es, bs, w3, B3, -⟩ := on Z hZL
  obtain ⟨rq, eq, bq, w4, B4, -⟩ := on T hTL
  have hsum := unit_sum4 X Y Z T L _ hSd.symm l1 l2 hL30 hXL hYL hZL hTL _ _ _ _ ru rv rs rq eu ev es eq bu bv bs bq
  rw [w1, w2, w3, w4]
  refine ⟨fun a => overS (1073741824 * (c * a)) L, ?_⟩
  simp only
  rw [← e1, ← e2, ← e3, ← e4]
  refine ⟨rfl, B1, B2, B3, B4, hsum.1, hsum.2, fun a ha => ?_⟩
  have hca : ∀ a, a = x ∨ a = y ∨ a = z ∨ a = t → (c * a).natAbs ≤ L := by
    intro a ha
    rcases ha with rfl | rfl | rfl | rfl
    · rw [← e1]; exact hXL
    · rw [← e2]; exact hYL
    · rw [← e3]; exact hZL
    · rw [← e4]; exact hTL
  obtain ⟨r, h1, h2, h3, h4, h5, h6, h7, h8⟩ := on (c * a) (hca a ha)
  refine ⟨fun h => h6 ?_, fun h => h7 ?_, ?_, fun b hb hab => ?_⟩
  · have := Int.mul_neg_of_pos_of_neg hc h; omega
  · have := Int.mul_nonneg (show 0 ≤ c by omega) h; omega
  · rintro rfl; exact h8 (by simp)
  · obtain ⟨r', k1, k2, k3, k4, k5, -⟩ := on (c * b) (hca b hb)
    rw [h5, k5]
    refine qn_mono _ _ L (by omega) ?_
    rw [Int.natAbs_mul, Int.natAbs_mul, Int.natAbs_mul, Int.natAbs_mul]
    exact Nat.mul_le_mul_left _ (Nat.mul_le_mul_left _ hab)

end Go.Proofs.YtpdpcdifnlellaaGreat
