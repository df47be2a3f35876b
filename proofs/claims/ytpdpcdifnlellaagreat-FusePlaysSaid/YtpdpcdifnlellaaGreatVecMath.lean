/- A direction, in plain numbers: the squares of its parts are 2^60 together, nearly. -/
import Derived.Test.YtpdpcdifnlellaaGreatVec9
namespace Go.Proofs.YtpdpcdifnlellaaGreat
open Go.RowKit
set_option linter.unusedVariables false

theorem sqs_three (x y z : Int) (hx : B32 x) (hy : B32 y) (hz : B32 z) : ((sqs [x, y, z] 0 : Nat) : Int) = x * x + y * y + z * z ∧ sqs [x, y, z] 0 < 18446744073709551616 := by
  have h1 := sq_nat x hx.1 hx.2
  have h2 := sq_nat y hy.1 hy.2
  have h3 := sq_nat z hz.1 hz.2
  obtain ⟨a, ha, ha2⟩ := h1
  obtain ⟨b, hb, hb2⟩ := h2
  obtain ⟨c, hc, hc2⟩ := h3
  have e : sqs [x, y, z] 0 = a + b + c := by
    simp only [sqs, ha, hb, hc, Int.toNat_natCast]
    rw [if_neg (by omega), if_neg (by omega), if_neg (by omega)]
    omega
  rw [e, ha, hb, hc]
  omega
theorem qn_near (a b : Nat) (hb : 0 < b) : ∃ s : Int, (b : Int) * (qn a b : Int) = a + s ∧ 2 * s.natAbs ≤ b := by
  have hd := Nat.div_add_mod a b
  have hm := Nat.mod_lt a hb
  unfold qn
  split
  · refine ⟨(b : Int) - (a % b : Nat), ?_, by omega⟩
    have : ((b * (a / b + 1) : Nat) : Int) = (a : Int) + ((b : Int) - (a % b : Nat)) := by
      rw [Nat.mul_add, Nat.mul_one]; omega
    rw [← this]; simp
  · refine ⟨-((a % b : Nat) : Int), ?_, by omega⟩
    have : ((b * (a / b) : Nat) : Int) = (a : Int) + -((a % b : Nat) : Int) := by omega
    rw [← this]; simp
theorem qn_small (a b : Nat) (hb : 0 < b) (h : a ≤ 1073741824 * b) : qn a b ≤ 1073741824 := by
  obtain ⟨s, h1, h2⟩ := qn_near a b hb
  rcases Nat.lt_or_ge 1073741824 (qn a b) with hq | hq
  · exfalso
    have h3 : b * 1073741825 ≤ b * qn a b := Nat.mul_le_mul_left b hq
    have h4 : ((b * qn a b : Nat) : Int) = a + s := by rw [← h1]; simp
    omega
  · exact hq
theorem over_near (n : Int) (L : Nat) (hL : 0 < L) (hn : n.natAbs ≤ 1073741824 * L) : ∃ r : Int, (L : Int) * overS n L = n + r ∧ 2 * r.natAbs ≤ L ∧ (overS n L).natAbs ≤ 1073741824 ∧ (n < 0 → overS n L ≤ 0) ∧ (0 ≤ n → 0 ≤ overS n L) ∧ (n = 0 → overS n L = 0) := by
  obtain ⟨s, h1, h2⟩ := qn_near n.natAbs L hL
  have hq := qn_small n.natAbs L hL hn
  have e2 : ((L : Int)).natAbs = L := by omega
  unfold overS
  rw [if_neg (by omega), e2]
  by_cases hneg : n < 0
  · rw [if_pos (Or.inl ⟨hneg, by omega⟩)]
    refine ⟨-s, by rw [Int.mul_neg, h1]; omega, by omega, by omega, by omega, by omega, by omega⟩
  · rw [if_neg (by omega), if_pos (by omega)]
    refine ⟨s, by rw [h1]; omega, h2, by omega, by omega, by omega, ?_⟩
    rintro rfl
    have : qn (0 : Int).natAbs L = 0 := by
      unfold qn; rw [show (0 : Int).natAbs = 0 from rfl, Nat.zero_mod, Nat.zero_div, if_neg (by omega)]
    omega
theorem cross_b (x r : Int) (L : Nat) (hx : x.natAbs ≤ L) (hr : 2 * r.natAbs ≤ L) : -((L : Int) * L) ≤ 2 * (x * r) ∧ 2 * (x * r) ≤ (L : Int) * L := by
  have h1 : (x * r).natAbs = x.natAbs * r.natAbs := Int.natAbs_mul x r
  have h2 : x.natAbs * (2 * r.natAbs) ≤ L * L := Nat.mul_le_mul hx hr
  have h3 : x.natAbs * (2 * r.natAbs) = 2 * (x.natAbs * r.natAbs) := by rw [Nat.mul_left_comm]
  have h4 : (((L * L : Nat)) : Int) = (L : Int) * L := by simp
  omega
theorem sq_b (r : Int) (L : Nat) (hr : 2 * r.natAbs ≤ L) : 0 ≤ r * r ∧ 4 * (r * r) ≤ (L : Int) * L := by
  have h1 : (r * r).natAbs = r.natAbs * r.natAbs := Int.natAbs_mul r r
  have h2 : (2 * r.natAbs) * (2 * r.natAbs) ≤ L * L := Nat.mul_le_mul hr hr
  have h3 : (2 * r.natAbs) * (2 * r.natAbs) = 4 * (r.natAbs * r.natAbs) := by rw [Nat.mul_mul_mul_comm]
  have h4 : (((L * L : Nat)) : Int) = (L : Int) * L := by simp
  have h5 : 0 ≤ r * r := by
    rcases Int.le_total 0 r with h | h
    · exact Int.mul_nonneg h h
    · have := Int.mul_nonneg (show 0 ≤ -r by omega) (show 0 ≤ -r by omega); rwa [Int.neg_mul_neg] at this
  omega
theorem part_sq (L u x r : Int) (h : L * u = 1073741824 * x + r) : L * L * (u * u) = 1152921504606846976 * (x * x) + 2147483648 * (x * r) + r * r := by
  have e : L * L * (u * u) = (L * u) * (L * u) := by rw [Int.mul_assoc, Int.mul_assoc, Int.mul_left_comm L u u]
  rw [e, h, Int.add_mul, Int.mul_add, Int.mul_add, Int.mul_assoc 1073741824 x, Int.mul_left_comm x 1073741824 x, Int.mul_comm r (1073741824 * x), Int.mul_assoc 1073741824 x r]
  omega
/-- The squares of three parts that were divided by the length. -/
theorem unit_sum (X Y Z : Int) (L : Nat) (S : Int) (hS : S = X * X + Y * Y + Z * Z) (h1 : (L : Int) * L ≤ S) (h2 : S < ((L : Int) + 1) * ((L : Int) + 1)) (hL : 1073741824 ≤ L) (hX : X.natAbs ≤ L) (hY : Y.natAbs ≤ L) (hZ : Z.natAbs ≤ L) (u v t : Int) (ru rv rt : Int)
    (eu : (L : Int) * u = 1073741824 * X + ru) (ev : (L : Int) * v = 1073741824 * Y + rv) (et : (L : Int) * t = 1073741824 * Z + rt) (bu : 2 * ru.natAbs ≤ L) (bv : 2 * rv.natAbs ≤ L) (bt : 2 * rt.natAbs ≤ L) :
    1152921504606846976 - 8589934592 ≤ u * u + v * v + t * t ∧ u * u + v * v + t * t ≤ 1152921504606846976 + 8589934592 := by
  have p1 := part_sq L u X ru eu
  have p2 := part_sq L v Y rv ev
  have p3 := part_sq L t Z rt et
  have c1 := cross_b X ru L hX bu
  have c2 := cross_b Y rv L hY bv
  have c3 := cross_b Z rt L hZ bt
  have q1 := sq_b ru L bu
  have q2 := sq_b rv L bv
  have q3 := sq_b rt L bt
  have hm : ((L : Int) + 1) * ((L : Int) + 1) = (L : Int) * L + 2 * L + 1 := by
    rw [Int.add_mul, Int.mul_add, Int.mul_one, Int.one_mul]; omega
  have hLL : 1073741824 * (L : Int) ≤ (L : Int) * L := Int.mul_le_mul_of_nonneg_right (by omega) (by omega)
  have hpos : 0 < (L : Int) * L := Int.mul_pos (by omega) (by omega)
  have hsum : (L : Int) * L * (u * u + v * v + t * t) = 1152921504606846976 * S + 2147483648 * (X * ru) + 2147483648 * (Y * rv) + 2147483648 * (Z * rt) + (ru * ru + rv * rv + rt * rt) := by
    rw [Int.mul_add, Int.mul_add, p1, p2, p3, hS]; omega
  generalize X * ru = C1 at *
  generalize Y * rv = C2 at *
  generalize Z * rt = C3 at *
  generalize ru * ru = Q1 at *
  generalize rv * rv = Q2 at *
  generalize rt * rt = Q3 at *
  generalize u * u + v * v + t * t = D at *
  rw [hm] at h2
  generalize (L : Int) * L = M at *
  constructor
  · refine Int.le_of_mul_le_mul_left (a := M) ?_ hpos
    rw [hsum, Int.mul_comm M]; omega
  · refine Int.le_of_mul_le_mul_left (a := M) ?_ hpos
    rw [hsum, Int.mul_comm M]; omega

theorem dbl_scale : ∀ (n : Nat) (x y z : Int), ∃ c : Int, 0 < c ∧ dbl n x y z = (c * x, c * y, c * z)
  | 0, x, y, z => ⟨1, by omega, by simp [dbl]⟩
  | n + 1, x, y, z => by
    by_cases h : far3 x y z = true
    · exact ⟨1, by omega, by rw [dbl_far _ _ _ _ h]; simp⟩
    · obtain ⟨c, hc, e⟩ := dbl_scale n (2 * x) (2 * y) (2 * z)
      refine ⟨c * 2, by omega, ?_⟩
      rw [dbl_near _ _ _ _ h, e, Int.mul_assoc, Int.mul_assoc, Int.mul_assoc]
theorem dbl_end : ∀ (n : Nat) (x y z : Int), n ≤ 33 → B32 x → B32 y → B32 z → 2 ^ (33 - n) ≤ x.natAbs + y.natAbs + z.natAbs → ∃ X Y Z, dbl n x y z = (X, Y, Z) ∧ far3 X Y Z = true ∧ B32 X ∧ B32 Y ∧ B32 Z
  | 0, x, y, z, _, hx, hy, hz, h => by
    have h33 : (2 : Nat) ^ (33 - 0) = 8589934592 := by decide
    rw [h33] at h
    unfold B32 at *
    omega
  | n + 1, x, y, z, hn, hx, hy, hz, h => by
    by_cases hf : far3 x y z = true
    · exact ⟨x, y, z, dbl_far _ _ _ _ hf, hf, hx, hy, hz⟩
    · have hf0 : far3 x y z = false := by simpa using hf
      have hb := near3 hf0
      rw [dbl_near _ _ _ _ hf]
      refine dbl_end n (2 * x) (2 * y) (2 * z) (by omega) (by unfold B32; omega) (by unfold B32; omega) (by unfold B32; omega) ?_
      have e : 33 - n = 33 - (n + 1) + 1 := by omega
      rw [e, Nat.pow_succ]; omega
theorem abs_le_of_sq (x : Int) (L : Nat) (S : Int) (hx : x * x ≤ S) (h : S < ((L : Int) + 1) * ((L : Int) + 1)) : x.natAbs ≤ L := by
  have h1 : ((x.natAbs * x.natAbs : Nat) : Int) = x * x := by rw [Int.natCast_mul]; exact Int.natAbs_mul_self' x
  have h2 : x.natAbs * x.natAbs < (L + 1) * (L + 1) := by
    have h3 : (((L + 1) * (L + 1) : Nat) : Int) = ((L : Int) + 1) * ((L : Int) + 1) := by simp
    omega
  have := sq_lt h2
  omega
theorem sq_nonneg' (x : Int) : 0 ≤ x * x := by
  rcases Int.le_total 0 x with h | h
  · exact Int.mul_nonneg h h
  · have := Int.mul_nonneg (show 0 ≤ -x by omega) (show 0 ≤ -x by omega); rwa [Int.neg_mul_neg] at this
theorem wrap32_in {n : Int} (h : n.natAbs ≤ 1073741824) : wrap32 n = n := by unfold wrap32; omega

/-- The direction of a vector. -/
theorem unit_all (x y z : Int) (hnz : ¬ (x = 0 ∧ y = 0 ∧ z = 0)) (p0 : B32 x) (p1 : B32 y) (p2 : B32 z) :
    ∃ u v t : Int, unitT x y z = .tuple #[.agg #[.int .i32 u, .int .i32 v, .int .i32 t], .bool true] ∧ B32 u ∧ B32 v ∧ B32 t ∧
      1152921504606846976 - 8589934592 ≤ u * u + v * v + t * t ∧ u * u + v * v + t * t ≤ 1152921504606846976 + 8589934592 ∧ (x = 0 → u = 0) ∧ (x = y → u = v) ∧ (x < 0 → u ≤ 0) ∧ (0 ≤ x → 0 ≤ u) := by
  obtain ⟨X, Y, Z, hd, hf, hX, hY, hZ⟩ := dbl_end 33 x y z (by omega) p0 p1 p2 (by rw [Nat.sub_self, Nat.pow_zero]; omega)
  obtain ⟨c, hc, hd2⟩ := dbl_scale 33 x y z
  rw [hd] at hd2
  simp only [Prod.mk.injEq] at hd2
  obtain ⟨e1, e2, e3⟩ := hd2
  obtain ⟨hs, hs2⟩ := sqs_three X Y Z hX hY hZ
  have hL := sqrtS_spec (sqs [X, Y, Z] 0) hs2
  have hlen : lengthS [X, Y, Z] = sqrtS (sqs [X, Y, Z] 0) := rfl
  rw [← hlen] at hL
  rw [unit_yes hnz hd]
  obtain ⟨L, hLd⟩ : ∃ L, lengthS [X, Y, Z] = L := ⟨_, rfl⟩
  rw [hLd] at hL ⊢
  have l1 : (L : Int) * L ≤ X * X + Y * Y + Z * Z := by
    have h := hL.1
    have h2 : ((L * L : Nat) : Int) = (L : Int) * L := by simp
    rw [← hs, ← h2]; omega
  have l2 : X * X + Y * Y + Z * Z < ((L : Int) + 1) * ((L : Int) + 1) := by
    have h := hL.2
    have h2 : (((L + 1) * (L + 1) : Nat) : Int) = ((L : Int) + 1) * ((L : Int) + 1) := by simp
    rw [← hs, ← h2]; omega
  have n1 := sq_nonneg' X
  have n2 := sq_nonneg' Y
  have n3 := sq_nonneg' Z
  have hXL := abs_le_of_sq X L _ (by omega) l2
  have hYL := abs_le_of_sq Y L _ (by omega) l2
  have hZL := abs_le_of_sq Z L _ (by omega) l2
  have hL30 : 1073741824 ≤ L := by
    unfold far3 farP at hf
    simp at hf
    omega
  obtain ⟨ru, eu, bu, su, gu1, gu2, gu3⟩ := over_near (1073741824 * X) L (by omega) (by omega)
  obtain ⟨rv, ev, bv, sv, -⟩ := over_near (1073741824 * Y) L (by omega) (by omega)
  obtain ⟨rt, et, bt, st, -⟩ := over_near (1073741824 * Z) L (by omega) (by omega)
  have w1 : unitN L X = overS (1073741824 * X) L := wrap32_in su
  have w2 : unitN L Y = overS (1073741824 * Y) L := wrap32_in sv
  have w3 : unitN L Z = overS (1073741824 * Z) L := wrap32_in st
  have hsum := unit_sum X Y Z L _ rfl l1 l2 hL30 hXL hYL hZL _ _ _ ru rv rt eu ev et bu bv bt
  refine ⟨_, _, _, rfl, ?_, ?_, ?_, ?_, ?_, ?_, ?_, ?_, ?_⟩
  · rw [w1]; unfold B32; omega
  · rw [w2]; unfold B32; omega
  · rw [w3]; unfold B32; omega
  · rw [w1, w2, w3]; exact hsum.1
  · rw [w1, w2, w3]; exact hsum.2
  · rintro rfl; rw [w1]; exact gu3 (by rw [e1]; simp)
  · rintro rfl; rw [e1, e2]
  · intro h
    rw [w1]
    refine gu1 ?_
    have : X < 0 := by rw [e1]; exact Int.mul_neg_of_pos_of_neg hc h
    omega
  · intro h
    rw [w1]
    refine gu2 ?_
    have : 0 ≤ X := by rw [e1]; exact Int.mul_nonneg (by omega) h
    omega

end Go.Proofs.YtpdpcdifnlellaaGreat
