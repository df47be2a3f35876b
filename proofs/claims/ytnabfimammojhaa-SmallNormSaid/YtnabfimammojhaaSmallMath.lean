/- Stage 12: what is packed and unpacked is near. -/
import Derived.Test.YtnabfimammojhaaSmall5
import Derived.Test.YtnabfimammojhaaVecMath
namespace Go.Proofs.Ytnabfimammojhaa
open Go.ChangeShapes Go.WideShapes Go.ChangeAt Go.RowKit
set_option linter.unusedVariables false

theorem numC_mid {n : Int} (h1 : -511 ≤ n) (h2 : n ≤ 511) : numC n = 512 + n := by unfold numC; rw [if_neg (by omega), if_neg (by omega)]
/-- A part that is not the greatest comes back nearly. -/
theorem part_near (x : Int) (h1 : -759250600 ≤ x) (h2 : x ≤ 759250600) : (1 ≤ numS x ∧ numS x ≤ 1023) ∧ -742907 ≤ yS (numS x) - x ∧ yS (numS x) - x ≤ 742907 := by
  obtain ⟨r, e1, hr, -⟩ := over_near (511 * x) 759250125 (by omega) (by omega)
  have hn : numS x = numC (overS (511 * x) 759250125) := rfl
  have c1 : overS (511 * x) ((759250125 : Nat) : Int) = overS (511 * x) 759250125 := rfl
  rw [c1] at e1
  generalize overS (511 * x) 759250125 = n at *
  have hn2 := numC_mid (n := n) (by omega) (by omega)
  rw [hn, hn2]
  refine ⟨by omega, ?_⟩
  obtain ⟨r2, e2, hr2, -⟩ := over_near ((512 + n - 512) * 759250125) 511 (by omega) (by omega)
  have c2 : overS ((512 + n - 512) * 759250125) ((511 : Nat) : Int) = yS (512 + n) := rfl
  rw [c2] at e2
  omega

theorem sq_0 (a : Int) : 0 ≤ a * a := by
  rcases Int.le_total 0 a with k | k
  · exact Int.mul_nonneg k k
  · exact Int.mul_nonneg_of_nonpos_of_nonpos k k
theorem sq_mono {a b : Int} (h0 : 0 ≤ a) (h : a ≤ b) : a * a ≤ b * b := Int.mul_le_mul h h h0 (by omega)
theorem cs3 (a b c : Int) : (a + b + c) * (a + b + c) ≤ 3 * (a * a + b * b + c * c) := by
  have h1 := sq_0 (a - b)
  have h2 := sq_0 (a - c)
  have h3 := sq_0 (b - c)
  have e1 : (a - b) * (a - b) = a * a - 2 * (a * b) + b * b := by grind
  have e2 : (a - c) * (a - c) = a * a - 2 * (a * c) + c * c := by grind
  have e3 : (b - c) * (b - c) = b * b - 2 * (b * c) + c * c := by grind
  have e : (a + b + c) * (a + b + c) = a * a + b * b + c * c + 2 * (a * b) + 2 * (a * c) + 2 * (b * c) := by grind
  omega
theorem mul_ab {d u a D : Int} (h1 : -D ≤ d) (h2 : d ≤ D) (h3 : -a ≤ u) (h4 : u ≤ a) : -(D * a) ≤ d * u ∧ d * u ≤ D * a := by
  have k1 := Int.mul_nonneg (show 0 ≤ D - d by omega) (show 0 ≤ a + u by omega)
  have k2 := Int.mul_nonneg (show 0 ≤ D + d by omega) (show 0 ≤ a - u by omega)
  have k3 := Int.mul_nonneg (show 0 ≤ D - d by omega) (show 0 ≤ a - u by omega)
  have k4 := Int.mul_nonneg (show 0 ≤ D + d by omega) (show 0 ≤ a + u by omega)
  have e1 : (D - d) * (a + u) = D * a + D * u - d * a - d * u := by grind
  have e2 : (D + d) * (a - u) = D * a - D * u + d * a - d * u := by grind
  have e3 : (D - d) * (a - u) = D * a - D * u - d * a + d * u := by grind
  have e4 : (D + d) * (a + u) = D * a + D * u + d * a + d * u := by grind
  omega

/-- A part and its square, changed a little. -/
theorem sq_near {x y a : Int} (h1 : -742907 ≤ y - x) (h2 : y - x ≤ 742907) (h3 : -a ≤ x) (h4 : x ≤ a) : -(1485814 * a) ≤ y * y - x * x ∧ y * y - x * x ≤ 1485814 * a + 551910810649 := by
  have k := mul_ab (D := 742907) h1 h2 h3 h4
  have k2 := mul_ab (D := 742907) (a := 742907) h1 h2 (by omega) h2
  have k3 := sq_0 (y - x)
  have e : y * y - x * x = 2 * ((y - x) * x) + (y - x) * (y - x) := by grind
  omega

theorem root_near (b T : Int) (R : Nat) (h0 : 536870656 ≤ b) (hT1 : b * b - 2396000000000000 ≤ T) (hT2 : T ≤ b * b + 2396000000000000) (h1 : (R : Int) * R ≤ T) (h2 : T < ((R : Int) + 1) * ((R : Int) + 1)) : -4194304 ≤ b - R ∧ b - R ≤ 4194304 := by
  constructor
  · rcases Int.lt_or_le (b - R) (-4194304) with k | k
    · exfalso
      have m := sq_mono (a := b + 4194305) (b := R) (by omega) (by omega)
      have e : (b + 4194305) * (b + 4194305) = b * b + 8388610 * b + 17592194433025 := by grind
      omega
    · exact k
  · rcases Int.lt_or_le 4194304 (b - R) with k | k
    · exfalso
      have m := sq_mono (a := (R : Int) + 1) (b := b - 4194304) (by omega) (by omega)
      have e : (b - 4194304) * (b - 4194304) = b * b - 8388608 * b + 17592186044416 := by grind
      omega
    · exact k

/-- The greatest part, and three others: all come back nearly. -/
theorem close_core (b u v s : Int) (hu : -b ≤ u ∧ u ≤ b) (hv : -b ≤ v ∧ v ≤ b) (hs : -b ≤ s ∧ s ≤ b) (hN1 : 1152921504606846976 - 1099511627776 ≤ b * b + u * u + v * v + s * s) (hN2 : b * b + u * u + v * v + s * s ≤ 1152921504606846976 + 1099511627776) :
    numS u ≠ 0 ∧ numS v ≠ 0 ∧ numS s ≠ 0 ∧ ¬ 1152921504606846976 < sq3 (numS u) (numS v) (numS s) ∧
    (-742907 ≤ yS (numS u) - u ∧ yS (numS u) - u ≤ 742907) ∧ (-742907 ≤ yS (numS v) - v ∧ yS (numS v) - v ≤ 742907) ∧ (-742907 ≤ yS (numS s) - s ∧ yS (numS s) - s ≤ 742907) ∧
    (-4194304 ≤ b - (sqrtS (1152921504606846976 - sq3 (numS u) (numS v) (numS s)).toNat : Nat) ∧ b - (sqrtS (1152921504606846976 - sq3 (numS u) (numS v) (numS s)).toNat : Nat) ≤ 4194304) := by
  have hb0 : 0 ≤ b := by omega
  -- absolute values
  obtain ⟨au, h1, h2, h3, h4⟩ : ∃ a : Int, 0 ≤ a ∧ a ≤ b ∧ (-a ≤ u ∧ u ≤ a) ∧ a * a = u * u := by
    rcases Int.le_total 0 u with k | k
    · exact ⟨u, k, hu.2, ⟨by omega, by omega⟩, rfl⟩
    · exact ⟨-u, by omega, by omega, ⟨by omega, by omega⟩, by grind⟩
  obtain ⟨av, i1, i2, i3, i4⟩ : ∃ a : Int, 0 ≤ a ∧ a ≤ b ∧ (-a ≤ v ∧ v ≤ a) ∧ a * a = v * v := by
    rcases Int.le_total 0 v with k | k
    · exact ⟨v, k, hv.2, ⟨by omega, by omega⟩, rfl⟩
    · exact ⟨-v, by omega, by omega, ⟨by omega, by omega⟩, by grind⟩
  obtain ⟨ac, j1, j2, j3, j4⟩ : ∃ a : Int, 0 ≤ a ∧ a ≤ b ∧ (-a ≤ s ∧ s ≤ a) ∧ a * a = s * s := by
    rcases Int.le_total 0 s with k | k
    · exact ⟨s, k, hs.2, ⟨by omega, by omega⟩, rfl⟩
    · exact ⟨-s, by omega, by omega, ⟨by omega, by omega⟩, by grind⟩
  have m1 := sq_mono h1 h2
  have m2 := sq_mono i1 i2
  have m3 := sq_mono j1 j2
  have hc := cs3 au av ac
  rw [h4] at m1 hc
  rw [i4] at m2 hc
  rw [j4] at m3 hc
  have n1 := sq_0 u
  have n2 := sq_0 v
  have n3 := sq_0 s
  -- each of the three is below
  have lim : ∀ a : Int, 0 ≤ a → a * a ≤ b * b → b * b + a * a ≤ 1152921504606846976 + 1099511627776 → a ≤ 759250600 := fun a k0 k1 k2 => by
    rcases Int.lt_or_le 759250600 a with k | k
    · have := sq_mono (a := 759250600) (b := a) (by omega) (by omega); omega
    · exact k
  have l1 := lim au h1 (by omega) (by omega)
  have l2 := lim av i1 (by omega) (by omega)
  have l3 := lim ac j1 (by omega) (by omega)
  have hsum : au + av + ac ≤ 1610613504 := by
    rcases Int.lt_or_le 1610613504 (au + av + ac) with k | k
    · have := sq_mono (a := 1610613505) (b := au + av + ac) (by omega) (by omega); omega
    · exact k
  have hbl : 536870656 ≤ b := by
    rcases Int.lt_or_le b 536870656 with k | k
    · have := sq_mono (a := b) (b := 536870655) hb0 (by omega); omega
    · exact k
  have p1 := part_near u (by omega) (by omega)
  have p2 := part_near v (by omega) (by omega)
  have p3 := part_near s (by omega) (by omega)
  have q1 := sq_near p1.2.1 p1.2.2 h3.1 h3.2
  have q2 := sq_near p2.2.1 p2.2.2 i3.1 i3.2
  have q3 := sq_near p3.2.1 p3.2.2 j3.1 j3.2
  have hS : sq3 (numS u) (numS v) (numS s) = yS (numS u) * yS (numS u) + yS (numS v) * yS (numS v) + yS (numS s) * yS (numS s) := rfl
  have hb2 := sq_mono (a := 536870656) (b := b) (by omega) hbl
  have hS0 : ¬ 1152921504606846976 < sq3 (numS u) (numS v) (numS s) := by omega
  refine ⟨by omega, by omega, by omega, hS0, p1.2, p2.2, p3.2, ?_⟩
  have hq := sqrtS_spec (1152921504606846976 - sq3 (numS u) (numS v) (numS s)).toNat (by have := sq_0 (yS (numS u)); have := sq_0 (yS (numS v)); have := sq_0 (yS (numS s)); omega)
  generalize sqrtS (1152921504606846976 - sq3 (numS u) (numS v) (numS s)).toNat = R at *
  have hr1 : (R : Int) * R ≤ 1152921504606846976 - sq3 (numS u) (numS v) (numS s) := by
    have := hq.1
    have e : ((R * R : Nat) : Int) = (R : Int) * R := by simp
    omega
  have hr2 : 1152921504606846976 - sq3 (numS u) (numS v) (numS s) < ((R : Int) + 1) * ((R : Int) + 1) := by
    have := hq.2
    have e : (((R + 1) * (R + 1) : Nat) : Int) = ((R : Int) + 1) * ((R : Int) + 1) := by simp
    omega
  exact root_near b _ R hbl (by omega) (by omega) hr1 hr2

end Go.Proofs.Ytnabfimammojhaa
