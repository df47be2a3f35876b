/- Package small: what is unpacked: the parts of a word, a part's number back. -/
import Derived.Test.YtnabfimammojhaaSmall4
import Derived.Test.YtnabfimammojhaaUnitMath
namespace Go.Proofs.Ytnabfimammojhaa
open Go.ChangeShapes Go.WideShapes Go.ChangeAt Go.RowKit Go.Shelf
set_option linter.unusedVariables false

def w4 : List Int := [2, 10, 10, 10]
def pa (x k : Nat) : Int := partAt x [2, 10, 10, 10] k
theorem right4B : rightB [2, 10, 10, 10] = true := by decide
theorem split4 (x : Nat) : splitL x [2, 10, 10, 10] = [pa x 0, pa x 1, pa x 2, pa x 3] := by
  unfold splitL; rw [if_pos right4B]; rfl
theorem getS_lt (x : Nat) (a n : Int) : getS x a n < 2 ^ n.toNat := by
  unfold getS; split
  · exact Nat.mod_lt _ (Nat.two_pow_pos _)
  · exact Nat.two_pow_pos _
theorem pa_b (x : Nat) : (0 ≤ pa x 0 ∧ pa x 0 < 4) ∧ (0 ≤ pa x 1 ∧ pa x 1 < 1024) ∧ (0 ≤ pa x 2 ∧ pa x 2 < 1024) ∧ (0 ≤ pa x 3 ∧ pa x 3 < 1024) := by
  have h0 := getS_lt x (leftAt [2, 10, 10, 10] 1) 2
  have h1 := getS_lt x (leftAt [2, 10, 10, 10] 2) 10
  have h2 := getS_lt x (leftAt [2, 10, 10, 10] 3) 10
  have h3 := getS_lt x (leftAt [2, 10, 10, 10] 4) 10
  have e0 : (2 : Nat) ^ (2 : Int).toNat = 4 := by decide
  have e1 : (2 : Nat) ^ (10 : Int).toNat = 1024 := by decide
  rw [e0] at h0
  rw [e1] at h1 h2 h3
  have q0 : pa x 0 = (getS x (leftAt [2, 10, 10, 10] 1) 2 : Nat) := rfl
  have q1 : pa x 1 = (getS x (leftAt [2, 10, 10, 10] 2) 10 : Nat) := rfl
  have q2 : pa x 2 = (getS x (leftAt [2, 10, 10, 10] 3) 10 : Nat) := rfl
  have q3 : pa x 3 = (getS x (leftAt [2, 10, 10, 10] 4) 10 : Nat) := rfl
  omega

/-- A part, of its number. -/
def yS (n : Int) : Int := overS ((n - 512) * 759250125) 511
theorem yS_b (n : Int) (h1 : 1 ≤ n) (h2 : n ≤ 1023) : -759250125 ≤ yS n ∧ yS n ≤ 759250125 := by
  have hb : ((n - 512) * 759250125).natAbs ≤ 511 * 759250125 := by omega
  have h := over_abs ((n - 512) * 759250125) 511 (by omega) (by omega)
  have hm := qn_mono ((n - 512) * 759250125).natAbs (511 * 759250125) 511 (by omega) hb
  have hq : qn (511 * 759250125) 511 = 759250125 := by decide
  have e : (overS ((n - 512) * 759250125) 511).natAbs ≤ 759250125 := by
    have e2 : overS ((n - 512) * 759250125) ((511 : Nat) : Int) = overS ((n - 512) * 759250125) 511 := rfl
    rw [e2] at h
    omega
  unfold yS
  omega

/-- Four places, out the one that is left out. -/
def unL (o : Nat) (v a b c : Int) : List Int := if o = 0 then [v, a, b, c] else if o = 1 then [a, v, b, c] else if o = 2 then [a, b, v, c] else [a, b, c, v]
theorem unL_set (o : Nat) (ho : o < 4) (v u a b c : Int) : (unL o u a b c).set o v = unL o v a b c := by
  obtain rfl | rfl | rfl | rfl : o = 0 ∨ o = 1 ∨ o = 2 ∨ o = 3 := by omega
  all_goals rfl
theorem unL_len (o : Nat) (v a b c : Int) : (unL o v a b c).length = 4 := by unfold unL; (repeat' split) <;> rfl
/-- What the array has when pre has come. -/
def pL (Y : Nat → Int) : List (Fin 4) → Nat → List Int → List Int
  | [], _, l => l
  | i :: r, j, l => pL Y r (j + 1) (l.set i.val (Y j))
theorem pL_snoc (Y : Nat → Int) (x : Fin 4) : ∀ (pre : List (Fin 4)) (j : Nat) (l : List Int), pL Y (pre ++ [x]) j l = (pL Y pre j l).set x.val (Y (j + pre.length))
  | [], j, l => rfl
  | i :: r, j, l => by
    show pL Y (r ++ [x]) (j + 1) _ = _
    rw [pL_snoc Y x r (j + 1)]
    show (pL Y r (j + 1) _).set _ _ = (pL Y r (j + 1) _).set _ _
    rw [List.length_cons, Nat.add_comm r.length 1, Nat.add_assoc]
theorem pL_len (Y : Nat → Int) : ∀ (pre : List (Fin 4)) (j : Nat) (l : List Int), (pL Y pre j l).length = l.length
  | [], j, l => rfl
  | i :: r, j, l => by show (pL Y r (j + 1) _).length = _; rw [pL_len Y r, List.length_set]
theorem pL_all (Y : Nat → Int) (o : Nat) (ho : o < 4) : pL Y (oth o 4) 1 [0, 0, 0, 0] = unL o 0 (Y 1) (Y 2) (Y 3) := by
  obtain rfl | rfl | rfl | rfl : o = 0 ∨ o = 1 ∨ o = 2 ∨ o = 3 := by omega
  all_goals rfl

def sq3 (a b c : Int) : Int := yS a * yS a + yS b * yS b + yS c * yS c
theorem sq_bd (y : Int) (h1 : -759250125 ≤ y) (h2 : y ≤ 759250125) : 0 ≤ y * y ∧ y * y ≤ 576460752312515625 := by
  have h := Int.mul_nonneg (show 0 ≤ 759250125 - y by omega) (show 0 ≤ 759250125 + y by omega)
  have e : (759250125 - y) * (759250125 + y) = 576460752312515625 - y * y := by grind
  rw [e] at h
  have h0 : 0 ≤ y * y := by rcases Int.le_total 0 y with k | k
                            · exact Int.mul_nonneg k k
                            · exact Int.mul_nonneg_of_nonpos_of_nonpos k k
  omega
def zeroT : Value := .tuple #[.agg #[.int .i32 0, .int .i32 0, .int .i32 0, .int .i32 0], .bool false]
def unT (o : Nat) (a b c : Int) : Value :=
  if a = 0 ∨ b = 0 ∨ c = 0 then zeroT else if 1152921504606846976 < sq3 a b c then zeroT
  else .tuple #[.agg ((unL o (sqrtS (1152921504606846976 - sq3 a b c).toNat : Nat) (yS a) (yS b) (yS c)).map (Value.int .i32)).toArray, .bool true]
def unpackT (x : Nat) : Value := unT (pa x 0).toNat (pa x 1) (pa x 2) (pa x 3)

/-- The squares of the four. -/
theorem sqs_unL (o : Nat) (ho : o < 4) (a b c : Int) (ha : -759250125 ≤ a ∧ a ≤ 759250125) (hb : -759250125 ≤ b ∧ b ≤ 759250125) (hc : -759250125 ≤ c ∧ c ≤ 759250125) :
    ((sqs (unL o 0 a b c) 0 : Nat) : Int) = a * a + b * b + c * c := by
  have h1 := sq_bd a ha.1 ha.2
  have h2 := sq_bd b hb.1 hb.2
  have h3 := sq_bd c hc.1 hc.2
  have B : ∀ n : Int, -759250125 ≤ n ∧ n ≤ 759250125 → B32 n := fun n h => ⟨by omega, by omega⟩
  have z : B32 0 := B 0 (by omega)
  obtain rfl | rfl | rfl | rfl : o = 0 ∨ o = 1 ∨ o = 2 ∨ o = 3 := by omega
  · rw [show unL 0 0 a b c = [0, a, b, c] from rfl, (sqs4 0 a b c z (B a ha) (B b hb) (B c hc)).1, if_pos (by omega)]; omega
  · rw [show unL 1 0 a b c = [a, 0, b, c] from rfl, (sqs4 a 0 b c (B a ha) z (B b hb) (B c hc)).1, if_pos (by omega)]; omega
  · rw [show unL 2 0 a b c = [a, b, 0, c] from rfl, (sqs4 a b 0 c (B a ha) (B b hb) z (B c hc)).1, if_pos (by omega)]; omega
  · rw [show unL 3 0 a b c = [a, b, c, 0] from rfl, (sqs4 a b c 0 (B a ha) (B b hb) (B c hc) z).1, if_pos (by omega)]; omega

end Go.Proofs.Ytnabfimammojhaa
