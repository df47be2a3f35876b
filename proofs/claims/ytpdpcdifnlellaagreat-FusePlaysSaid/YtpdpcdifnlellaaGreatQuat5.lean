/- Package quat: Mul. -/
import Derived.Test.YtpdpcdifnlellaaGreatQuat4s
namespace Go.Proofs.YtpdpcdifnlellaaGreat
open Go.ChangeShapes Go.WideShapes Go.ChangeAt Go.RowKit
set_option maxRecDepth 100000
set_option linter.unusedVariables false

/-- Which part of the second one, and its sign. -/
def atN (i j : Nat) : Nat := if i = 0 then j else if i = 1 then (if j = 0 then 1 else if j = 1 then 0 else if j = 2 then 3 else 2) else if i = 2 then (if j = 0 then 2 else if j = 1 then 3 else if j = 2 then 0 else 1) else 3 - j
def sgN (i j : Nat) : Int := if i = 0 then (if j = 0 then 1 else -1) else if i = 1 then (if j = 3 then -1 else 1) else if i = 2 then (if j = 1 then -1 else 1) else (if j = 2 then -1 else 1)
theorem atN_lt (i j : Nat) (hi : i < 4) (hj : j < 4) : atN i j < 4 := by
  obtain rfl | rfl | rfl | rfl : i = 0 ∨ i = 1 ∨ i = 2 ∨ i = 3 := by omega
  all_goals obtain rfl | rfl | rfl | rfl : j = 0 ∨ j = 1 ∨ j = 2 ∨ j = 3 := by omega
  all_goals decide
def tbl : List Int := [0, 1, 1, -1, 2, -1, 3, -1, 1, 1, 0, 1, 3, 1, 2, -1, 2, 1, 3, -1, 0, 1, 1, 1, 3, 1, 2, 1, 1, -1, 0, 1]
theorem tbl_get (i j : Nat) (hi : i < 4) (hj : j < 4) : tbl.getD (8 * i + 2 * j) 0 = (atN i j : Int) ∧ tbl.getD (8 * i + 2 * j + 1) 0 = sgN i j := by
  obtain rfl | rfl | rfl | rfl : i = 0 ∨ i = 1 ∨ i = 2 ∨ i = 3 := by omega
  all_goals obtain rfl | rfl | rfl | rfl : j = 0 ∨ j = 1 ∨ j = 2 ∨ j = 3 := by omega
  all_goals exact ⟨rfl, rfl⟩
def termN (x y z t a b c d : Int) (i j : Nat) : Int := sgN i j * roundS (sel4 j x y z t * sel4 (atN i j) a b c d) 30
def partN (x y z t a b c d : Int) (i : Nat) : Nat → Int
  | 0 => 0
  | j + 1 => partN x y z t a b c d i j + termN x y z t a b c d i j
theorem part_all (x y z t a b c d : Int) : partN x y z t a b c d 0 4 = mulW x y z t a b c d ∧ partN x y z t a b c d 1 4 = mulX x y z t a b c d ∧ partN x y z t a b c d 2 4 = mulY x y z t a b c d ∧ partN x y z t a b c d 3 4 = mulZ x y z t a b c d := by
  have h0 : partN x y z t a b c d 0 4 = 0 + 1 * roundS (x * a) 30 + -1 * roundS (y * b) 30 + -1 * roundS (z * c) 30 + -1 * roundS (t * d) 30 := rfl
  have h1 : partN x y z t a b c d 1 4 = 0 + 1 * roundS (x * b) 30 + 1 * roundS (y * a) 30 + 1 * roundS (z * d) 30 + -1 * roundS (t * c) 30 := rfl
  have h2 : partN x y z t a b c d 2 4 = 0 + 1 * roundS (x * c) 30 + -1 * roundS (y * d) 30 + 1 * roundS (z * a) 30 + 1 * roundS (t * b) 30 := rfl
  have h3 : partN x y z t a b c d 3 4 = 0 + 1 * roundS (x * d) 30 + 1 * roundS (y * c) 30 + -1 * roundS (z * b) 30 + 1 * roundS (t * a) 30 := rfl
  rw [h0, h1, h2, h3]; unfold mulW mulX mulY mulZ
  refine ⟨?_, ?_, ?_, ?_⟩ <;> omega
theorem sgN_two (i j : Nat) : sgN i j = 1 ∨ sgN i j = -1 := by unfold sgN; split <;> (try split) <;> (try split) <;> (try split) <;> simp
theorem term_b (x y z t a b c d : Int) (p0 : B32 x) (p1 : B32 y) (p2 : B32 z) (p3 : B32 t) (q0 : B32 a) (q1 : B32 b) (q2 : B32 c) (q3 : B32 d) (i j : Nat) : -4294967297 ≤ termN x y z t a b c d i j ∧ termN x y z t a b c d i j ≤ 4294967297 := by
  have h := round30_bd _ _ (sel4_b j p0 p1 p2 p3) (sel4_b (atN i j) q0 q1 q2 q3)
  unfold termN
  rcases sgN_two i j with e | e <;> rw [e] <;> omega
theorem part_b (x y z t a b c d : Int) (p0 : B32 x) (p1 : B32 y) (p2 : B32 z) (p3 : B32 t) (q0 : B32 a) (q1 : B32 b) (q2 : B32 c) (q3 : B32 d) (i : Nat) : ∀ k : Nat, -(4294967297 * (k : Int)) ≤ partN x y z t a b c d i k ∧ partN x y z t a b c d i k ≤ 4294967297 * (k : Int)
  | 0 => by simp [partN]
  | k + 1 => by
    have ih := part_b x y z t a b c d p0 p1 p2 p3 q0 q1 q2 q3 i k
    have h := term_b x y z t a b c d p0 p1 p2 p3 q0 q1 q2 q3 i k
    simp only [partN]
    omega
/-- The four numbers, when the first i are whole and the next one has j terms. -/
def nrow (x y z t a b c d : Int) (i j : Nat) : List Int := (List.range 4).map fun m => if m < i then partN x y z t a b c d m 4 else if m = i then partN x y z t a b c d i j else 0
theorem nrow_get (x y z t a b c d : Int) (i j : Nat) (h : i < 4) : (nrow x y z t a b c d i j).getD i 0 = partN x y z t a b c d i j := by
  simp [nrow, h]
theorem nrow_set (x y z t a b c d : Int) (i j : Nat) (h : i < 4) : (nrow x y z t a b c d i j).set i (partN x y z t a b c d i (j + 1)) = nrow x y z t a b c d i (j + 1) := by
  obtain rfl | rfl | rfl | rfl : i = 0 ∨ i = 1 ∨ i = 2 ∨ i = 3 := by omega
  all_goals simp [nrow, List.range_succ]
theorem nrow_next (x y z t a b c d : Int) (i : Nat) (h : i < 4) : nrow x y z t a b c d i 4 = nrow x y z t a b c d (i + 1) 0 := by
  obtain rfl | rfl | rfl | rfl : i = 0 ∨ i = 1 ∨ i = 2 ∨ i = 3 := by omega
  all_goals simp [nrow, List.range_succ, partN]
theorem nrow_start (x y z t a b c d : Int) : nrow x y z t a b c d 0 0 = [0, 0, 0, 0] := by simp [nrow, List.range_succ, partN]
theorem nrow_end (x y z t a b c d : Int) : nrow x y z t a b c d 4 0 = [mulW x y z t a b c d, mulX x y z t a b c d, mulY x y z t a b c d, mulZ x y z t a b c d] := by
  obtain ⟨h0, h1, h2, h3⟩ := part_all x y z t a b c d
  simp [nrow, List.range_succ, h0, h1, h2, h3]

theorem tbl_row (w : World) (T : TypeId) : Row .i64 T (w.alloc (.cells #[.int .i64 0, .int .i64 1, .int .i64 1, .int .i64 (-1), .int .i64 2, .int .i64 (-1), .int .i64 3, .int .i64 (-1), .int .i64 1, .int .i64 1, .int .i64 0, .int .i64 1, .int .i64 3, .int .i64 1, .int .i64 2, .int .i64 (-1), .int .i64 2, .int .i64 1, .int .i64 3, .int .i64 (-1), .int .i64 0, .int .i64 1, .int .i64 1, .int .i64 1, .int .i64 3, .int .i64 1, .int .i64 2, .int .i64 1, .int .i64 1, .int .i64 (-1), .int .i64 0, .int .i64 1] T)) w.heap.size tbl := heap_new _ _ _ rfl

end Go.Proofs.YtpdpcdifnlellaaGreat
