/- Package vec and its reference: contracts. -/
import Derived.Test.YticfolcpnkkidaaFixRef
import Derived.Test.YticfolcpnkkidaaRoot
import Derived.Test.YticfolcpnkkidaaRegion
namespace Go.Proofs.Yticfolcpnkkidaa
open Go.ChangeShapes Go.WideShapes Go.ChangeAt Go.RowKit
set_option linter.unusedVariables false

/-- A number of 32 bits. -/
def B32 (n : Int) : Prop := -2147483648 ≤ n ∧ n ≤ 2147483647
/-- Three numbers as a value. -/
def v3 (x y z : Int) : Value := .agg #[.int .i32 x, .int .i32 y, .int .i32 z]

def sel (i : Nat) (x y z : Int) : Int := if i = 0 then x else if i = 1 then y else z
theorem box6 (w : World) (T : TypeId) (x y z a b c : Value) : (w.alloc (.cells #[x, y, z, a, b, c] T)).cell? ⟨w.heap.size, 0, none⟩ = some x ∧ (w.alloc (.cells #[x, y, z, a, b, c] T)).cell? ⟨w.heap.size, 1, none⟩ = some y ∧ (w.alloc (.cells #[x, y, z, a, b, c] T)).cell? ⟨w.heap.size, 2, none⟩ = some z ∧ (w.alloc (.cells #[x, y, z, a, b, c] T)).cell? ⟨w.heap.size, 3, none⟩ = some a ∧ (w.alloc (.cells #[x, y, z, a, b, c] T)).cell? ⟨w.heap.size, 4, none⟩ = some b ∧ (w.alloc (.cells #[x, y, z, a, b, c] T)).cell? ⟨w.heap.size, 5, none⟩ = some c := by simp

theorem sel_b (i : Nat) (x y z : Int) (p0 : B32 x) (p1 : B32 y) (p2 : B32 z) : B32 (sel i x y z) := by
  unfold sel; split
  · exact p0
  · split
    · exact p1
    · exact p2
theorem box6_sel (w : World) (T : TypeId) (x y z a b c : Int) (i j : Nat) (hi : i < 3) (hj : j < 3) : (w.alloc (.cells #[.int .i32 x, .int .i32 y, .int .i32 z, .int .i32 a, .int .i32 b, .int .i32 c] T)).cell? ⟨w.heap.size, i, none⟩ = some (.int .i32 (sel i x y z)) ∧ (w.alloc (.cells #[.int .i32 x, .int .i32 y, .int .i32 z, .int .i32 a, .int .i32 b, .int .i32 c] T)).cell? ⟨w.heap.size, 3 + j, none⟩ = some (.int .i32 (sel j a b c)) := by
  obtain ⟨c0, c1, c2, c3, c4, c5⟩ := box6 w T (.int .i32 x) (.int .i32 y) (.int .i32 z) (.int .i32 a) (.int .i32 b) (.int .i32 c)
  constructor
  · obtain rfl | rfl | rfl : i = 0 ∨ i = 1 ∨ i = 2 := by omega
    · exact c0
    · exact c1
    · exact c2
  · obtain rfl | rfl | rfl : j = 0 ∨ j = 1 ∨ j = 2 := by omega
    · exact c3
    · exact c4
    · exact c5
theorem round_bd (n f : Int) (h1 : -9223372036854775808 ≤ n) (h2 : n ≤ 9223372036854775807) : -9223372036854775808 ≤ roundS n f ∧ roundS n f ≤ 9223372036854775807 := over_bd n _ h1 h2

theorem box4_sel (w : World) (T : TypeId) (x y z k : Int) (i : Nat) (hi : i < 3) : (w.alloc (.cells #[.int .i32 x, .int .i32 y, .int .i32 z, .int .i32 k] T)).cell? ⟨w.heap.size, i, none⟩ = some (.int .i32 (sel i x y z)) ∧ (w.alloc (.cells #[.int .i32 x, .int .i32 y, .int .i32 z, .int .i32 k] T)).cell? ⟨w.heap.size, 3, none⟩ = some (.int .i32 k) := by
  constructor
  · obtain rfl | rfl | rfl : i = 0 ∨ i = 1 ∨ i = 2 := by omega
    all_goals simp [sel]
  · simp

/-- A part of the vector that stands upright on both. -/
def crossN (x y z a b c : Int) (i : Nat) : Int := roundS (sel ((i + 1) % 3) x y z * sel ((i + 2) % 3) a b c) 16 - roundS (sel ((i + 2) % 3) x y z * sel ((i + 1) % 3) a b c) 16
theorem round16_bd (X Y : Int) (hX : B32 X) (hY : B32 Y) : -70368744177665 ≤ roundS (X * Y) 16 ∧ roundS (X * Y) 16 ≤ 70368744177665 := by
  obtain ⟨m1, m2⟩ := mul_bd X Y hX.1 hX.2 hY.1 hY.2
  have hp : pow2 (bnd 16 62) = 65536 := by decide +kernel
  unfold roundS overS
  rw [hp, if_neg (by omega)]
  have hq : qn (X * Y).natAbs (65536 : Int).natAbs ≤ 70368744177665 := by
    unfold qn
    have : (65536 : Int).natAbs = 65536 := rfl
    rw [this]
    split <;> omega
  split
  · omega
  · split <;> omega
theorem cross_bd (x y z a b c : Int) (i : Nat) (p0 : B32 x) (p1 : B32 y) (p2 : B32 z) (q0 : B32 a) (q1 : B32 b) (q2 : B32 c) : -9223372036854775808 ≤ crossN x y z a b c i ∧ crossN x y z a b c i ≤ 9223372036854775807 := by
  have h1 := round16_bd _ _ (sel_b ((i + 1) % 3) x y z p0 p1 p2) (sel_b ((i + 2) % 3) a b c q0 q1 q2)
  have h2 := round16_bd _ _ (sel_b ((i + 2) % 3) x y z p0 p1 p2) (sel_b ((i + 1) % 3) a b c q0 q1 q2)
  unfold crossN
  omega

end Go.Proofs.Yticfolcpnkkidaa
