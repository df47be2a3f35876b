/- Package vec and its reference: the direction of a vector. -/
import Derived.Test.YtpdpcdifnlellaaGreatVec6
import Derived.Handy
namespace Go.Proofs.YtpdpcdifnlellaaGreat
open Go.ChangeShapes Go.WideShapes Go.ChangeAt Go.RowKit
set_option maxRecDepth 100000
set_option linter.unusedVariables false

def farP (n : Int) : Bool := decide (1073741824 ≤ n ∨ n ≤ -1073741824)
def far3 (x y z : Int) : Bool := farP x || farP y || farP z
def dbl : Nat → Int → Int → Int → Int × Int × Int
  | 0, x, y, z => (x, y, z)
  | n + 1, x, y, z => if far3 x y z = true then (x, y, z) else dbl n (2 * x) (2 * y) (2 * z)
theorem dbl_far (n : Nat) (x y z : Int) (h : far3 x y z = true) : dbl n x y z = (x, y, z) := by
  cases n with
  | zero => rfl
  | succ n => exact if_pos h
theorem dbl_near (n : Nat) (x y z : Int) (h : ¬ far3 x y z = true) : dbl (n + 1) x y z = dbl n (2 * x) (2 * y) (2 * z) := if_neg h
/-- A direction's part. -/
def unitN (L X : Int) : Int := wrap32 (overS (1073741824 * X) L)
def unitL (x y z : Int) : Int := (lengthS [(dbl 33 x y z).1, (dbl 33 x y z).2.1, (dbl 33 x y z).2.2] : Nat)
def unitV (x y z : Int) : Value := .agg #[.int .i32 (unitN (unitL x y z) (dbl 33 x y z).1), .int .i32 (unitN (unitL x y z) (dbl 33 x y z).2.1), .int .i32 (unitN (unitL x y z) (dbl 33 x y z).2.2)]
def unitT (x y z : Int) : Value := if x = 0 ∧ y = 0 ∧ z = 0 then .tuple #[.agg #[.int .i32 0, .int .i32 0, .int .i32 0], .bool false] else .tuple #[unitV x y z, .bool true]

theorem rfar_one (n : Int) (w : World) :
    Calls Tryz.prog 52 #[.int .i32 n] w fun e w' => e = .returned (.bool (farP n)) ∧ w' = w := by
  by_cases h1 : 1073741824 ≤ n
  · have e := hid (show farP n = true by unfold farP; simp; omega)
    go_enter Tryz.func52, Tryz.ntmps52
    go_wp2_with fail
    go_ret
    exact ⟨ret_bool (by rw [e.out]), rfl⟩
  by_cases h2 : n ≤ -1073741824
  · have e := hid (show farP n = true by unfold farP; simp; omega)
    go_enter Tryz.func52, Tryz.ntmps52
    go_wp2_with fail
    go_ret
    exact ⟨ret_bool (by rw [e.out]), rfl⟩
  · have e := hid (show farP n = false by unfold farP; simp; omega)
    go_enter Tryz.func52, Tryz.ntmps52
    go_wp2_with fail
    go_ret
    exact ⟨ret_bool (by rw [e.out]), rfl⟩

theorem farP_no {n : Int} (h1 : ¬ 1073741824 ≤ n) (h2 : ¬ n ≤ -1073741824) : farP n = false := by unfold farP; simp; omega
theorem farP_yes {n : Int} (h : 1073741824 ≤ n ∨ n ≤ -1073741824) : farP n = true := by unfold farP; simpa using h

theorem index3_0 (x y z : Int) (w : World) : (Instr.index 72 (.agg #[.int .i32 x, .int .i32 y, .int .i32 z]) (.int .i64 0)).run Tryz.prog w = .ok (.int .i32 x) w := by rfl
theorem index3_1 (x y z : Int) (w : World) : (Instr.index 72 (.agg #[.int .i32 x, .int .i32 y, .int .i32 z]) (.int .i64 1)).run Tryz.prog w = .ok (.int .i32 y) w := by rfl
theorem index3_2 (x y z : Int) (w : World) : (Instr.index 72 (.agg #[.int .i32 x, .int .i32 y, .int .i32 z]) (.int .i64 2)).run Tryz.prog w = .ok (.int .i32 z) w := by rfl

set_option maxHeartbeats 1000000 in
theorem great_any (x y z : Int) (w : World) :
    Calls Tryz.prog 43 #[.agg #[.int .i32 x, .int .i32 y, .int .i32 z]] w fun e w' => e = .returned (.bool (far3 x y z)) ∧ Below w.heap.size w w' := by
  have hb := (Below.refl w.heap.size w).alloc (Nat.le_refl _) (.cells #[.int .i32 x, .int .i32 y, .int .i32 z] 72)
  have i0 := fun v => index3_0 x y z v
  have i1 := fun v => index3_1 x y z v
  have i2 := fun v => index3_2 x y z v
  by_cases a1 : 1073741824 ≤ x
  · have e := hid (show far3 x y z = true by unfold far3; rw [farP_yes (Or.inl a1)]; rfl)
    go_enter Tryz.func43, Tryz.ntmps43
    go_wp2_with fail
    go_rounds 4
    all_goals go_ret
    all_goals exact ⟨ret_bool (by rw [e.out]), hb⟩
  by_cases a2 : x ≤ -1073741824
  · have e := hid (show far3 x y z = true by unfold far3; rw [farP_yes (Or.inr a2)]; rfl)
    go_enter Tryz.func43, Tryz.ntmps43
    go_wp2_with fail
    go_rounds 4
    all_goals go_ret
    all_goals exact ⟨ret_bool (by rw [e.out]), hb⟩
  by_cases a3 : 1073741824 ≤ y
  · have e := hid (show far3 x y z = true by unfold far3; rw [farP_yes (n := y) (Or.inl a3)]; simp)
    go_enter Tryz.func43, Tryz.ntmps43
    go_wp2_with fail
    go_rounds 4
    all_goals go_ret
    all_goals exact ⟨ret_bool (by rw [e.out]), hb⟩
  by_cases a4 : y ≤ -1073741824
  · have e := hid (show far3 x y z = true by unfold far3; rw [farP_yes (n := y) (Or.inr a4)]; simp)
    go_enter Tryz.func43, Tryz.ntmps43
    go_wp2_with fail
    go_rounds 4
    all_goals go_ret
    all_goals exact ⟨ret_bool (by rw [e.out]), hb⟩
  by_cases a5 : 1073741824 ≤ z
  · have e := hid (show far3 x y z = true by unfold far3; rw [farP_yes (n := z) (Or.inl a5)]; simp)
    go_enter Tryz.func43, Tryz.ntmps43
    go_wp2_with fail
    go_rounds 4
    all_goals go_ret
    all_goals exact ⟨ret_bool (by rw [e.out]), hb⟩
  by_cases a6 : z ≤ -1073741824
  · have e := hid (show far3 x y z = true by unfold far3; rw [farP_yes (n := z) (Or.inr a6)]; simp)
    go_enter Tryz.func43, Tryz.ntmps43
    go_wp2_with fail
    go_rounds 4
    all_goals go_ret
    all_goals exact ⟨ret_bool (by rw [e.out]), hb⟩
  · have e := hid (show far3 x y z = false by unfold far3; rw [farP_no a1 a2, farP_no a3 a4, farP_no a5 a6]; rfl)
    go_enter Tryz.func43, Tryz.ntmps43
    go_wp2_with fail
    go_rounds 4
    all_goals go_ret
    all_goals exact ⟨ret_bool (by rw [e.out]), hb⟩

end Go.Proofs.YtpdpcdifnlellaaGreat
