/- Package vec: what is done for each part; sums, differences, multiples. -/
import Derived.Test.YticfolcpnkkidaaVec
import Derived.Test.YticfolcpnkkidaaSlices
import Derived.Test.YticfolcpnkkidaaRegionK
import Derived.Test.YticfolcpnkkidaaRegionB
namespace Go.Proofs.Yticfolcpnkkidaa
open Go.ChangeShapes Go.WideShapes Go.ChangeAt Go.RowKit
set_option linter.unusedVariables false

def vals (n : Nat → Int) (k : Nat) : List Int := [if 0 < k then clampS (n 0) else 0, if 1 < k then clampS (n 1) else 0, if 2 < k then clampS (n 2) else 0]
theorem vals_set (n : Nat → Int) (k : Nat) (h : k < 3) : (vals n k).set k (clampS (n k)) = vals n (k + 1) := by
  obtain rfl | rfl | rfl : k = 0 ∨ k = 1 ∨ k = 2 := by omega
  all_goals simp [vals]
def cuts (n : Nat → Int) : Nat → Nat
  | 0 => 0
  | k + 1 => cuts n k + (if clampB (n k) then 1 else 0)
theorem cuts_le (n : Nat → Int) : ∀ k, cuts n k ≤ k
  | 0 => Nat.le_refl _
  | k + 1 => by have := cuts_le n k; simp only [cuts]; split <;> omega
/-- Three numbers, cut, and how many were. -/
def cut3 (n : Nat → Int) : Value := .tuple #[.agg #[.int .i32 (clampS (n 0)), .int .i32 (clampS (n 1)), .int .i32 (clampS (n 2))], .int .i64 (cuts n 3)]
theorem three {k : Nat} (h : k < 3) : k = 0 ∨ k = 1 ∨ k = 2 := by omega

theorem heap_new (w : World) (o : Obj) (b : Nat) (hb : b = w.heap.size) : (w.alloc o).heap[b]? = some o := by
  subst hb; show (w.heap.push o)[w.heap.size]? = some o; simp
theorem done_start (w : World) (v : Value) (T1 T2 T3 : TypeId) :
    Below w.heap.size w (((w.alloc (.cells #[v] T1)).alloc (.cells #[.int .i32 0, .int .i32 0, .int .i32 0] T2)).alloc (.cells #[.int .i32 0, .int .i32 0, .int .i32 0] T3)) ∧
    Row .i32 T3 (((w.alloc (.cells #[v] T1)).alloc (.cells #[.int .i32 0, .int .i32 0, .int .i32 0] T2)).alloc (.cells #[.int .i32 0, .int .i32 0, .int .i32 0] T3)) (w.heap.size + 1 + 1) [0, 0, 0] ∧
    (((w.alloc (.cells #[v] T1)).alloc (.cells #[.int .i32 0, .int .i32 0, .int .i32 0] T2)).alloc (.cells #[.int .i32 0, .int .i32 0, .int .i32 0] T3)).cell? ⟨w.heap.size, 0, none⟩ = some v ∧
    (((w.alloc (.cells #[v] T1)).alloc (.cells #[.int .i32 0, .int .i32 0, .int .i32 0] T2)).alloc (.cells #[.int .i32 0, .int .i32 0, .int .i32 0] T3)).cell? ⟨w.heap.size + 1, 0, none⟩ = some (.int .i32 0) ∧
    (((w.alloc (.cells #[v] T1)).alloc (.cells #[.int .i32 0, .int .i32 0, .int .i32 0] T2)).alloc (.cells #[.int .i32 0, .int .i32 0, .int .i32 0] T3)).cell? ⟨w.heap.size + 1, 1, none⟩ = some (.int .i32 0) ∧
    (((w.alloc (.cells #[v] T1)).alloc (.cells #[.int .i32 0, .int .i32 0, .int .i32 0] T2)).alloc (.cells #[.int .i32 0, .int .i32 0, .int .i32 0] T3)).cell? ⟨w.heap.size + 1, 2, none⟩ = some (.int .i32 0) ∧
    (((w.alloc (.cells #[v] T1)).alloc (.cells #[.int .i32 0, .int .i32 0, .int .i32 0] T2)).alloc (.cells #[.int .i32 0, .int .i32 0, .int .i32 0] T3)).frozen? ⟨w.heap.size + 1, 0, none⟩ = false ∧
    (((w.alloc (.cells #[v] T1)).alloc (.cells #[.int .i32 0, .int .i32 0, .int .i32 0] T2)).alloc (.cells #[.int .i32 0, .int .i32 0, .int .i32 0] T3)).frozen? ⟨w.heap.size + 1, 1, none⟩ = false ∧
    (((w.alloc (.cells #[v] T1)).alloc (.cells #[.int .i32 0, .int .i32 0, .int .i32 0] T2)).alloc (.cells #[.int .i32 0, .int .i32 0, .int .i32 0] T3)).frozen? ⟨w.heap.size + 1, 2, none⟩ = false := by
  generalize ho1 : Obj.cells #[v] T1 = o1
  generalize ho2 : Obj.cells #[Value.int .i32 0, .int .i32 0, .int .i32 0] T2 = o2
  generalize ho3 : Obj.cells #[Value.int .i32 0, .int .i32 0, .int .i32 0] T3 = o3
  have e1 : (w.alloc o1).heap.size = w.heap.size + 1 := by simp
  have e2 : ((w.alloc o1).alloc o2).heap.size = w.heap.size + 1 + 1 := by simp
  have h1 : (((w.alloc o1).alloc o2).alloc o3).heap[w.heap.size]? = some o1 := by
    rw [Below.heap_alloc _ _ _ (by omega), Below.heap_alloc _ _ _ (by omega)]; exact heap_new _ _ _ rfl
  have h2 : (((w.alloc o1).alloc o2).alloc o3).heap[w.heap.size + 1]? = some o2 := by
    rw [Below.heap_alloc _ _ _ (by omega)]; exact heap_new _ _ _ e1.symm
  have h3 : (((w.alloc o1).alloc o2).alloc o3).heap[w.heap.size + 1 + 1]? = some o3 := heap_new _ _ _ e2.symm
  have hb : Below w.heap.size w (((w.alloc o1).alloc o2).alloc o3) := (((Below.refl _ _).alloc (Nat.le_refl _) _).alloc (by simp) _).alloc (by simp; omega) _
  generalize ((w.alloc o1).alloc o2).alloc o3 = W at *
  subst ho1 ho2 ho3
  exact ⟨hb, h3, by rw [cell_of_row W _ _ _ _ _ h1]; rfl, by rw [cell_of_row W _ _ _ _ _ h2]; rfl, by rw [cell_of_row W _ _ _ _ _ h2]; rfl, by rw [cell_of_row W _ _ _ _ _ h2]; rfl, frozen_of_row W _ _ _ _ h2, frozen_of_row W _ _ _ _ h2, frozen_of_row W _ _ _ _ h2⟩

end Go.Proofs.Yticfolcpnkkidaa
