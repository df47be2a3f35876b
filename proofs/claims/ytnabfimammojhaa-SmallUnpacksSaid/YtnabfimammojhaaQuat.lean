/- Package quat and its reference: parts, products, four numbers cut. -/
import Derived.Test.YtnabfimammojhaaVec5
import Derived.Test.YtnabfimammojhaaVec9
namespace Go.Proofs.Ytnabfimammojhaa
open Go.ChangeShapes Go.WideShapes Go.ChangeAt Go.RowKit
set_option linter.unusedVariables false

theorem Row.four {k : IntKind} {E : TypeId} {w : World} {g : Nat} {x y z t : Int} (h : Row k E w g [x, y, z, t]) : w.cell? ⟨g, 0, none⟩ = some (.int k x) ∧ w.cell? ⟨g, 1, none⟩ = some (.int k y) ∧ w.cell? ⟨g, 2, none⟩ = some (.int k z) ∧ w.cell? ⟨g, 3, none⟩ = some (.int k t) ∧ w.frozen? ⟨g, 0, none⟩ = false ∧ w.frozen? ⟨g, 1, none⟩ = false ∧ w.frozen? ⟨g, 2, none⟩ = false ∧ w.frozen? ⟨g, 3, none⟩ = false :=
  ⟨h.cellAt 0 (show 0 < 4 by omega), h.cellAt 1 (show 1 < 4 by omega), h.cellAt 2 (show 2 < 4 by omega), h.cellAt 3 (show 3 < 4 by omega), h.free 0, h.free 1, h.free 2, h.free 3⟩
theorem Row.set4 {k : IntKind} {E : TypeId} {w : World} {g : Nat} {x y z t : Int} (h : Row k E w g [x, y, z, t]) (a b c d : Int) : Row k E ((((w.setCell ⟨g, 0, none⟩ (.int k a)).setCell ⟨g, 1, none⟩ (.int k b)).setCell ⟨g, 2, none⟩ (.int k c)).setCell ⟨g, 3, none⟩ (.int k d)) g [a, b, c, d] := (((h.set 0 a).set 1 b).set 2 c).set 3 d
theorem Row.oth4 {k : IntKind} {E : TypeId} {w : World} {g g' : Nat} {zs : List Int} (h : Row k E w g zs) (hg : g ≠ g') (a b c d : Value) : Row k E ((((w.setCell ⟨g', 0, none⟩ a).setCell ⟨g', 1, none⟩ b).setCell ⟨g', 2, none⟩ c).setCell ⟨g', 3, none⟩ d) g zs :=
  (((h.oth1 hg a).oth1 hg b).oth1 hg c).oth1 hg d
theorem below4 {B : Nat} {w U : World} (hb : Below B w U) (b : Nat) (x y z t : Value) (h : B ≤ b) : Below B w ((((U.setCell ⟨b, 0, none⟩ x).setCell ⟨b, 1, none⟩ y).setCell ⟨b, 2, none⟩ z).setCell ⟨b, 3, none⟩ t) :=
  (((hb.setCell (p := ⟨b, 0, none⟩) h x).setCell (p := ⟨b, 1, none⟩) h y).setCell (p := ⟨b, 2, none⟩) h z).setCell (p := ⟨b, 3, none⟩) h t
theorem kp4 (N : Nat) (X : List Nat) (U : World) (b : Nat) (x y z t : Value) (h : b ∈ X ∨ N ≤ b) : Kp N X U ((((U.setCell ⟨b, 0, none⟩ x).setCell ⟨b, 1, none⟩ y).setCell ⟨b, 2, none⟩ z).setCell ⟨b, 3, none⟩ t) :=
  (Kp.setCell U ⟨b, 0, none⟩ x h).trans ((Kp.setCell _ ⟨b, 1, none⟩ y h).trans ((Kp.setCell _ ⟨b, 2, none⟩ z h).trans (Kp.setCell _ ⟨b, 3, none⟩ t h)))
def sel4 (i : Nat) (x y z t : Int) : Int := if i = 0 then x else if i = 1 then y else if i = 2 then z else t
theorem sel4_b (i : Nat) {x y z t : Int} (p0 : B32 x) (p1 : B32 y) (p2 : B32 z) (p3 : B32 t) : B32 (sel4 i x y z t) := by
  unfold sel4; split
  · exact p0
  · split
    · exact p1
    · split
      · exact p2
      · exact p3
theorem getD4 (i : Nat) (x y z t : Int) (h : i < 4) : [x, y, z, t].getD i 0 = sel4 i x y z t := by
  obtain rfl | rfl | rfl | rfl : i = 0 ∨ i = 1 ∨ i = 2 ∨ i = 3 := by omega
  all_goals rfl

def upto4 (a b c d x y z t : Int) (k : Nat) : List Int := [if 0 < k then a else x, if 1 < k then b else y, if 2 < k then c else z, if 3 < k then d else t]
theorem upto4_get (a b c d x y z t : Int) (k : Nat) (h : k < 4) : (upto4 a b c d x y z t k).getD k 0 = sel4 k x y z t := by
  obtain rfl | rfl | rfl | rfl : k = 0 ∨ k = 1 ∨ k = 2 ∨ k = 3 := by omega
  all_goals simp [upto4, sel4]
theorem upto4_set (a b c d x y z t : Int) (k : Nat) (h : k < 4) : (upto4 a b c d x y z t k).set k (sel4 k a b c d) = upto4 a b c d x y z t (k + 1) := by
  obtain rfl | rfl | rfl | rfl : k = 0 ∨ k = 1 ∨ k = 2 ∨ k = 3 := by omega
  all_goals simp [upto4, sel4]
theorem sel4_map (f : Int → Int) (k : Nat) (x y z t : Int) : sel4 k (f x) (f y) (f z) (f t) = f (sel4 k x y z t) := by
  unfold sel4; split
  · rfl
  · split
    · rfl
    · split <;> rfl
/-- Four numbers, cut, and how many were. -/
def cut4 (x y z t : Int) : Value := .tuple #[.agg #[.int .i32 (clampS x), .int .i32 (clampS y), .int .i32 (clampS z), .int .i32 (clampS t)], .int .i64 (cuts (fun i => sel4 i x y z t) 4)]
def B64 (n : Int) : Prop := -9223372036854775808 ≤ n ∧ n ≤ 9223372036854775807
theorem sel4_b64 (i : Nat) {x y z t : Int} (p0 : B64 x) (p1 : B64 y) (p2 : B64 z) (p3 : B64 t) : B64 (sel4 i x y z t) := by
  unfold sel4; split
  · exact p0
  · split
    · exact p1
    · split
      · exact p2
      · exact p3
theorem rows3q (w : World) (T1 T2 T3 : TypeId) (x y z t : Int) :
    ∃ W, ((w.alloc (.cells #[.int .i64 x, .int .i64 y, .int .i64 z, .int .i64 t] T1)).alloc (.cells #[.int .i32 0, .int .i32 0, .int .i32 0, .int .i32 0] T2)).alloc (.cells #[.int .i32 0, .int .i32 0, .int .i32 0, .int .i32 0] T3) = W ∧ Below w.heap.size w W ∧ w.heap.size + 3 ≤ W.heap.size ∧
    Row .i64 T1 W w.heap.size [x, y, z, t] ∧ Row .i32 T2 W (w.heap.size + 1) [0, 0, 0, 0] ∧ Row .i32 T3 W (w.heap.size + 1 + 1) [0, 0, 0, 0] := by
  refine ⟨_, rfl, (((Below.refl _ _).alloc (Nat.le_refl _) _).alloc (by simp) _).alloc (by simp; omega) _, by simp, ?_, ?_, ?_⟩
  · unfold Row; rw [Below.heap_alloc _ _ _ (by simp; omega), Below.heap_alloc _ _ _ (by simp)]; exact heap_new _ _ _ rfl
  · unfold Row; rw [Below.heap_alloc _ _ _ (by simp)]; exact heap_new _ _ _ (by simp)
  · exact heap_new _ _ _ (by simp)

end Go.Proofs.Ytnabfimammojhaa
