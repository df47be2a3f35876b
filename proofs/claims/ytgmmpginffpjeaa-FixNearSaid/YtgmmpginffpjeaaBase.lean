/- Small helpers: facts kept from the walk, worlds below, results. -/
import Derived.Test.YtgmmpginffpjeaaRows
import Derived.WalkKit
import Derived.ProofKit
import Derived.OpenShut
import Derived.Below
import Derived.WalkSmall
import Derived.Outline
import Derived.RegionTactic
import Derived.BigQuiet
import Derived.Deep.QuietTactic
namespace Go.Proofs.Ytgmmpginffpjeaa
open Go.ChangeShapes Go.WideShapes Go.ChangeAt Go.RowKit

theorem hid {p : Prop} (h : p) : Go.RowKit.Hid p := h
theorem ret_int {k : IntKind} {a b : Int} (h : a = b) : Ending.returned (.int k a) = .returned (.int k b) := by rw [h]
theorem ret_bool {a b : Bool} (h : a = b) : Ending.returned (.bool a) = .returned (.bool b) := by rw [h]
theorem balloc {B : Nat} {a w : World} (h : Below B a w) (hB : B ≤ a.heap.size) (o : Obj) : Below B a (w.alloc o) := h.alloc (Nat.le_trans hB h.size) o
theorem bdrewN {B : Nat} {a w : World} (h : Below B a w) (k : Nat) : Below B a (w.drewN k) := below_drewN h k
theorem bthen {a b c : World} (h : Below a.heap.size a b) (k : Below b.heap.size b c) : Below a.heap.size a c := h.trans (k.mono h.size)
theorem bquiet {a b : World} (h : ∃ k, b = a.drewN k) : Below a.heap.size a b := by obtain ⟨k, rfl⟩ := h; exact below_drewN (Below.refl _ _) k

theorem cell_new (w : World) (b : Nat) (hb : b = w.heap.size) (c0 : Value) (T : TypeId) : (w.alloc (.cells #[c0] T)).cell? ⟨b, 0, none⟩ = some c0 := by subst hb; simp
theorem cell_new2 (w : World) (b : Nat) (hb : b = w.heap.size) (c0 c1 : Value) (T : TypeId) : (w.alloc (.cells #[c0, c1] T)).cell? ⟨b, 0, none⟩ = some c0 ∧ (w.alloc (.cells #[c0, c1] T)).cell? ⟨b, 1, none⟩ = some c1 := by subst hb; simp

end Go.Proofs.Ytgmmpginffpjeaa
