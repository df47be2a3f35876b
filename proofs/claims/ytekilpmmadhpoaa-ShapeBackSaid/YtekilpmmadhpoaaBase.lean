/- Small helpers: facts kept from the walk, worlds below, results. -/
import Derived.Test.YtekilpmmadhpoaaRows
import Derived.WalkKit
import Derived.ProofKit
import Derived.OpenShut
import Derived.Below
import Derived.WalkSmall
import Derived.Outline
import Derived.RegionTactic
import Derived.BigQuiet
import Derived.Deep.QuietTactic
namespace Go.Proofs.Ytekilpmmadhpoaa
open Go.ChangeShapes Go.WideShapes Go.ChangeAt Go.RowKit

theorem hid {p : Prop} (h : p) : Go.RowKit.Hid p := h
theorem ret_int {k : IntKind} {a b : Int} (h : a = b) : Ending.returned (.int k a) = .returned (.int k b) := by rw [h]
theorem ret_bool {a b : Bool} (h : a = b) : Ending.returned (.bool a) = .returned (.bool b) := by rw [h]
theorem balloc {B : Nat} {a w : World} (h : Below B a w) (hB : B ≤ a.heap.size) (o : Obj) : Below B a (w.alloc o) := h.alloc (Nat.le_trans hB h.size) o
theorem bdrewN {B : Nat} {a w : World} (h : Below B a w) (k : Nat) : Below B a (w.drewN k) := below_drewN h k
theorem bthen {a b c : World} (h : Below a.heap.size a b) (k : Below b.heap.size b c) : Below a.heap.size a c := h.trans (k.mono h.size)
theorem bquiet {a b : World} (h : ∃ k, b = a.drewN k) : Below a.heap.size a b := by obtain ⟨k, rfl⟩ := h; exact below_drewN (Below.refl _ _) k

theorem cell_new (w : World) (b : Nat) (hb : b = w.heap.size) (c0 : Value) (T : TypeId) : (w.alloc (.cells #[c0] T)).cell? ⟨b, 0, none⟩ = some c0 := by subst hb; simp
theorem cell_new2 (w : World) (b : Nat) (hb : b = w.heap.size) (c0 c1 : Value) (T : TypeId) : (w.alloc (.cells #[c0, c1] T)).cell? ⟨b, 0, none⟩ = some c0 ∧ (w.alloc (.cells #[c0, c1] T)).cell? ⟨b, 1, none⟩ = some c1 := by subst hb; simp

/-- What is read of a slice of integers: its address and its elements. -/
def Rd (k : IntKind) (w : World) (a : Option Addr) (zs : List Int) : Prop := ∀ i, i < zs.length → ∃ b off, a = some ⟨b, off, none⟩ ∧ w.cell? ⟨b, off + i, none⟩ = some (.int k (zs.getD i 0))
theorem Rd.below {k : IntKind} {w w' : World} {a : Option Addr} {zs : List Int} (h : Rd k w a zs) (hb : Below w.heap.size w w') : Rd k w' a zs := fun i hi => by
  obtain ⟨b, off, ha, hc⟩ := h i hi
  exact ⟨b, off, ha, (hb.cell (World.block_lt_of_cell? w _ hc)).trans hc⟩
theorem Rd.drewN {k : IntKind} {w : World} {a : Option Addr} {zs : List Int} (h : Rd k w a zs) (n : Nat) : Rd k (w.drewN n) a zs := h
theorem Rd.nil (k : IntKind) (w : World) (a : Option Addr) : Rd k w a [] := fun _ hi => absurd hi (Nat.not_lt_zero _)

/-- A slice of integers that came in: nil, or an address with as many readable cells as it has room. -/
def IsRow (k : IntKind) (w : World) (a : Option Addr) (len cap : Nat) (zs : List Int) : Prop :=
  (a = none ∧ len = 0 ∧ cap = 0 ∧ zs = []) ∨
  ∃ x, a = some x ∧ len ≤ cap ∧ cap ≤ maxLen ∧ zs.length = cap ∧ (∀ i, i < zs.length → w.cell? (x.add i) = some (.int k (zs.getD i 0))) ∧ ∀ n ∈ zs, (Lit.int k n).wf = true
theorem IsRow.rd {k : IntKind} {w : World} {a : Option Addr} {len cap : Nat} {zs : List Int} (h : IsRow k w a len cap zs) :
    len = (zs.take len).length ∧ len ≤ maxLen ∧ Rd k w a (zs.take len) ∧ ∀ n ∈ zs.take len, (Lit.int k n).wf = true := by
  rcases h with ⟨rfl, rfl, rfl, rfl⟩ | ⟨x, rfl, hl, hm, hz, hc, hw⟩
  · exact ⟨rfl, by simp, Rd.nil _ _ _, by simp⟩
  · have hlen : (zs.take len).length = len := by rw [List.length_take]; omega
    refine ⟨hlen.symm, by omega, fun i hi => ?_, fun n hn => hw n (List.mem_of_mem_take hn)⟩
    rw [hlen] at hi
    have h0 := hc i (by omega)
    have h00 := hc 0 (by omega)
    obtain ⟨b, off, spot⟩ := x
    have hspot : spot = none := by simpa [Addr.add] using World.cell?_spot h00
    subst hspot
    refine ⟨b, off, rfl, ?_⟩
    have e : (zs.take len).getD i 0 = zs.getD i 0 := by simp [hi]
    rw [e]
    by_cases hi0 : i = 0
    · subst hi0; simpa [Addr.add] using h0
    · simpa [Addr.add, hi0] using h0

theorem IsRow.capNil {k : IntKind} {w : World} {a : Option Addr} {len cap : Nat} {zs : List Int} (h : IsRow k w a len cap zs) : a = none → cap = 0 := by
  rcases h with ⟨_, _, h, _⟩ | ⟨x, rfl, _⟩
  · exact fun _ => h
  · intro e; cases e

end Go.Proofs.Ytekilpmmadhpoaa
