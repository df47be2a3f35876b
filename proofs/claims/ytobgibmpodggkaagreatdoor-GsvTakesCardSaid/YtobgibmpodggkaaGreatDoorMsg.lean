/- Messages of a row of fields: general pieces. -/
import Derived.Test.YtobgibmpodggkaaGreatDoorGga2
import Derived.Test.YtobgibmpodggkaaGreatDoorGS
import Derived.Test.YtobgibmpodggkaaGreatDoorGga5
import Derived.Test.YtobgibmpodggkaaGreatDoorClock4
import Derived.Laws.Tables
import Derived.Deep.DeepCutAuto
namespace Go.Proofs.YtobgibmpodggkaaGreatDoor
open Go.ChangeShapes Go.WideShapes Go.ChangeAt Go.RowKit
set_option linter.unusedVariables false
set_option linter.unusedSimpArgs false

/-- The error of a text that is neither of both. -/
def onE (s a b : ByteArray) : Int := if s ≠ a ∧ s ≠ b then 3 else 0
/-- The error of a mode. -/
def moE (s : ByteArray) : Int := if s.size = 0 ∨ (s.size = 1 ∧ 65 ≤ (sb s).getD 0 0 ∧ (sb s).getD 0 0 ≤ 90) then 0 else 3
theorem DnOk.congr26 {w w' : World} {e : Int} {L L' : List ByteArray} {r : Ending} (h : e = 0 → L = L') (k : DnOk w e L r w') : DnOk w e L' r w' := by
  by_cases c : e = 0
  · rw [← h c]; exact k
  · obtain ⟨a, cap, h1, h2, h3, h4⟩ := k
    rw [if_neg c] at h1 h2
    exact ⟨a, cap, by rw [if_neg c]; exact h1, by rw [if_neg c]; exact h2, h3, h4⟩
theorem RowW.only {W W' : World} {base B p : Nat} {e : Int} {L : List ByteArray} {c : Array Value} {T : TypeId} (h : RowW W base B e L) (k : Only p W W') (h1 : p ≠ B) (hp : W.heap[p]? = some (.cells c T (0, 0))) (hT : T ≠ 9) : RowW W' base B e L := by
  obtain ⟨a, cap, g1, g2⟩ := h
  exact ⟨a, cap, (k.block _ h1.symm).trans g1, g2.kept (fun g hg => k.block g (fun e => by subst e; exact g2.ne hp hT hg))⟩
/-- A value that is no string. -/
def noS (v : Value) : Bool := match v with | .string _ => false | _ => true
theorem ns_set {c : Array Value} (h : ∀ (j : Nat) (s : ByteArray), c[j]? ≠ some (.string s)) (i : Nat) (u : Value) (hu : noS u = true) : ∀ (j : Nat) (s : ByteArray), (c.setIfInBounds i u)[j]? ≠ some (.string s) := by
  intro j s e
  rw [Array.getElem?_setIfInBounds] at e
  split at e
  · split at e
    · cases e; cases hu
    · cases e
  · exact h j s e
theorem kpx_after {N : Nat} {X : List Nat} {a b : World} (h : After a b) (hN : N ≤ a.heap.size) : Kp N X a b := ⟨h.os, h.tape, h.output, h.size, fun k hk _ => h.block k (by omega)⟩
theorem kpx_eff {N B : Nat} {X : List Nat} {a b : World} (h : Eff B a b) (hN : N ≤ a.heap.size) (hB : B ∈ X) : Kp N X a b := ⟨h.os, h.tape, h.output, h.size, fun k hk hx => h.block k (by omega) (fun e => hx (e ▸ hB))⟩
theorem kpx_only {N B : Nat} {X : List Nat} {a b : World} (h : Only B a b) (hB : B ∈ X) : Kp N X a b := ⟨h.os, h.tape, h.output, by rw [h.size]; exact Nat.le_refl _, fun k hk hx => h.block k (fun e => hx (e ▸ hB))⟩
theorem heapT {W : World} {p q : Nat} {c d : Array Value} {T U : TypeId} (hp : W.heap[p]? = some (.cells c T (0, 0))) (hq : W.heap[q]? = some (.cells d U (0, 0))) (h : T ≠ U) : p ≠ q := by
  intro e; subst e; rw [hp] at hq; cases hq; exact h rfl
def moL (e : Int) : List ByteArray → Int
  | [] => e
  | s :: _ => kp e (moE s)
theorem takD_bd {s : ByteArray} {W M F lo hi : Int} {i : Bool} {n x : Int} (h : takD s W M F lo hi = (i, n, x)) (h0 : lo ≤ 0 ∧ 0 ≤ hi) : (i = false → n = 0) ∧ lo ≤ n ∧ n ≤ hi := by
  unfold takD at h
  split at h
  · cases h; exact ⟨fun _ => rfl, h0.1, h0.2⟩
  · split at h
    · cases h; exact ⟨fun _ => rfl, h0.1, h0.2⟩
    · unfold takO at h
      split at h
      · cases h; exact ⟨fun _ => rfl, h0.1, h0.2⟩
      · split at h
        · cases h; exact ⟨fun _ => rfl, h0.1, h0.2⟩
        · cases h; exact ⟨fun h => (by cases h), by omega, by omega⟩
theorem szs {L M : List ByteArray} (h : ∀ x ∈ L, x.size ≤ 1000) (k : Nat) (e : M = L.drop k) : ∀ x ∈ M, x.size ≤ 1000 := fun x hx => h x (List.mem_of_mem_drop (e ▸ hx))
theorem strEq {a b : List UInt8} (h : (a == b) = true) : a = b := eq_of_beq h
theorem strNe {a b : List UInt8} (h : (a == b) = false) : ¬ a = b := fun e => by rw [e] at h; simp at h
theorem moL_zero {e : Int} {R : List ByteArray} (h : moL e R = 0) : e = 0 := by
  cases R with
  | nil => exact h
  | cons s r => exact (kp_ok h).1

end Go.Proofs.YtobgibmpodggkaaGreatDoor
