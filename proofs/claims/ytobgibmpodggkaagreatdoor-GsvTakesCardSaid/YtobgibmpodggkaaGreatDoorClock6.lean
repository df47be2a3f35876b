/- Package clock: three, hundredths. -/
import Derived.Test.YtobgibmpodggkaaGreatDoorClock5
import Derived.Deep.DeepCutAuto
namespace Go.Proofs.YtobgibmpodggkaaGreatDoor
open Go.ChangeShapes Go.WideShapes Go.ChangeAt Go.RowKit
set_option linter.unusedVariables false

def gN (pre : List (Int × Bool)) (i : Nat) : Int := (pre.map Prod.fst).getD i 0
def okAll (l : List (Int × Bool)) : Bool := l.all Prod.snd
def threeT (l : List (Int × Bool)) : Value := if okAll l = true then .tuple #[.agg #[.int .i64 (gN l 0), .int .i64 (gN l 1), .int .i64 (gN l 2)], .bool true] else .tuple #[.agg #[.int .i64 0, .int .i64 0, .int .i64 0], .bool false]
theorem okAll_pre {pre l : List (Int × Bool)} (h : pre <+: l) (hx : okAll pre = false) : okAll l = false := by
  obtain ⟨r, rfl⟩ := h
  unfold okAll at *
  rw [List.all_append, hx]; rfl
theorem okAll_snoc {pre : List (Int × Bool)} (x : Int × Bool) (h : okAll pre = true) : okAll (pre ++ [x]) = x.2 := by
  unfold okAll at *
  rw [List.all_append, h]; simp
theorem prS_len : ∀ l : List Nat, l.length = 6 → (prS l).length ≤ 3
  | [a, b, c, d, e, f], _ => by
    unfold prS; split
    · unfold prS; split
      · unfold prS; split
        · simp [prS]
        · simp
      · simp
    · simp
theorem bel_eff {C B : Nat} {w A A' : World} (h : Below C w A) (e : Eff B A A') (hB : C ≤ B) (hC : C ≤ A.heap.size) : Below C w A' :=
  h.trans ⟨e.os, e.tape, e.output, e.size, fun k hk => e.block k (by omega) (by omega)⟩
theorem five_new (V : World) (a b c d e : Obj) : ∃ W0, ((((V.alloc a).alloc b).alloc c).alloc d).alloc e = W0 ∧ W0.heap[V.heap.size]? = some a ∧ W0.heap[V.heap.size + 1]? = some b ∧ W0.heap[V.heap.size + 1 + 1]? = some c ∧ W0.heap[V.heap.size + 1 + 1 + 1]? = some d ∧ W0.heap[V.heap.size + 1 + 1 + 1 + 1]? = some e ∧ W0.heap.size = V.heap.size + 1 + 1 + 1 + 1 + 1 ∧ After V W0 := by
  obtain ⟨h1, h2, h3, h4, h5⟩ := three_new V a b c
  generalize ((V.alloc a).alloc b).alloc c = U at *
  have g1 := World.alloc_heap_new U d
  have g2 := World.alloc_heap_new (U.alloc d) e
  rw [World.size_alloc, h4] at g2
  rw [h4] at g1
  have k1 : After U (U.alloc d) := (Below.refl _ U).alloc (Nat.le_refl _) _
  have k2 : After (U.alloc d) ((U.alloc d).alloc e) := (Below.refl _ _).alloc (Nat.le_refl _) _
  exact ⟨_, rfl, held_after k2 (held_after k1 h1), held_after k2 (held_after k1 h2), held_after k2 (held_after k1 h3), held_after k2 g1, g2, by rw [World.size_alloc, World.size_alloc, h4], bthen (bthen h5 k1) k2⟩
theorem pre3 {β : Type} : ∀ pre : List β, pre.length < 3 → pre = [] ∨ (∃ a, pre = [a]) ∨ ∃ a b, pre = [a, b]
  | [], _ => .inl rfl
  | [a], _ => .inr (.inl ⟨a, rfl⟩)
  | [a, b], _ => .inr (.inr ⟨a, b, rfl⟩)
  | a :: b :: c :: r, h => by simp at h; omega
theorem set3h {U : World} {p : Nat} {v0 v1 v2 : Value} {T : TypeId} (h : U.heap[p]? = some (.cells #[v0, v1, v2] T (0, 0))) (u0 u1 u2 : Value) : (((U.setCell ⟨p, 0, none⟩ u0).setCell ⟨p, 1, none⟩ u1).setCell ⟨p, 2, none⟩ u2).heap[p]? = some (.cells #[u0, u1, u2] T (0, 0)) :=
  held_set (held_set (held_set h 0 u0) 1 u1) 2 u2
theorem held3 {U : World} {p q : Nat} {o : Obj} {a b c : Value} (h : p ≠ q) (hp : U.heap[p]? = some o) : (((U.setCell ⟨q, 0, none⟩ a).setCell ⟨q, 1, none⟩ b).setCell ⟨q, 2, none⟩ c).heap[p]? = some o := held_oth h (held_oth h (held_oth h hp))
theorem below3 {C : Nat} {w U : World} {q : Nat} {a b c : Value} (h : Below C w U) (hq : C ≤ q) : Below C w (((U.setCell ⟨q, 0, none⟩ a).setCell ⟨q, 1, none⟩ b).setCell ⟨q, 2, none⟩ c) := ((h.setCell (p := ⟨q, 0, none⟩) hq _).setCell (p := ⟨q, 1, none⟩) hq _).setCell (p := ⟨q, 2, none⟩) hq _
theorem held_put24 {W : World} {D g : Nat} {c : Array Value} {T : TypeId} {f : Nat × Nat} (h : W.heap[g]? = some (.cells c T f)) (hK : W.heap[D]? = some (.deferred (some []))) (o : Obj) : (W.putObj D o).heap[g]? = some (.cells c T f) := by
  rw [World.putObj_heap_other (fun e => by subst e; rw [h] at hK; cases hK)]; exact h
attribute [local go_sem] Oper.semAt_some
def h2 (c d : Nat) : Int × Bool := if (dgB c && dgB d) = true then (pairN c d, true) else (0, false)
def hunS (l : List Nat) : Int × Bool := if l = [] then (0, true) else if l.getD 0 0 = 46 ∧ 2 ≤ l.length ∧ l.length ≤ 3 then h2 (l.getD 1 0) (if l.length = 2 then 48 else l.getD 2 0) else (0, false)
theorem sb_append (s t : ByteArray) : sb (s ++ t) = sb s ++ sb t := by unfold sb; simp [ByteArray.data_append]
theorem len2 {l : List Nat} (h : l.length = 2) : ∃ a b, l = [a, b] := by
  match l, h with
  | [a, b], _ => exact ⟨a, b, rfl⟩
theorem len3 {l : List Nat} (h : l.length = 3) : ∃ a b c, l = [a, b, c] := by
  match l, h with
  | [a, b, c], _ => exact ⟨a, b, c, rfl⟩
theorem prS_two (c d : Nat) : prS [c, d] = [h2 c d] := by unfold prS h2; split <;> simp [prS]
theorem two_new (V : World) (a b : Obj) : ((V.alloc a).alloc b).heap[V.heap.size]? = some a ∧ ((V.alloc a).alloc b).heap[V.heap.size + 1]? = some b ∧ ((V.alloc a).alloc b).heap.size = V.heap.size + 1 + 1 ∧ After V ((V.alloc a).alloc b) := by
  have h1 := World.alloc_heap_new V a
  have h2 := World.alloc_heap_new (V.alloc a) b
  simp only [World.size_alloc] at h2
  refine ⟨?_, h2, by simp only [World.size_alloc], (((Below.refl _ V).alloc (Nat.le_refl _) a).alloc (by simp) b)⟩
  rw [Below.heap_alloc _ _ _ (by simp)]; exact h1
end Go.Proofs.YtobgibmpodggkaaGreatDoor
