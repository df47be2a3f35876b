/- Clear of a slice of structs. -/
import Derived.Test.YtobgibmpodggkaaDoorGsv2
import Derived.Lib.SliceRun
import Derived.Deep.DeepCutAuto
namespace Go.Proofs.YtobgibmpodggkaaDoor
open Go.ChangeShapes Go.WideShapes Go.ChangeAt Go.RowKit
set_option linter.unusedVariables false
set_option linter.unusedSimpArgs false

open Go.Lib in
theorem run_clear_cells {P : Program} (w : World) (t e ty : TypeId) (z : Value) (ht : P.underlying t = some (.slice e)) (hv : ∀ w, (zeroValue e).run P w = .ok z w) (b o n c : Nat) (hn : 0 < n)
    (hc : ∀ j, j < (Builtin.zeroCells z.cells n).size → (w.cell? ⟨b, o + j, none⟩).isSome = true) (hf : ∀ j, j < (Builtin.zeroCells z.cells n).size → w.frozen? ⟨b, o + j, none⟩ = false) (h1 : ∀ v ∈ (Builtin.zeroCells z.cells n).toList, v.oneCell' = true) :
    (Builtin.clear_ #[t] ty #[.slice (some ⟨b, o, none⟩) n c]).run P w = .ok (.tuple #[]) (w.setCells b o (Builtin.zeroCells z.cells n).toList) := by
  have hst := run_storeCells_cells (P := P) b o (Builtin.zeroCells z.cells n).toList 0 w (by simpa using hc) (by simpa using hf) h1
  simp only [Nat.add_zero] at hst
  obtain ⟨m, rfl⟩ : ∃ m, n = m + 1 := ⟨n - 1, by omega⟩
  simp [Builtin.clear_, run_underlying ht, hv, hst]
theorem sets_only (g : Nat) : ∀ (l : List Value) (o : Nat) (w : World), Only g w (w.setCells g o l)
  | [], o, w => ⟨rfl, rfl, rfl, rfl, fun _ _ => rfl⟩
  | v :: l, o, w => (Only.set g o v w).then (sets_only g l (o + 1) _)
theorem sets_held {g : Nat} {E : TypeId} : ∀ (l : List Value) (o : Nat) (w : World) (C : Array Value), w.heap[g]? = some (.cells C E (0, 0)) → ∃ C', (w.setCells g o l).heap[g]? = some (.cells C' E (0, 0)) ∧ C'.size = C.size
  | [], o, w, C, h => ⟨C, h, rfl⟩
  | v :: l, o, w, C, h => by
    obtain ⟨C', h1, h2⟩ := sets_held l (o + 1) (w.setCell ⟨g, o, none⟩ v) _ (held_set h o v)
    exact ⟨C', h1, by rw [h2]; simp⟩
/-- A slice's cells are cleared: no other block changes, and cut to nothing it stands as one's own. -/
structure ClrW (E : TypeId) (base m : Nat) (ad : Option Addr) (n c : Nat) (w w' : World) : Prop where
  own : OwnE E w' base m (.slice ad 0 c) 0 []
  os : w'.os = w.os
  tape : w'.tape = w.tape
  output : w'.output = w.output
  size : w'.heap.size = w.heap.size
  block : ∀ k, some k ≠ (Value.slice ad n c).ownBlock → w'.heap[k]? = w.heap[k]?
theorem wp_clearC {P : Program} {w : World} {o : Oper} {a : Act} {K : Act → World → Prop} {Q : Exit → Act → World → Prop} (d : Operand) (t : TypeId)
    (ho : o.op = .call { callee := .builtin .clear, args := #[d], argTypes := #[t] }) (E : TypeId) (z : Value) (m : Nat) (hT : P.underlying t = some (.slice E)) (hv : ∀ w, (zeroValue E).run P w = .ok z w)
    (hz : ∀ n, (Builtin.zeroCells z.cells n).size = n * m) (h1 : ∀ n, ∀ v ∈ (Builtin.zeroCells z.cells n).toList, v.oneCell' = true)
    (base : Nat) (ad : Option Addr) (n c : Nat) (xs : List Value) (hO : OwnE E w base m (.slice ad n c) n xs) (hd : a.eval d = .slice ad n c)
    (h : ∀ w', ClrW E base m ad n c w w' → K (a.put o.dst (.tuple #[])) w') : o.wp P a w K Q := by
  obtain ⟨-, h2⟩ := hO
  rcases Nat.eq_zero_or_pos n with rfl | hn
  · have hw : ClrW E base m ad 0 c w w := by
      refine ⟨⟨by simp, ?_⟩, rfl, rfl, rfl, rfl, fun _ _ => rfl⟩
      rcases h2 with ⟨e, _⟩ | ⟨g, cap, cur, e, r1, r2, r3, r4, r5, -⟩
      · exact .inl ⟨e, rfl⟩
      · exact .inr ⟨g, cap, cur, e, r1, r2, r3, r4, r5, by simp⟩
    unfold Oper.wp
    cases ad with
    | none =>
      simp [execOp, ho, resolve, invoke, builtin, hd, Builtin.clear_, run_underlying hT, Result.andThen]
      exact h w hw
    | some x =>
      simp [execOp, ho, resolve, invoke, builtin, hd, Builtin.clear_, run_underlying hT, Result.andThen]
      exact h w hw
  · rcases h2 with ⟨-, e⟩ | ⟨g, cap, cur, e, r1, r2, r3, r4, r5, -⟩
    · omega
    · injection e with e1 e2 e3
      subst e1 e3
      have hle : n * m ≤ cur.size := Nat.le_trans (Nat.mul_le_mul_right m r3) r5
      have hrun := run_clear_cells (P := P) w t E o.type z hT hv g 0 n c hn (fun j hj => by
        rw [hz] at hj
        rw [Nat.zero_add, held_cell r2 j (cur[j]'(by omega)) (Array.getElem?_eq_getElem (by omega))]; rfl) (fun j _ => held_free r2 (0 + j)) (h1 n)
      have k1 := sets_only g (Builtin.zeroCells z.cells n).toList 0 w
      obtain ⟨C', k2, k3⟩ := sets_held (Builtin.zeroCells z.cells n).toList 0 w cur r2
      unfold Oper.wp
      simp [execOp, ho, resolve, invoke, builtin, hd, hrun, Result.andThen]
      exact h _ ⟨⟨by simp, .inr ⟨g, c, C', rfl, r1, k2, Nat.zero_le _, r4, by rw [k3]; exact r5, by simp⟩⟩, k1.os, k1.tape, k1.output, k1.size, fun k hk => k1.block k (fun e => hk (by subst e; rfl))⟩
theorem wpList_clearC {P : Program} (w : World) {ops : Array Oper} {rest : List Oper} {o : Oper} {a : Act} {Q : Exit → Act → World → Prop} (hgd : o.guard = none) (d : Operand) (t : TypeId)
    (ho : o.op = .call { callee := .builtin .clear, args := #[d], argTypes := #[t] }) (E : TypeId) (z : Value) (m : Nat) (hT : P.underlying t = some (.slice E)) (hv : ∀ w, (zeroValue E).run P w = .ok z w)
    (hz : ∀ n, (Builtin.zeroCells z.cells n).size = n * m) (h1 : ∀ n, ∀ v ∈ (Builtin.zeroCells z.cells n).toList, v.oneCell' = true)
    (base : Nat) (ad : Option Addr) (n c : Nat) (xs : List Value) (hO : OwnE E w base m (.slice ad n c) n xs) (hd : a.eval d = .slice ad n c)
    (h : ∀ w', ClrW E base m ad n c w w' → wpList P ops Q rest (a.put o.dst (.tuple #[])) w') : wpList P ops Q (o :: rest) a w :=
  wpList_plain hgd fun _ hK => wp_clearC d t ho E z m hT hv hz h1 base ad n c xs hO hd fun w' h1 => hK _ _ (h w' h1)

end Go.Proofs.YtobgibmpodggkaaDoor
