/- A book's none. -/
import Derived.Test.YtobgibmpodggkaaDoorGsv4
import Derived.Test.YtobgibmpodggkaaDoorGsv5
import Derived.Laws.Tables
import Derived.Deep.DeepCutAuto
namespace Go.Proofs.YtobgibmpodggkaaDoor
open Go.ChangeShapes Go.WideShapes Go.ChangeAt Go.RowKit
set_option linter.unusedVariables false
set_option linter.unusedSimpArgs false

theorem set2_29 {U : World} {p : Nat} {C : Array Value} {T : TypeId} (h : U.heap[p]? = some (.cells C T (0, 0))) (i j : Nat) (a b : Value) : ∃ W2, (U.setCell ⟨p, i, none⟩ a).setCell ⟨p, j, none⟩ b = W2 ∧ W2.heap[p]? = some (.cells ((C.setIfInBounds i a).setIfInBounds j b) T (0, 0)) ∧ Only p U W2 :=
  ⟨_, rfl, held_set (held_set h i a) j b, (Only.set p i a U).then (Only.set p j b _)⟩
theorem ownE_only {E T : TypeId} {w w' : World} {base m p : Nat} {v : Value} {n : Nat} {xs : List Value} {c : Array Value} (h : OwnE E w base m v n xs) (hp : w.heap[p]? = some (.cells c T (0, 0))) (hT : T ≠ E) (k : Only p w w') : OwnE E w' base m v n xs :=
  h.kept fun g hg => k.block g (fun e => h.ne hp hT (by rw [hg, e]))
def zv29 : Value := .agg #[.bool false, .int .i64 0, .bool false, .int .i64 0, .bool false, .int .i64 0, .bool false, .int .i64 0]
theorem zv29_size (n : Nat) : (Builtin.zeroCells zv29.cells n).size = n * 8 := by
  simp [Builtin.zeroCells, zv29, Value.cells]
theorem zv29_one (n : Nat) : ∀ v ∈ (Builtin.zeroCells zv29.cells n).toList, v.oneCell' = true := by
  intro v hv
  have h8 : ∀ k, k < 8 → (zv29.cells[k]!).oneCell' = true := by decide
  unfold Builtin.zeroCells at hv
  rw [Array.toList_map, List.mem_map] at hv
  obtain ⟨i, -, rfl⟩ := hv
  exact h8 _ (Nat.mod_lt i (show 0 < zv29.cells.size by decide))
theorem zv29_zero (w : World) : (zeroValue 69).run Tryd.prog w = .ok zv29 w := by
  unfold zv29
  go_simp <;> rfl
set_option maxRecDepth 100000 in
set_option maxHeartbeats 4000000 in
theorem bnone29_any (N B : Nat) (t n : Int) (a : Option Addr) (len cap : Nat) (xs : List Value) (w : World) (hb : w.heap[B]? = some (.cells #[.bool true, .int .i64 t, .int .i64 n, .slice a len cap] 56 (0, 0))) (hO : OwnE 69 w N 8 (.slice a len cap) len xs) (hN : N ≤ B) : Calls Tryd.prog 42 #[.pointer (some ⟨B, 0, none⟩)] w fun r w' => r = .returned (.tuple #[]) ∧ w'.heap[B]? = some (.cells #[.bool true, .int .i64 0, .int .i64 0, .slice a 0 cap] 56 (0, 0)) ∧ OwnE 69 w' N 8 (.slice a 0 cap) 0 [] ∧ PEff N B 3 w w' := by
  have z3 := held_cell hb 3 _ rfl
  have hne := hO.ne hb (by decide)
  have hO1 := hid hO
  have hb1 := hid hb
  clear hO hb
  go_enter Tryd.func42, Tryd.ntmps42
  go_wp2_with (first | (refine wpList_clearC w rfl (.tmp 5) 22 rfl 69 zv29 8 Tryd.underlying22 zv29_zero zv29_size zv29_one N a len cap xs hO1.out rfl ?_))
  intro W1 hC
  have hb2 := (hC.block B (fun e => hne e.symm)).trans hb1.out
  have hO2 := hid hC.own
  have hC2 := hid hC
  clear hC hne z3
  have z3 := held_cell hb2 3 _ rfl
  have f3 := held_free hb2 3
  obtain ⟨S1, hS1, y1, o1⟩ := st1 hb2 3 (.slice a 0 cap)
  have y2 : S1.heap[B]? = some (.cells #[.bool true, .int .i64 t, .int .i64 n, .slice a 0 cap] 56 (0, 0)) := y1
  have f1 := held_free y2 1
  have f2 := held_free y2 2
  have x1 := held_cell y2 1 _ rfl
  have x2 := held_cell y2 2 _ rfl
  obtain ⟨S2, hS2, y3, o2⟩ := set2_29 y2 1 2 (.int .i64 0) (.int .i64 0)
  have hO3 := hid (ownE_only (ownE_only hO2.out hb2 (by decide) o1) y2 (by decide) o2)
  have hq := hO1.out.2
  have c := hC2.out
  have w1 : wown B 3 w = (Value.slice a len cap).ownBlock := wown_at hb1.out rfl
  have w2 : wown B 3 S2 = (Value.slice a 0 cap).ownBlock := wown_at y3 rfl
  have wO : ∀ k, (Value.slice a len cap).ownBlock = some k → N ≤ k := fun k e => (hO1.out.lt k e).1
  have wE : (Value.slice a 0 cap).ownBlock = (Value.slice a len cap).ownBlock := by cases a <;> rfl
  have sz : S2.heap.size = w.heap.size := o2.size.trans (o1.size.trans c.size)
  have hfin : S2.heap[B]? = some (.cells #[.bool true, .int .i64 0, .int .i64 0, .slice a 0 cap] 56 (0, 0)) ∧ OwnE 69 S2 N 8 (.slice a 0 cap) 0 [] ∧ PEff N B 3 w S2 := ⟨y3, hO3.out, ⟨o2.os.trans (o1.os.trans c.os), o2.tape.trans (o1.tape.trans c.tape), o2.output.trans (o1.output.trans c.output), by rw [sz]; exact Nat.le_refl _, fun k hk => (o2.block k (by omega)).trans ((o1.block k (by omega)).trans (c.block k (fun e => by have := wO k e.symm; omega)))⟩, ⟨by rw [sz]; exact Nat.le_refl _, fun k _ h2 h3 => (o2.block k h2).trans ((o1.block k h2).trans (c.block k (by rw [w1] at h3; exact h3))), fun k hk => .inl (by rw [w1, ← wE, ← w2]; exact hk)⟩⟩
  replace hfin := hid hfin
  clear y1 y2 y3 o1 o2 hO3 hO2 c w1 w2 wO wE sz
  rcases hq with ⟨e, -⟩ | ⟨g, cp, cur, e, -, -, hle, hmx, -⟩
  · injection e with e1 e2 e3
    subst e1 e2 e3
    go_wp2_with fail
    go_end0
    exact ⟨rfl, hfin.out⟩
  · injection e with e1 e2 e3
    subst e1 e3
    go_wp2_with fail
    go_end0
    exact ⟨rfl, hfin.out⟩

end Go.Proofs.YtobgibmpodggkaaDoor
