/- append of bytes as a single operation, also in a fence; what a mark leaves as it is. -/
import Derived.Test.YtkpncailoekjpaaRange3
import Derived.Test.YtkpncailoekjpaaPre
namespace Go.Proofs.Ytkpncailoekjpaa
open Go.ChangeShapes Go.WideShapes Go.ChangeAt Go.RowKit
set_option linter.unusedVariables false
theorem wp_app {P : Program} (w : World) {o : Oper} {a : Act} {K : Act → World → Prop} {Q : Exit → Act → World → Prop} (s x : Operand) (t : TypeId)
    (ho : o.op = .call { callee := .builtin .append, args := #[s, x], argTypes := #[t, t] })
    (base : Nat) (E : TypeId) (k : IntKind) (b : Nat) (hT : IntsOf P t E k b)
    (v : Value) (zs : List Int) (hs : a.eval s = v) (hown : Own k E w base v zs)
    (ad : Option Addr) (c : Nat) (ys : List Int) (hx : a.eval x = .slice ad ys.length c) (hr : Rd k w ad ys) (hn : ad = none → c = 0)
    (hlen : zs.length + ys.length ≤ 140737488355328 / b) (hb0 : 0 < b) (hbase : base ≤ w.heap.size)
    (h : ∀ v' w', Own k E w' base v' (zs ++ ys) → w.grownBy w' v.ownBlock → K (a.put o.dst v') w') : o.wp P a w K Q := by
  obtain ⟨ht, hi⟩ := hT
  obtain ⟨i, hi1, hi2⟩ : ∃ i, P.info? E = some i ∧ (i.zero, i.size, i.bytes) = (some (.int k 0), 1, b) := by
    cases hP : P.info? E with
    | none => rw [hP] at hi; cases hi
    | some i => rw [hP] at hi; exact ⟨i, rfl, by simpa using hi⟩
  have hz : i.zero = some (.int k 0) := congrArg Prod.fst hi2
  have hsz : i.size = 1 := congrArg (fun p => p.2.1) hi2
  have hby : i.bytes = b := congrArg (fun p => p.2.2) hi2
  have hle : zs.length + ys.length ≤ 140737488355328 := Nat.le_trans hlen (Nat.div_le_self _ _)
  have hmul : (zs.length + ys.length) * b ≤ 140737488355328 := (Nat.le_div_iff_mul_le hb0).1 hlen
  cases ad with
  | none =>
    have hy : ys = [] := by
      cases ys with
      | nil => rfl
      | cons y r => obtain ⟨_, _, e, _⟩ := hr 0 (by simp); cases e
    subst hy
    obtain rfl := hn rfl
    have hrun := run_append_owned_none (P := P) w base t o.type E i 1 ht hi1 v zs.length (zs.map (Value.int k)) hown
    unfold Oper.wp execOp
    simp only [ho, resolve, invoke, builtin, Sem.run_bind, Sem.run_pure, Result.andThen_ok, List.map_toArray, List.map_cons, List.map_nil, hs, hx, hrun, List.length_nil]
    exact h v w (by simpa using hown) ⟨rfl, rfl, rfl, Nat.le_refl _, fun _ _ _ => rfl⟩
  | some ad =>
    refine wp_append_own w s x t ho base E i (.int k 0) 1 b ht hi1 hz hsz hby rfl (by decide) v zs.length (zs.map (Value.int k)) hs hown ad ys.length c (ys.map (Value.int k)) hx (by simp) ?_ (by simp [Value.oneCell']) (by unfold maxLen; omega) hmul hbase ?_
    · intro j u hj
      have hjl : j < ys.length := by
        rcases Nat.lt_or_ge j ys.length with hl | hl
        · exact hl
        · rw [List.getElem?_eq_none (by simpa using hl)] at hj; cases hj
      obtain ⟨bb, off, e, hc⟩ := hr j hjl
      cases e
      have hu : u = .int k (ys.getD j 0) := by simp [hjl] at hj; simp [hjl, hj]
      rw [hu]
      by_cases hj0 : j = 0
      · subst hj0; simpa [Addr.add] using hc
      · simpa [Addr.add, hj0] using hc
    · intro v' w' h2 h3 _
      refine h v' w' ?_ h3
      simpa [Own, List.map_append] using h2

theorem wpListIn_app {P : Program} {fl n : Nat} (w : World) {ops : Array Oper} {rest : List Oper} {o : Oper} {a : Act} {Q : Exit → Act → World → Prop} (hg : o.guard = none) (s x : Operand) (t : TypeId)
    (ho : o.op = .call { callee := .builtin .append, args := #[s, x], argTypes := #[t, t] })
    (base : Nat) (E : TypeId) (k : IntKind) (b : Nat) (hT : IntsOf P t E k b)
    (v : Value) (zs : List Int) (hs : a.eval s = v) (hown : Own k E w base v zs)
    (ad : Option Addr) (c : Nat) (ys : List Int) (hx : a.eval x = .slice ad ys.length c) (hr : Rd k w ad ys) (hn : ad = none → c = 0)
    (hlen : zs.length + ys.length ≤ 140737488355328 / b) (hb0 : 0 < b) (hbase : base ≤ w.heap.size)
    (h : ∀ a' cap' w', Own k E w' base (.slice a' (zs ++ ys).length cap') (zs ++ ys) → w.grownBy w' v.ownBlock → wpListIn (Fence.wide.inRound fl) n P ops Q rest (a.put o.dst (.slice a' (zs ++ ys).length cap')) w') : wpListIn (Fence.wide.inRound fl) n P ops Q (o :: rest) a w := by
  refine wpListIn_plain hg fun K hK => wpIn_of_plain (by rw [ho]; intro c e; cases e) (wp_app w s x t ho base E k b hT v zs hs hown ad c ys hx hr hn hlen hb0 hbase fun v' w' h1 h2 => hK _ _ ?_)
  obtain ⟨a', cap', hv, -⟩ := h1.sl
  subst hv
  exact h a' cap' w' h1 h2
theorem kpX_app {k : IntKind} {E : TypeId} {q M : Nat} {W w' : World} {v : Value} {zs : List Int} (hO : Own k E W M v zs) (hG : W.grownBy w' v.ownBlock) (hM : M ≤ W.heap.size) : KpX q M W w' :=
  ⟨hG.size, fun j hj _ => hG.block j (by omega) (fun e => by
    rcases hO.2 with ⟨rfl, _⟩ | ⟨g, cap, cur, rfl, hb, _⟩
    · cases e
    · simp [Value.ownBlock] at e; omega)⟩
theorem kpX_set {q M : Nat} (A : World) (v : Value) : KpX q M A (A.setCell ⟨q, 0, none⟩ v) := ⟨by simp, fun k _ hk => Below.heap_setCell A ⟨q, 0, none⟩ v k hk⟩
theorem own_put {k : IntKind} {E : TypeId} {W : World} {base D : Nat} {v : Value} {zs : List Int} (h : Own k E W base v zs) (hK : W.heap[D]? = some (.deferred (some []))) (o : Obj) : Own k E (W.putObj D o) base v zs :=
  keeps_own (B := 0) (row := some D) h ⟨rfl, rfl, rfl, by simp, fun k hk hne => World.putObj_heap_other (fun e => hne (by rw [e]))⟩ (fun r e => by cases e; exact ⟨Nat.zero_le _, _, hK, rfl⟩)
theorem held_put24 {W : World} {D g : Nat} {c : Array Value} {T : TypeId} {f : Nat × Nat} (h : W.heap[g]? = some (.cells c T f)) (hK : W.heap[D]? = some (.deferred (some []))) (o : Obj) : (W.putObj D o).heap[g]? = some (.cells c T f) := by
  rw [World.putObj_heap_other (fun e => by subst e; rw [h] at hK; cases hK)]; exact h
theorem wp_then {P : Program} {K : Act → World → Prop} {Q : Exit → Act → World → Prop} {c : Code} {a : Act} {w : World} (h : c.wp P (fun e a w => e = .normal ∧ K a w) a w) : c.wp P (Exit.then K Q) a w := Code.wp_mono (fun e a w he => by obtain ⟨rfl, hk⟩ := he; exact hk) h

end Go.Proofs.Ytkpncailoekjpaa
