/- Slices of integers that a call makes for itself: what they hold, appending to them, also where an operation is guarded. -/
import Derived.Test.YtgfpjihpioehcaaBase
import Derived.OwnWalk
import Derived.Laws.AppendOwnNone
namespace Go.Proofs.Ytgfpjihpioehcaa
open Go.ChangeShapes Go.WideShapes Go.ChangeAt Go.RowKit

/-- A slice type t of integers of kind k, an element b bytes wide. -/
def IntsOf (P : Program) (t E : TypeId) (k : IntKind) (b : Nat) : Prop := P.underlying t = some (.slice E) ∧ (P.info? E).map (fun i => (i.zero, i.size, i.bytes)) = some (some (.int k 0), 1, b)

/-- The value v is a slice of the call's own, in blocks from base on, that holds zs. -/
def Own (k : IntKind) (E : TypeId) (w : World) (base : Nat) (v : Value) (zs : List Int) : Prop := w.ownsRow base E 1 v zs.length (zs.map (Value.int k))

theorem Own.below {k : IntKind} {E : TypeId} {w w' : World} {base : Nat} {v : Value} {zs : List Int} (h : Own k E w base v zs) (hb : Below w.heap.size w w') : Own k E w' base v zs := by
  refine ⟨h.1, ?_⟩
  rcases h.2 with h2 | ⟨g, cap, cur, hv, hg, hh, r⟩
  · exact .inl h2
  · refine .inr ⟨g, cap, cur, hv, hg, ?_, r⟩
    have hlt : g < w.heap.size := by
      rcases Nat.lt_or_ge g w.heap.size with hl | hl
      · exact hl
      · rw [Array.getElem?_eq_none hl] at hh; cases hh
    rw [hb.block g hlt]; exact hh

theorem Own.drewN {k : IntKind} {E : TypeId} {w : World} {base : Nat} {v : Value} {zs : List Int} (h : Own k E w base v zs) (n : Nat) : Own k E (w.drewN n) base v zs := h
theorem Own.alloc {k : IntKind} {E : TypeId} {w : World} {base : Nat} {v : Value} {zs : List Int} (h : Own k E w base v zs) (o : Obj) : Own k E (w.alloc o) base v zs :=
  h.below ((Below.refl _ _).alloc (Nat.le_refl _) o)

/-- A slice of the call's own is read like any other. -/
theorem Own.rd {k : IntKind} {E : TypeId} {w : World} {base : Nat} {v : Value} {zs : List Int} (h : Own k E w base v zs) :
    ∃ a cap, v = .slice a zs.length cap ∧ Rd k w a zs ∧ (a = none → cap = 0) ∧ zs.length ≤ maxLen := by
  rcases h.2 with ⟨hv, hn⟩ | ⟨g, cap, cur, hv, hg, hh, h1, h2, h3, h4⟩
  · refine ⟨none, 0, by rw [hn]; exact hv, fun i hi => by omega, fun _ => rfl, by omega⟩
  · refine ⟨_, cap, hv, fun i hi => ⟨g, 0, rfl, ?_⟩, (fun e => by cases e), by omega⟩
    have hc := World.ownsRow.cellAt (w := w) (base := base) (e := E) (size := 1) (g := g) (n := zs.length) (cap := cap) (xs := zs.map (Value.int k)) (by rw [← hv]; exact h) i (by omega)
    rw [Nat.zero_add, hc]
    simp [hi]

theorem Own.block {k : IntKind} {E : TypeId} {w : World} {base : Nat} {v : Value} {zs : List Int} (h : Own k E w base v zs) : ∀ g, v.ownBlock = some g → base ≤ g := by
  intro g hg
  rcases h.2 with ⟨hv, _⟩ | ⟨g', cap, cur, hv, hb, _⟩
  · subst hv; cases hg
  · subst hv; simp [Value.ownBlock] at hg; omega

/-- A new slice that is written out. -/
theorem Own.lit (k : IntKind) (E : TypeId) (w : World) (zs : List Int) (base : Nat) (hb : base ≤ w.heap.size) (hm : zs.length ≤ maxLen) (cs : Array Value) (hcs : cs = (zs.map (Value.int k)).toArray) :
    Own k E (w.alloc (.cells cs E)) base (.slice (some ⟨w.heap.size, 0, none⟩) zs.length zs.length) zs := by
  subst hcs
  have := World.ownsRow_lit (base := base) (e := E) (size := 1) w (zs.map (Value.int k)).toArray zs.length hb hm (by simp)
  simpa [Own] using this

/-- Behind an append to a slice of the call's own. -/
theorem Own.grew {k : IntKind} {E : TypeId} {w w' : World} {base B : Nat} {v : Value} {zs : List Int} {a : World} (h : Own k E w base v zs) (hg : w.grownBy w' v.ownBlock) (hb : Below B a w) (hB : B ≤ base) (hw : B ≤ w.heap.size) : Below B a w' :=
  hb.grown hg hw fun g e => Nat.le_trans hB (h.block g e)

theorem wpList_app {P : Program} (w : World) {ops : Array Oper} {rest : List Oper} {o : Oper} {a : Act} {Q : Exit → Act → World → Prop} (hw : Region.wanted o (yielded ops a.tmps) = true) (s x : Operand) (t : TypeId)
    (ho : o.op = .call { callee := .builtin .append, args := #[s, x], argTypes := #[t, t] })
    (base : Nat) (E : TypeId) (k : IntKind) (b : Nat) (hT : IntsOf P t E k b)
    (v : Value) (zs : List Int) (hs : a.eval s = v) (hown : Own k E w base v zs)
    (ad : Option Addr) (c : Nat) (ys : List Int) (hx : a.eval x = .slice ad ys.length c) (hr : Rd k w ad ys) (hn : ad = none → c = 0)
    (hlen : zs.length + ys.length ≤ 140737488355328 / b) (hb0 : 0 < b) (hbase : base ≤ w.heap.size)
    (h : ∀ v' w', Own k E w' base v' (zs ++ ys) → w.grownBy w' v.ownBlock → wpList P ops Q rest (a.put o.dst v') w') : wpList P ops Q (o :: rest) a w := by
  obtain ⟨ht, hi⟩ := hT
  obtain ⟨i, hi1, hi2⟩ : ∃ i, P.info? E = some i ∧ (i.zero, i.size, i.bytes) = (some (.int k 0), 1, b) := by
    cases hP : P.info? E with
    | none => rw [hP] at hi; cases hi
    | some i => rw [hP] at hi; exact ⟨i, rfl, by simpa using hi⟩
  have hz : i.zero = some (.int k 0) := congrArg Prod.fst hi2
  have hsz : i.size = 1 := congrArg (fun p => p.2.1) hi2
  have hby : i.bytes = b := congrArg (fun p => p.2.2) hi2
  have hle : zs.length + ys.length ≤ 140737488355328 := Nat.le_trans hlen (Nat.div_le_self _ _)
  have hmul : (zs.length + ys.length) * b ≤ 140737488355328 := (Nat.le_div_iff_mul_le hb0).1 hlen
  refine BigFrame.wpList_want hw fun K hK => ?_
  cases ad with
  | none =>
    have hy : ys = [] := by
      cases ys with
      | nil => rfl
      | cons y r => obtain ⟨_, _, e, _⟩ := hr 0 (by simp); cases e
    subst hy
    obtain rfl := hn rfl
    have hrun := run_append_owned_none (P := P) w base t o.type E i 1 ht hi1 v zs.length (zs.map (Value.int k)) hown
    unfold Oper.wp execOp
    simp only [ho, resolve, invoke, builtin, Sem.run_bind, Sem.run_pure, Result.andThen_ok, List.map_toArray, List.map_cons, List.map_nil, hs, hx, hrun, List.length_nil]
    exact hK _ _ (h v w (by simpa using hown) ⟨rfl, rfl, rfl, Nat.le_refl _, fun _ _ _ => rfl⟩)
  | some ad =>
    refine wp_append_own w s x t ho base E i (.int k 0) 1 b ht hi1 hz hsz hby rfl (by decide) v zs.length (zs.map (Value.int k)) hs hown ad ys.length c (ys.map (Value.int k)) hx (by simp) ?_ (by simp [Value.oneCell']) (by unfold maxLen; omega) hmul hbase ?_
    · intro j u hj
      have hjl : j < ys.length := by
        rcases Nat.lt_or_ge j ys.length with hl | hl
        · exact hl
        · rw [List.getElem?_eq_none (by simpa using hl)] at hj; cases hj
      obtain ⟨bb, off, e, hc⟩ := hr j hjl
      cases e
      have hu : u = .int k (ys.getD j 0) := by simp [hjl] at hj; simp [hjl, hj]
      rw [hu]
      by_cases hj0 : j = 0
      · subst hj0; simpa [Addr.add] using hc
      · simpa [Addr.add, hj0] using hc
    · intro v' w' h2 h3 _
      refine hK _ _ (h v' w' ?_ h3)
      simpa [Own, List.map_append] using h2

end Go.Proofs.Ytgfpjihpioehcaa
