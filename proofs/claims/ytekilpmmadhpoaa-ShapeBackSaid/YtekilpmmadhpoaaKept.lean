/- What stays as it was where a block's own slice is appended to: all other blocks. -/
import Derived.Test.YtekilpmmadhpoaaRange
namespace Go.Proofs.Ytekilpmmadhpoaa
open Go.ChangeShapes Go.WideShapes Go.ChangeAt Go.RowKit Go.Shelf
set_option linter.unusedVariables false

theorem run_app_own {P : Program} {w w' : World} {t ty E : TypeId} {k : IntKind} {b base : Nat} (hT : IntsOf P t E k b) {v v' : Value} {zs : List Int} (hown : Own k E w base v zs) (a : Addr) (c : Nat) (ys : List Int)
    (hnews : ∀ j u, (ys.map (Value.int k))[j]? = some u → w.cell? (a.add j) = some u) (hlen : zs.length + ys.length ≤ 140737488355328 / b) (hb0 : 0 < b)
    (h : (Builtin.append_ #[t, t] ty #[v, .slice (some a) ys.length c]).run P w = .ok v' w') : ∀ g, v'.ownBlock = some g → v.ownBlock = some g ∨ w.heap.size ≤ g := by
  obtain ⟨ht, hi⟩ := hT
  obtain ⟨i, hi1, hz, hsz, hby⟩ := info_one hi
  have hle : zs.length + ys.length ≤ 140737488355328 := Nat.le_trans hlen (Nat.div_le_self _ _)
  have hmul : (zs.length + ys.length) * b ≤ 140737488355328 := (Nat.le_div_iff_mul_le hb0).1 hlen
  have hmul2 : ys.length * b ≤ 140737488355328 := Nat.le_trans (Nat.mul_le_mul_right _ (Nat.le_add_left _ _)) hmul
  have hl : (ys.map (Value.int k)).length = ys.length * i.size := by rw [hsz]; simp
  intro g hg
  rcases hown.2 with ⟨rfl, hn⟩ | ⟨q, cap, cur, rfl, hbg, hq, hnc, hcm, hcs, htake⟩
  · by_cases hm : ys.length = 0
    · have hy : ys = [] := List.eq_nil_of_length_eq_zero hm
      subst hy
      simp [Builtin.append_, run_underlying ht, sizeOf, typeInfo, hi1, Builtin.lenOf, Builtin.firstCells, loadCells, loadCellsFrom] at h
      obtain ⟨rfl, rfl⟩ := h
      simp [Value.ownBlock] at hg
    · have hr := run_append_nil (P := P) w t ty E i (.int k 0) ht hi1 hz a ys.length c _ hl hnews (by omega) (by omega) (by rw [hby]; omega)
      rw [hr] at h
      cases h
      simp [Value.ownBlock] at hg
      right; omega
  · by_cases hroom : zs.length + ys.length ≤ cap
    · have hr := run_append_room (P := P) w t ty E i ht hi1 q zs.length cap cur hq a ys.length c _ hl hnews (by simp [Value.oneCell']) hroom (by rw [hcs, hsz]; simp; omega)
      rw [hr] at h
      cases h
      left; simpa [Value.ownBlock] using hg
    · have hr := run_append_grow (P := P) w t ty E i (.int k 0) ht hi1 hz ⟨q, 0, none⟩ zs.length cap (zs.map (Value.int k)) (by rw [hsz]; simp) (World.ownsRow.cells hown (g := q) rfl) a ys.length c _ hl hnews (by omega) (by omega) (by rw [hby]; exact growslice_fits (by omega) hmul)
      rw [hr] at h
      cases h
      simp [Value.ownBlock] at hg
      right; omega

/-- append, and where the new slice lies: where the old one lay, or in a new block. -/
theorem wp_appK {P : Program} {w : World} {o : Oper} {a : Act} {K : Act → World → Prop} {Q : Exit → Act → World → Prop} (s x : Operand) (t : TypeId)
    (ho : o.op = .call { callee := .builtin .append, args := #[s, x], argTypes := #[t, t] }) (base : Nat) (E : TypeId) (k : IntKind) (b : Nat) (hT : IntsOf P t E k b)
    (v : Value) (zs : List Int) (hs : a.eval s = v) (hown : Own k E w base v zs)
    (ad : Option Addr) (len c : Nat) (ys : List Int) (hx : a.eval x = .slice ad len c) (hsl : Sl k w ad len c ys)
    (hlen : zs.length + len ≤ 140737488355328 / b) (hb0 : 0 < b) (hbase : base ≤ w.heap.size)
    (h : ∀ a' cap' w', Own k E w' base (.slice a' (zs.length + len) cap') (zs ++ ys) → w.grownBy w' v.ownBlock → (∀ g, (Value.slice a' (zs.length + len) cap').ownBlock = some g → v.ownBlock = some g ∨ w.heap.size ≤ g) → K (a.put o.dst (.slice a' (zs.length + len) cap')) w') : o.wp P a w K Q := by
  obtain ⟨rfl, h2, h3, hn, hr⟩ := hsl
  have hT' := hT
  obtain ⟨ht, hi⟩ := hT
  obtain ⟨i, hi1, hz, hsz, hby⟩ := info_one hi
  have hle : zs.length + ys.length ≤ 140737488355328 := Nat.le_trans hlen (Nat.div_le_self _ _)
  have hmul : (zs.length + ys.length) * b ≤ 140737488355328 := (Nat.le_div_iff_mul_le hb0).1 hlen
  have fin : ∀ v' w', Own k E w' base v' (zs ++ ys) → w.grownBy w' v.ownBlock → (∀ g, v'.ownBlock = some g → v.ownBlock = some g ∨ w.heap.size ≤ g) → K (a.put o.dst v') w' := by
    intro v' w' g1 g2 g3
    obtain ⟨a', cap', hv, -⟩ := g1.sl
    rw [List.length_append] at hv
    subst hv
    exact h a' cap' w' g1 g2 g3
  clear h
  cases ad with
  | none =>
    have hy : ys = [] := by
      cases ys with
      | nil => rfl
      | cons y r => obtain ⟨_, _, e, _⟩ := hr 0 (by simp); cases e
    subst hy
    obtain rfl := hn rfl
    have hrun := run_append_owned_none (P := P) w base t o.type E i 1 ht hi1 v zs.length (zs.map (Value.int k)) hown
    unfold Oper.wp execOp
    simp only [ho, resolve, invoke, builtin, Sem.run_bind, Sem.run_pure, Result.andThen_ok, List.map_toArray, List.map_cons, List.map_nil, hs, hx, hrun, List.length_nil]
    exact fin v w (by simpa using hown) ⟨rfl, rfl, rfl, Nat.le_refl _, fun _ _ _ => rfl⟩ (fun g hg => .inl hg)
  | some ad =>
    have hnews : ∀ j u, (ys.map (Value.int k))[j]? = some u → w.cell? (ad.add j) = some u := by
      intro j u hj
      have hjl : j < ys.length := by
        rcases Nat.lt_or_ge j ys.length with hl | hl
        · exact hl
        · rw [List.getElem?_eq_none (by simpa using hl)] at hj; cases hj
      obtain ⟨bb, off, e, hc⟩ := hr j hjl
      cases e
      have hu : u = .int k (ys.getD j 0) := by simp [hjl] at hj; simp [hjl, hj]
      rw [hu]
      by_cases hj0 : j = 0
      · subst hj0; simpa [Addr.add] using hc
      · simpa [Addr.add, hj0] using hc
    obtain ⟨v', w', hrun, g2, g3, g4⟩ := run_append_own (P := P) w base t o.type E i (.int k 0) 1 b ht hi1 hz hsz hby rfl (by decide) v zs.length (zs.map (Value.int k)) hown ad ys.length c (ys.map (Value.int k)) (by simp) hnews (by simp [Value.oneCell']) (by unfold maxLen; omega) hmul hbase
    have g5 := run_app_own hT' hown ad c ys hnews hlen hb0 hrun
    unfold Oper.wp execOp
    simp only [ho, resolve, invoke, builtin, Sem.run_bind, Sem.run_pure, Result.andThen_ok, List.map_toArray, List.map_cons, List.map_nil, hs, hx, hrun]
    exact fin v' w' (by simpa [Own, List.map_append] using g2) g3 g5
/-- One more element, that lies in a new block. -/
theorem wp_app1K {P : Program} {w : World} {o : Oper} {a : Act} {K : Act → World → Prop} {Q : Exit → Act → World → Prop} (s x : Operand) (t : TypeId)
    (ho : o.op = .call { callee := .builtin .append, args := #[s, x], argTypes := #[t, t] }) (base : Nat) (E : TypeId) (k : IntKind) (b : Nat) (hT : IntsOf P t E k b)
    (v : Value) (zs : List Int) (hs : a.eval s = v) (hown : Own k E w base v zs) (q : Nat) (y : Int) (T : TypeId) (hx : a.eval x = .slice (some ⟨q, 0, none⟩) 1 1) (hq : w.heap[q]? = some (.cells #[.int k y] T (0, 0)))
    (hlen : zs.length + 1 ≤ 140737488355328 / b) (hb0 : 0 < b) (hbase : base ≤ w.heap.size)
    (h : ∀ a' cap' w', Own k E w' base (.slice a' (zs.length + 1) cap') (zs ++ [y]) → w.grownBy w' v.ownBlock → (∀ g, (Value.slice a' (zs.length + 1) cap').ownBlock = some g → v.ownBlock = some g ∨ w.heap.size ≤ g) → K (a.put o.dst (.slice a' (zs.length + 1) cap')) w') : o.wp P a w K Q :=
  wp_appK s x t ho base E k b hT v zs hs hown (some ⟨q, 0, none⟩) 1 1 [y] hx (Row.sl (g := q) (E := T) (show Row k T w q [y] from hq) (by unfold maxLen; simp)) hlen hb0 hbase h

theorem wpList_appK {P : Program} {w : World} {ops : Array Oper} {rest : List Oper} {o : Oper} {a : Act} {Q : Exit → Act → World → Prop} (hw : Region.wanted o (yielded ops a.tmps) = true) (s x : Operand) (t : TypeId)
    (ho : o.op = .call { callee := .builtin .append, args := #[s, x], argTypes := #[t, t] }) (base : Nat) (E : TypeId) (k : IntKind) (b : Nat) (hT : IntsOf P t E k b)
    (v : Value) (zs : List Int) (hs : a.eval s = v) (hown : Own k E w base v zs)
    (ad : Option Addr) (len c : Nat) (ys : List Int) (hx : a.eval x = .slice ad len c) (hsl : Sl k w ad len c ys)
    (hlen : zs.length + len ≤ 140737488355328 / b) (hb0 : 0 < b) (hbase : base ≤ w.heap.size)
    (h : ∀ a' cap' w', Own k E w' base (.slice a' (zs.length + len) cap') (zs ++ ys) → w.grownBy w' v.ownBlock → (∀ g, (Value.slice a' (zs.length + len) cap').ownBlock = some g → v.ownBlock = some g ∨ w.heap.size ≤ g) → wpList P ops Q rest (a.put o.dst (.slice a' (zs.length + len) cap')) w') : wpList P ops Q (o :: rest) a w :=
  BigFrame.wpList_want hw fun K hK => wp_appK s x t ho base E k b hT v zs hs hown ad len c ys hx hsl hlen hb0 hbase fun a' cap' w' h1 h2 h3 => hK _ _ (h a' cap' w' h1 h2 h3)

/-- The block of the slice that lies in cell j of block B. -/
def wown (B j : Nat) (w : World) : Option Nat := (w.cell? ⟨B, j, none⟩).bind Value.ownBlock
/-- All blocks stay but B and the one of its slice; and that one is the old one or new. -/
structure Owp (B j : Nat) (w w' : World) : Prop where
  size : w.heap.size ≤ w'.heap.size
  block : ∀ k, k < w.heap.size → k ≠ B → some k ≠ wown B j w → w'.heap[k]? = w.heap[k]?
  own : ∀ k, wown B j w' = some k → wown B j w = some k ∨ w.heap.size ≤ k
theorem wown_at {B j : Nat} {w : World} {c : Array Value} {T : TypeId} {v : Value} (h : w.heap[B]? = some (.cells c T (0, 0))) (hc : c[j]? = some v) : wown B j w = v.ownBlock := by
  have := held_cell h j v hc
  unfold wown; rw [this]; rfl
theorem wown_same {B j : Nat} {w w' : World} (h : w'.heap[B]? = w.heap[B]?) : wown B j w' = wown B j w := by unfold wown World.cell?; rw [h]
theorem Owp.refl (B j : Nat) (w : World) : Owp B j w w := ⟨Nat.le_refl _, fun _ _ _ _ => rfl, fun _ h => .inl h⟩
theorem Owp.trans {B j : Nat} {w w1 w2 : World} (h1 : Owp B j w w1) (h2 : Owp B j w1 w2) : Owp B j w w2 := by
  refine ⟨Nat.le_trans h1.size h2.size, fun k hk hne ho => ?_, fun k hk => ?_⟩
  · refine (h2.block k (Nat.lt_of_lt_of_le hk h1.size) hne (fun e => ?_)).trans (h1.block k hk hne ho)
    rcases h1.own k e.symm with h | h
    · exact ho h.symm
    · omega
  · rcases h2.own k hk with h | h
    · exact h1.own k h
    · right; have := h1.size; omega
theorem Owp.after {B j : Nat} {w w' : World} (hB : B < w.heap.size) (h : After w w') : Owp B j w w' :=
  ⟨h.size, fun k hk _ _ => h.block k hk, fun k hk => .inl (by rw [wown_same (h.block B hB)] at hk; exact hk)⟩
theorem Owp.drew {B j : Nat} {w : World} : Owp B j w w.drew := ⟨Nat.le_refl _, fun _ _ _ _ => rfl, fun _ h => .inl h⟩
/-- Where only other, new blocks change. -/
theorem Owp.row {B j : Nat} {w w' : World} {r : Option Nat} {N : Nat} (hg : w.grownBy w' r) (hB : B < w.heap.size) (hr : ∀ k, r = some k → N ≤ k) {w0 : World} (h0 : Owp B j w0 w) (hBN : B < N) (hN : w0.heap.size ≤ N) : Owp B j w0 w' :=
  ⟨Nat.le_trans h0.size hg.size, fun k hk hne ho => (hg.block k (Nat.lt_of_lt_of_le hk h0.size) (fun e => by have := hr k e.symm; omega)).trans (h0.block k hk hne ho),
    fun k hk => h0.own k (by rw [← wown_same (hg.block B hB (fun e => by have := hr B e.symm; omega))]; exact hk)⟩
/-- The block's slice is set to another one of its own. -/
theorem Owp.set {B j : Nat} {w w' : World} {c : Array Value} {T : TypeId} {v : Value} {q : Option Nat} (hH : w'.heap[B]? = some (.cells c T (0, 0))) (hj : j < c.size) (hg : w.grownBy w' q) (hq : ∀ k, q = some k → wown B j w = some k) (hv : ∀ k, v.ownBlock = some k → wown B j w = some k ∨ w.heap.size ≤ k) : Owp B j w (w'.setCell ⟨B, j, none⟩ v) := by
  refine ⟨by simpa [World.setCell] using hg.size, fun k hk hne ho => ?_, fun k hk => ?_⟩
  · exact (Below.heap_setCell _ _ _ _ hne).trans (hg.block k hk (fun e => ho (hq k e.symm).symm))
  · have e : wown B j (w'.setCell ⟨B, j, none⟩ v) = v.ownBlock := wown_at (held_set hH j v) (by simp [hj])
    rw [e] at hk
    exact hv k hk
/-- Another cell of the block is set. -/
theorem Owp.cell {B j i : Nat} {w : World} {c : Array Value} {T : TypeId} {v : Value} (hH : w.heap[B]? = some (.cells c T (0, 0))) (hij : i ≠ j) (hj : j < c.size) : Owp B j w (w.setCell ⟨B, i, none⟩ v) := by
  refine ⟨by simp [World.setCell], fun k hk hne ho => Below.heap_setCell _ _ _ _ hne, fun k hk => .inl ?_⟩
  have e : wown B j (w.setCell ⟨B, i, none⟩ v) = wown B j w := by
    rw [wown_at (held_set hH i v) (v := c[j]) (by simp [hij, hj]), wown_at hH (v := c[j]) (by simp [hj])]
  rw [e] at hk; exact hk
theorem Owp.mark {B j : Nat} {w W : World} {D : Nat} {o : Obj} (h : Owp B j w W) (hD : w.heap.size ≤ D) (hB : B < w.heap.size) : Owp B j w (W.putObj D o) :=
  ⟨by rw [World.putObj_size]; exact h.size, fun k hk hne ho => (World.putObj_heap_other (by omega)).trans (h.block k hk hne ho), fun k hk => h.own k (by rw [← wown_same (World.putObj_heap_other (show B ≠ D by omega))]; exact hk)⟩
/-- Numbers stay where only a block without any changes. -/
theorem Sl.other {k : IntKind} {w w' : World} {a : Option Addr} {len cap : Nat} {zs : List Int} (h : Sl k w a len cap zs) {B : Nat} {c : Array Value} {T : TypeId} (hB : w.heap[B]? = some (.cells c T (0, 0))) (hv : ∀ (i : Nat) (x : Int), c[i]? ≠ some (.int k x)) (hw : ∀ b, b ≠ B → w'.heap[b]? = w.heap[b]?) : Sl k w' a len cap zs := by
  obtain ⟨h1, h2, h3, h4, h5⟩ := h
  refine ⟨h1, h2, h3, h4, fun i hi => ?_⟩
  obtain ⟨b, off, e, hc⟩ := h5 i hi
  refine ⟨b, off, e, ?_⟩
  have hne : b ≠ B := by
    intro e2
    subst e2
    rw [cell_of_row w b (off + i) _ T (0, 0) hB] at hc
    exact hv _ _ hc
  exact (World.cell?_of_block (w := w) (a := ⟨b, off + i, none⟩) (hw b hne)).trans hc
theorem no_int2 {k : IntKind} {a : Option Addr} {l c : Nat} {b : Bool} (i : Nat) (x : Int) : (#[Value.slice a l c, .bool b] : Array Value)[i]? ≠ some (.int k x) := by
  intro h
  match i with
  | 0 => cases h
  | 1 => cases h
  | n + 2 => simp at h

end Go.Proofs.Ytekilpmmadhpoaa
