/- Several texts in one: CelF, KepF, FlaF, OpF, ElsF. -/
import Derived.Test.YtpdpcdifnlellaaGreatKA
import Derived.Test.YtpdpcdifnlellaaGreatKB
import Derived.Laws.AppendOwn
import Derived.Deep.Slices
import Derived.ChangeSame
import Derived.OpenShut

/- Slices of structs that a function owns: append of one. -/
namespace Go.Proofs.YtpdpcdifnlellaaGreat
open Go.ChangeShapes Go.WideShapes Go.ChangeAt Go.RowKit
set_option linter.unusedVariables false

/-- A struct type of so many cells and bytes. -/
def CellsOf (P : Program) (t E : TypeId) (size bytes : Nat) : Prop := P.underlying t = some (.slice E) ∧ (P.info? E).map (fun i => (i.zero.map (fun z => z.cells.size), i.size, i.bytes)) = some (some size, size, bytes)
theorem cells_info {P : Program} {t E : TypeId} {size bytes : Nat} (h : CellsOf P t E size bytes) : ∃ i z, P.info? E = some i ∧ i.zero = some z ∧ i.size = size ∧ i.bytes = bytes ∧ z.cells.size = size := by
  obtain ⟨-, h⟩ := h
  cases hi : P.info? E with
  | none => rw [hi] at h; cases h
  | some i =>
    rw [hi] at h
    simp only [Option.map_some, Option.some.injEq, Prod.mk.injEq] at h
    obtain ⟨h1, h2, h3⟩ := h
    cases hz : i.zero with
    | none => rw [hz] at h1; cases h1
    | some z =>
      rw [hz] at h1
      exact ⟨i, z, rfl, hz, h2, h3, by simpa using h1⟩
theorem rows_shape {w : World} {base size n : Nat} {E : TypeId} {v : Value} {xs : List Value} (h : w.ownsRow base E size v (n + 1) xs) : ∃ g cap, v = .slice (some ⟨g, 0, none⟩) (n + 1) cap := by
  rcases h.2 with ⟨_, h2⟩ | ⟨g, cap, cur, hv, _⟩
  · cases h2
  · exact ⟨g, cap, hv⟩
theorem addr0 (g j : Nat) : (⟨g, 0, none⟩ : Addr).add j = ⟨g, j, none⟩ := by
  unfold Addr.add
  by_cases h : j = 0
  · subst h; simp
  · simp [h]
theorem new_cells (w : World) (cs : Array Value) (E : TypeId) : ∀ j u, cs.toList[j]? = some u → (w.alloc (.cells cs E)).cell? ((⟨w.heap.size, 0, none⟩ : Addr).add j) = some u := fun j u h => by
  rw [addr0]
  exact held_cell (alloc_new w (.cells cs E)).2.2 j u (by simpa using h)
theorem wp_appC1 {P : Program} {w : World} {o : Oper} {a : Act} {K : Act → World → Prop} {Q : Exit → Act → World → Prop} (s x : Operand) (t : TypeId)
    (ho : o.op = .call { callee := .builtin .append, args := #[s, x], argTypes := #[t, t] })
    (base size bytes : Nat) (E : TypeId) (hT : CellsOf P t E size bytes) (hsz : 0 < size)
    (v : Value) (n : Nat) (xs : List Value) (hs : a.eval s = v) (hown : w.ownsRow base E size v n xs)
    (q : Nat) (cs : Array Value) (hcs : cs.size = size) (h1 : cs.all (·.oneCell') = true) (hx : a.eval x = .slice (some ⟨q, 0, none⟩) 1 1) (hq : w.heap[q]? = some (.cells cs E (0, 0)))
    (h63 : n + 1 ≤ maxLen) (hbytes : (n + 1) * bytes ≤ 140737488355328) (hbase : base ≤ w.heap.size)
    (h : ∀ g cap w', w'.ownsRow base E size (.slice (some ⟨g, 0, none⟩) (n + 1) cap) (n + 1) (xs ++ cs.toList) → w.grownBy w' v.ownBlock → K (a.put o.dst (.slice (some ⟨g, 0, none⟩) (n + 1) cap)) w') : o.wp P a w K Q := by
  obtain ⟨i, z, hi, hz, hs1, hb1, hzs⟩ := cells_info hT
  refine wp_append_own w s x t ho base E i z size bytes hT.1 hi hz hs1 hb1 hzs hsz v n xs hs hown ⟨q, 0, none⟩ 1 1 cs.toList hx (by simp [hcs]) (fun j u hj => ?_) (fun u hu => ?_) h63 hbytes hbase fun v' w' h2 h3 _ => ?_
  · rw [addr0]
    exact held_cell hq j u (by simpa using hj)
  · exact Array.all_eq_true_iff_forall_mem.1 h1 u (Array.mem_toList_iff.1 hu)
  · obtain ⟨g, cap, rfl⟩ := rows_shape h2
    exact h g cap w' h2 h3
theorem rows_grew {w w' aw : World} {base B size n : Nat} {E : TypeId} {v : Value} {xs : List Value} (h : w.ownsRow base E size v n xs) (hg : w.grownBy w' v.ownBlock) (hb : Below B aw w) (hB : B ≤ base) (hbase : base ≤ w.heap.size) : Below B aw w' :=
  hb.grown hg (Nat.le_trans hB hbase) (fun k e => Nat.le_trans hB (h.lt k e).1)
theorem wpList_appC1 {P : Program} (w aw : World) {ops : Array Oper} {rest : List Oper} {o : Oper} {a : Act} {Q : Exit → Act → World → Prop} (hw : Region.wanted o (yielded ops a.tmps) = true) (s x : Operand) (t : TypeId)
    (ho : o.op = .call { callee := .builtin .append, args := #[s, x], argTypes := #[t, t] })
    (B base size bytes : Nat) (E : TypeId) (hT : CellsOf P t E size bytes) (hsz : 0 < size)
    (v : Value) (n : Nat) (xs : List Value) (hs : a.eval s = v) (hown : w.ownsRow base E size v n xs)
    (cs : Array Value) (hcs : cs.size = size) (h1 : cs.all (·.oneCell') = true) (hx : a.eval x = .slice (some ⟨w.heap.size, 0, none⟩) 1 1)
    (h63 : n + 1 ≤ maxLen) (hbytes : (n + 1) * bytes ≤ 140737488355328) (hbel : Below B aw w) (hB : B ≤ base) (hbase : base ≤ w.heap.size)
    (h : ∀ g cap w', w'.ownsRow base E size (.slice (some ⟨g, 0, none⟩) (n + 1) cap) (n + 1) (xs ++ cs.toList) → Below B aw w' → wpList P ops Q rest (a.put o.dst (.slice (some ⟨g, 0, none⟩) (n + 1) cap)) w') : wpList P ops Q (o :: rest) a (w.alloc (.cells cs E)) :=
  BigFrame.wpList_want hw fun K hK => wp_appC1 s x t ho base size bytes E hT hsz v n xs hs (hown.alloc _) w.heap.size cs hcs h1 hx (alloc_new w _).2.2 h63 hbytes (by rw [World.size_alloc]; omega) fun g cap w' h2 h3 => hK _ _ (h g cap w' h2 (rows_grew (hown.alloc _) h3 (hbel.alloc (Nat.le_trans hB hbase) _) hB (by rw [World.size_alloc]; omega)))
theorem rows_after {w w' : World} {base size n : Nat} {E : TypeId} {v : Value} {xs : List Value} (h : w.ownsRow base E size v n xs) (hb : Below w.heap.size w w') : w'.ownsRow base E size v n xs :=
  h.kept (row := none) ⟨hb.os, hb.tape, hb.output, hb.size, fun k hk _ => hb.block k hk⟩ (by cases hv : v.ownBlock with | none => exact .inl rfl | some b => exact .inr (by simp))
/-- The cells of a row. -/
theorem rows_cell {w : World} {base size n : Nat} {E : TypeId} {a : Option Addr} {cap : Nat} {xs : List Value} (h : w.ownsRow base E size (.slice a n cap) n xs) (h0 : 0 < n) : ∃ g, a = some ⟨g, 0, none⟩ ∧ base ≤ g ∧ ∀ j u, xs[j]? = some u → w.cell? ⟨g, j, none⟩ = some u := by
  rcases h.2 with ⟨_, h2⟩ | ⟨g, c, cur, hv, hb, _⟩
  · omega
  · cases hv
    refine ⟨g, rfl, hb, fun j u hj => ?_⟩
    have := h.cells rfl j u hj
    rwa [addr0] at this
theorem rows_cap {w : World} {base size n : Nat} {E : TypeId} {a : Option Addr} {cap : Nat} {xs : List Value} (h : w.ownsRow base E size (.slice a n cap) n xs) : n ≤ cap ∧ cap ≤ maxLen ∧ (a = none → cap = 0) := by
  rcases h.2 with ⟨h1, h2⟩ | ⟨g, c, cur, hv, hb, _, hc, hm, _⟩
  · cases h1; exact ⟨Nat.le_refl _, by unfold maxLen; omega, fun _ => rfl⟩
  · cases hv; exact ⟨hc, hm, fun e => by cases e⟩

end Go.Proofs.YtpdpcdifnlellaaGreat

/- What stays as it was where a block's own slice is appended to: all other blocks. -/
namespace Go.Proofs.YtpdpcdifnlellaaGreat
open Go.ChangeShapes Go.WideShapes Go.ChangeAt Go.RowKit Go.Shelf
set_option linter.unusedVariables false

theorem run_app_own {P : Program} {w w' : World} {t ty E : TypeId} {k : IntKind} {b base : Nat} (hT : IntsOf P t E k b) {v v' : Value} {zs : List Int} (hown : Own k E w base v zs) (a : Addr) (c : Nat) (ys : List Int)
    (hnews : ∀ j u, (ys.map (Value.int k))[j]? = some u → w.cell? (a.add j) = some u) (hlen : zs.length + ys.length ≤ 140737488355328 / b) (hb0 : 0 < b)
    (h : (Builtin.append_ #[t, t] ty #[v, .slice (some a) ys.length c]).run P w = .ok v' w') : ∀ g, v'.ownBlock = some g → v.ownBlock = some g ∨ w.heap.size ≤ g := by
  obtain ⟨ht, hi⟩ := hT
  obtain ⟨i, hi1, hz, hsz, hby⟩ := info_one hi
  have hle : zs.length + ys.length ≤ 140737488355328 := Nat.le_trans hlen (Nat.div_le_self _ _)
  have hmul : (zs.length + ys.length) * b ≤ 140737488355328 := (Nat.le_div_iff_mul_le hb0).1 hlen
  have hmul2 : ys.length * b ≤ 140737488355328 := Nat.le_trans (Nat.mul_le_mul_right _ (Nat.le_add_left _ _)) hmul
  have hl : (ys.map (Value.int k)).length = ys.length * i.size := by rw [hsz]; simp
  intro g hg
  rcases hown.2 with ⟨rfl, hn⟩ | ⟨q, cap, cur, rfl, hbg, hq, hnc, hcm, hcs, htake⟩
  · by_cases hm : ys.length = 0
    · have hy : ys = [] := List.eq_nil_of_length_eq_zero hm
      subst hy
      simp [Builtin.append_, run_underlying ht, sizeOf, typeInfo, hi1, Builtin.lenOf, Builtin.firstCells, loadCells, loadCellsFrom] at h
      obtain ⟨rfl, rfl⟩ := h
      simp [Value.ownBlock] at hg
    · have hr := run_append_nil (P := P) w t ty E i (.int k 0) ht hi1 hz a ys.length c _ hl hnews (by omega) (by omega) (by rw [hby]; omega)
      rw [hr] at h
      cases h
      simp [Value.ownBlock] at hg
      right; omega
  · by_cases hroom : zs.length + ys.length ≤ cap
    · have hr := run_append_room (P := P) w t ty E i ht hi1 q zs.length cap cur hq a ys.length c _ hl hnews (by simp [Value.oneCell']) hroom (by rw [hcs, hsz]; simp; omega)
      rw [hr] at h
      cases h
      left; simpa [Value.ownBlock] using hg
    · have hr := run_append_grow (P := P) w t ty E i (.int k 0) ht hi1 hz ⟨q, 0, none⟩ zs.length cap (zs.map (Value.int k)) (by rw [hsz]; simp) (World.ownsRow.cells hown (g := q) rfl) a ys.length c _ hl hnews (by omega) (by omega) (by rw [hby]; exact growslice_fits (by omega) hmul)
      rw [hr] at h
      cases h
      simp [Value.ownBlock] at hg
      right; omega

/-- append, and where the new slice lies: where the old one lay, or in a new block. -/
theorem wp_appK {P : Program} {w : World} {o : Oper} {a : Act} {K : Act → World → Prop} {Q : Exit → Act → World → Prop} (s x : Operand) (t : TypeId)
    (ho : o.op = .call { callee := .builtin .append, args := #[s, x], argTypes := #[t, t] }) (base : Nat) (E : TypeId) (k : IntKind) (b : Nat) (hT : IntsOf P t E k b)
    (v : Value) (zs : List Int) (hs : a.eval s = v) (hown : Own k E w base v zs)
    (ad : Option Addr) (len c : Nat) (ys : List Int) (hx : a.eval x = .slice ad len c) (hsl : Sl k w ad len c ys)
    (hlen : zs.length + len ≤ 140737488355328 / b) (hb0 : 0 < b) (hbase : base ≤ w.heap.size)
    (h : ∀ a' cap' w', Own k E w' base (.slice a' (zs.length + len) cap') (zs ++ ys) → w.grownBy w' v.ownBlock → (∀ g, (Value.slice a' (zs.length + len) cap').ownBlock = some g → v.ownBlock = some g ∨ w.heap.size ≤ g) → K (a.put o.dst (.slice a' (zs.length + len) cap')) w') : o.wp P a w K Q := by
  obtain ⟨rfl, h2, h3, hn, hr⟩ := hsl
  have hT' := hT
  obtain ⟨ht, hi⟩ := hT
  obtain ⟨i, hi1, hz, hsz, hby⟩ := info_one hi
  have hle : zs.length + ys.length ≤ 140737488355328 := Nat.le_trans hlen (Nat.div_le_self _ _)
  have hmul : (zs.length + ys.length) * b ≤ 140737488355328 := (Nat.le_div_iff_mul_le hb0).1 hlen
  have fin : ∀ v' w', Own k E w' base v' (zs ++ ys) → w.grownBy w' v.ownBlock → (∀ g, v'.ownBlock = some g → v.ownBlock = some g ∨ w.heap.size ≤ g) → K (a.put o.dst v') w' := by
    intro v' w' g1 g2 g3
    obtain ⟨a', cap', hv, -⟩ := g1.sl
    rw [List.length_append] at hv
    subst hv
    exact h a' cap' w' g1 g2 g3
  clear h
  cases ad with
  | none =>
    have hy : ys = [] := by
      cases ys with
      | nil => rfl
      | cons y r => obtain ⟨_, _, e, _⟩ := hr 0 (by simp); cases e
    subst hy
    obtain rfl := hn rfl
    have hrun := run_append_owned_none (P := P) w base t o.type E i 1 ht hi1 v zs.length (zs.map (Value.int k)) hown
    unfold Oper.wp execOp
    simp only [ho, resolve, invoke, builtin, Sem.run_bind, Sem.run_pure, Result.andThen_ok, List.map_toArray, List.map_cons, List.map_nil, hs, hx, hrun, List.length_nil]
    exact fin v w (by simpa using hown) ⟨rfl, rfl, rfl, Nat.le_refl _, fun _ _ _ => rfl⟩ (fun g hg => .inl hg)
  | some ad =>
    have hnews : ∀ j u, (ys.map (Value.int k))[j]? = some u → w.cell? (ad.add j) = some u := by
      intro j u hj
      have hjl : j < ys.length := by
        rcases Nat.lt_or_ge j ys.length with hl | hl
        · exact hl
        · rw [List.getElem?_eq_none (by simpa using hl)] at hj; cases hj
      obtain ⟨bb, off, e, hc⟩ := hr j hjl
      cases e
      have hu : u = .int k (ys.getD j 0) := by simp [hjl] at hj; simp [hjl, hj]
      rw [hu]
      by_cases hj0 : j = 0
      · subst hj0; simpa [Addr.add] using hc
      · simpa [Addr.add, hj0] using hc
    obtain ⟨v', w', hrun, g2, g3, g4⟩ := run_append_own (P := P) w base t o.type E i (.int k 0) 1 b ht hi1 hz hsz hby rfl (by decide) v zs.length (zs.map (Value.int k)) hown ad ys.length c (ys.map (Value.int k)) (by simp) hnews (by simp [Value.oneCell']) (by unfold maxLen; omega) hmul hbase
    have g5 := run_app_own hT' hown ad c ys hnews hlen hb0 hrun
    unfold Oper.wp execOp
    simp only [ho, resolve, invoke, builtin, Sem.run_bind, Sem.run_pure, Result.andThen_ok, List.map_toArray, List.map_cons, List.map_nil, hs, hx, hrun]
    exact fin v' w' (by simpa [Own, List.map_append] using g2) g3 g5
/-- One more element, that lies in a new block. -/
theorem wp_app1K {P : Program} {w : World} {o : Oper} {a : Act} {K : Act → World → Prop} {Q : Exit → Act → World → Prop} (s x : Operand) (t : TypeId)
    (ho : o.op = .call { callee := .builtin .append, args := #[s, x], argTypes := #[t, t] }) (base : Nat) (E : TypeId) (k : IntKind) (b : Nat) (hT : IntsOf P t E k b)
    (v : Value) (zs : List Int) (hs : a.eval s = v) (hown : Own k E w base v zs) (q : Nat) (y : Int) (T : TypeId) (hx : a.eval x = .slice (some ⟨q, 0, none⟩) 1 1) (hq : w.heap[q]? = some (.cells #[.int k y] T (0, 0)))
    (hlen : zs.length + 1 ≤ 140737488355328 / b) (hb0 : 0 < b) (hbase : base ≤ w.heap.size)
    (h : ∀ a' cap' w', Own k E w' base (.slice a' (zs.length + 1) cap') (zs ++ [y]) → w.grownBy w' v.ownBlock → (∀ g, (Value.slice a' (zs.length + 1) cap').ownBlock = some g → v.ownBlock = some g ∨ w.heap.size ≤ g) → K (a.put o.dst (.slice a' (zs.length + 1) cap')) w') : o.wp P a w K Q :=
  wp_appK s x t ho base E k b hT v zs hs hown (some ⟨q, 0, none⟩) 1 1 [y] hx (Row.sl (g := q) (E := T) (show Row k T w q [y] from hq) (by unfold maxLen; simp)) hlen hb0 hbase h

theorem wpList_appK {P : Program} {w : World} {ops : Array Oper} {rest : List Oper} {o : Oper} {a : Act} {Q : Exit → Act → World → Prop} (hw : Region.wanted o (yielded ops a.tmps) = true) (s x : Operand) (t : TypeId)
    (ho : o.op = .call { callee := .builtin .append, args := #[s, x], argTypes := #[t, t] }) (base : Nat) (E : TypeId) (k : IntKind) (b : Nat) (hT : IntsOf P t E k b)
    (v : Value) (zs : List Int) (hs : a.eval s = v) (hown : Own k E w base v zs)
    (ad : Option Addr) (len c : Nat) (ys : List Int) (hx : a.eval x = .slice ad len c) (hsl : Sl k w ad len c ys)
    (hlen : zs.length + len ≤ 140737488355328 / b) (hb0 : 0 < b) (hbase : base ≤ w.heap.size)
    (h : ∀ a' cap' w', Own k E w' base (.slice a' (zs.length + len) cap') (zs ++ ys) → w.grownBy w' v.ownBlock → (∀ g, (Value.slice a' (zs.length + len) cap').ownBlock = some g → v.ownBlock = some g ∨ w.heap.size ≤ g) → wpList P ops Q rest (a.put o.dst (.slice a' (zs.length + len) cap')) w') : wpList P ops Q (o :: rest) a w :=
  BigFrame.wpList_want hw fun K hK => wp_appK s x t ho base E k b hT v zs hs hown ad len c ys hx hsl hlen hb0 hbase fun a' cap' w' h1 h2 h3 => hK _ _ (h a' cap' w' h1 h2 h3)

/-- The block of the slice that lies in cell j of block B. -/
def wown (B j : Nat) (w : World) : Option Nat := (w.cell? ⟨B, j, none⟩).bind Value.ownBlock
/-- All blocks stay but B and the one of its slice; and that one is the old one or new. -/
structure Owp (B j : Nat) (w w' : World) : Prop where
  size : w.heap.size ≤ w'.heap.size
  block : ∀ k, k < w.heap.size → k ≠ B → some k ≠ wown B j w → w'.heap[k]? = w.heap[k]?
  own : ∀ k, wown B j w' = some k → wown B j w = some k ∨ w.heap.size ≤ k
theorem wown_at {B j : Nat} {w : World} {c : Array Value} {T : TypeId} {v : Value} (h : w.heap[B]? = some (.cells c T (0, 0))) (hc : c[j]? = some v) : wown B j w = v.ownBlock := by
  have := held_cell h j v hc
  unfold wown; rw [this]; rfl
theorem wown_same {B j : Nat} {w w' : World} (h : w'.heap[B]? = w.heap[B]?) : wown B j w' = wown B j w := by unfold wown World.cell?; rw [h]
theorem Owp.refl (B j : Nat) (w : World) : Owp B j w w := ⟨Nat.le_refl _, fun _ _ _ _ => rfl, fun _ h => .inl h⟩
theorem Owp.trans {B j : Nat} {w w1 w2 : World} (h1 : Owp B j w w1) (h2 : Owp B j w1 w2) : Owp B j w w2 := by
  refine ⟨Nat.le_trans h1.size h2.size, fun k hk hne ho => ?_, fun k hk => ?_⟩
  · refine (h2.block k (Nat.lt_of_lt_of_le hk h1.size) hne (fun e => ?_)).trans (h1.block k hk hne ho)
    rcases h1.own k e.symm with h | h
    · exact ho h.symm
    · omega
  · rcases h2.own k hk with h | h
    · exact h1.own k h
    · right; have := h1.size; omega
theorem Owp.after {B j : Nat} {w w' : World} (hB : B < w.heap.size) (h : After w w') : Owp B j w w' :=
  ⟨h.size, fun k hk _ _ => h.block k hk, fun k hk => .inl (by rw [wown_same (h.block B hB)] at hk; exact hk)⟩
theorem Owp.drew {B j : Nat} {w : World} : Owp B j w w.drew := ⟨Nat.le_refl _, fun _ _ _ _ => rfl, fun _ h => .inl h⟩
/-- Where only other, new blocks change. -/
theorem Owp.row {B j : Nat} {w w' : World} {r : Option Nat} {N : Nat} (hg : w.grownBy w' r) (hB : B < w.heap.size) (hr : ∀ k, r = some k → N ≤ k) {w0 : World} (h0 : Owp B j w0 w) (hBN : B < N) (hN : w0.heap.size ≤ N) : Owp B j w0 w' :=
  ⟨Nat.le_trans h0.size hg.size, fun k hk hne ho => (hg.block k (Nat.lt_of_lt_of_le hk h0.size) (fun e => by have := hr k e.symm; omega)).trans (h0.block k hk hne ho),
    fun k hk => h0.own k (by rw [← wown_same (hg.block B hB (fun e => by have := hr B e.symm; omega))]; exact hk)⟩
/-- The block's slice is set to another one of its own. -/
theorem Owp.set {B j : Nat} {w w' : World} {c : Array Value} {T : TypeId} {v : Value} {q : Option Nat} (hH : w'.heap[B]? = some (.cells c T (0, 0))) (hj : j < c.size) (hg : w.grownBy w' q) (hq : ∀ k, q = some k → wown B j w = some k) (hv : ∀ k, v.ownBlock = some k → wown B j w = some k ∨ w.heap.size ≤ k) : Owp B j w (w'.setCell ⟨B, j, none⟩ v) := by
  refine ⟨by simpa [World.setCell] using hg.size, fun k hk hne ho => ?_, fun k hk => ?_⟩
  · exact (Below.heap_setCell _ _ _ _ hne).trans (hg.block k hk (fun e => ho (hq k e.symm).symm))
  · have e : wown B j (w'.setCell ⟨B, j, none⟩ v) = v.ownBlock := wown_at (held_set hH j v) (by simp [hj])
    rw [e] at hk
    exact hv k hk
/-- Another cell of the block is set. -/
theorem Owp.cell {B j i : Nat} {w : World} {c : Array Value} {T : TypeId} {v : Value} (hH : w.heap[B]? = some (.cells c T (0, 0))) (hij : i ≠ j) (hj : j < c.size) : Owp B j w (w.setCell ⟨B, i, none⟩ v) := by
  refine ⟨by simp [World.setCell], fun k hk hne ho => Below.heap_setCell _ _ _ _ hne, fun k hk => .inl ?_⟩
  have e : wown B j (w.setCell ⟨B, i, none⟩ v) = wown B j w := by
    rw [wown_at (held_set hH i v) (v := c[j]) (by simp [hij, hj]), wown_at hH (v := c[j]) (by simp [hj])]
  rw [e] at hk; exact hk
theorem Owp.mark {B j : Nat} {w W : World} {D : Nat} {o : Obj} (h : Owp B j w W) (hD : w.heap.size ≤ D) (hB : B < w.heap.size) : Owp B j w (W.putObj D o) :=
  ⟨by rw [World.putObj_size]; exact h.size, fun k hk hne ho => (World.putObj_heap_other (by omega)).trans (h.block k hk hne ho), fun k hk => h.own k (by rw [← wown_same (World.putObj_heap_other (show B ≠ D by omega))]; exact hk)⟩
/-- Numbers stay where only a block without any changes. -/
theorem Sl.other {k : IntKind} {w w' : World} {a : Option Addr} {len cap : Nat} {zs : List Int} (h : Sl k w a len cap zs) {B : Nat} {c : Array Value} {T : TypeId} (hB : w.heap[B]? = some (.cells c T (0, 0))) (hv : ∀ (i : Nat) (x : Int), c[i]? ≠ some (.int k x)) (hw : ∀ b, b ≠ B → w'.heap[b]? = w.heap[b]?) : Sl k w' a len cap zs := by
  obtain ⟨h1, h2, h3, h4, h5⟩ := h
  refine ⟨h1, h2, h3, h4, fun i hi => ?_⟩
  obtain ⟨b, off, e, hc⟩ := h5 i hi
  refine ⟨b, off, e, ?_⟩
  have hne : b ≠ B := by
    intro e2
    subst e2
    rw [cell_of_row w b (off + i) _ T (0, 0) hB] at hc
    exact hv _ _ hc
  exact (World.cell?_of_block (w := w) (a := ⟨b, off + i, none⟩) (hw b hne)).trans hc
theorem no_int2 {k : IntKind} {a : Option Addr} {l c : Nat} {b : Bool} (i : Nat) (x : Int) : (#[Value.slice a l c, .bool b] : Array Value)[i]? ≠ some (.int k x) := by
  intro h
  match i with
  | 0 => cases h
  | 1 => cases h
  | n + 2 => simp at h

end Go.Proofs.YtpdpcdifnlellaaGreat

/- Arguments that are slices of structs: opened at every index. -/
namespace Go.Proofs.YtpdpcdifnlellaaGreat
open Go.ChangeShapes Go.WideShapes Go.RowKit
set_option linter.unusedVariables false

section
variable {H : Type} {enc : TypeId × Value → H} {P : Program} {w : World} {base : Nat} {spare : Nat → Bool} {held : Bool}
/-- The fields of e are of one cell each, in order. -/
def flatB (P : Program) (e : TypeId) (fs : Array Field) : Prop := P.underlying e = some (.struct fs) ∧ P.cellsOf e = fs.size ∧ ∀ (j : Nat) (f : Field), fs[j]? = some f → f.offset = j ∧ P.cellsOf f.type = 1

/-- A struct of one-cell fields, from its cells. -/
theorem open_flat {e : TypeId} {fs : Array Field} {fuel : Nat} {cs : List Value} {x : DataW H × List MemPlace} (hf : flatB P e fs) (h : DataW.trod enc P w base spare held fuel e cs = some x) :
    cs.length = fs.size ∧ ∃ n, ∀ (j : Nat) (f : Field), fs[j]? = some f → ∃ v y, cs[j]? = some v ∧ DataW.trod enc P w base spare held n f.type [v] = some y := by
  obtain ⟨he, hc, ho⟩ := hf
  obtain ⟨xs, n, _, _, hl, hx, hg⟩ := DataW.trod_struct he h
  refine ⟨hl.trans hc, n, fun j f hj => ?_⟩
  have hjs : j < fs.size := (Array.getElem?_eq_some_iff.1 hj).1
  obtain ⟨o, c⟩ := ho j f hj
  have h1 := hg j f hj
  rw [o, c] at h1
  have hjc : j < cs.length := by omega
  have hjx : j < xs.length := by omega
  refine ⟨cs[j], xs[j], List.getElem?_eq_getElem hjc, ?_⟩
  rw [List.getElem?_eq_getElem hjx] at h1
  rw [← h1]
  congr 1
  rw [List.drop_eq_getElem_cons hjc]
  rfl

/-- A slice of structs of one-cell fields, opened: each field's cell, and what it reads as. -/
theorem open_flats {t e : TypeId} {fs : Array Field} {fuel : Nat} {cs : List Value} {x : DataW H × List MemPlace} (ht : P.underlying t = some (.slice e)) (hf : flatB P e fs) (h : DataW.trod enc P w base spare held fuel t cs = some x) :
    cs = [.slice none 0 0] ∨ ∃ (a : Addr) (len cap n : Nat), cs = [.slice (some a) len cap] ∧ len ≤ cap ∧ cap ≤ maxLen ∧
      ∀ i, i < len → ∀ (j : Nat) (f : Field), fs[j]? = some f → ∃ v y, w.cell? (a.add (i * fs.size + j)) = some v ∧ DataW.trod enc P w base spare held n f.type [v] = some y := by
  rcases Go.Deep.open_slice ht h with ⟨h0, _⟩ | ⟨a, len, cap, m, n, D, Pl, rfl, hb, hl, hm, hmm, rfl, hx⟩
  · exact .inl h0
  right
  have hlm : len ≤ m := by rw [hmm]; split <;> omega
  have key : ∀ i, i < len → ∃ k, ∀ (j : Nat) (f : Field), fs[j]? = some f → ∃ v y, w.cell? (a.add (i * fs.size + j)) = some v ∧ DataW.trod enc P w base spare held k f.type [v] = some y := fun i hi => by
    obtain ⟨cs', h1, h2⟩ := hx i (by omega)
    rw [hf.2.1] at h1
    obtain ⟨_, hlen, hcell⟩ := World.cells?_some h1
    obtain ⟨_, k, hk⟩ := open_flat hf h2
    refine ⟨k, fun j f hj => ?_⟩
    obtain ⟨v, y, hv, hy⟩ := hk j f hj
    refine ⟨v, y, ?_, hy⟩
    have := hcell j (Array.getElem?_eq_some_iff.1 hj).1
    rw [Go.Deep.add_add] at this
    rw [this]; exact hv
  obtain ⟨k, hk⟩ := Go.Deep.fuel_lt (q := fun i k => ∀ (j : Nat) (f : Field), fs[j]? = some f → ∃ v y, w.cell? (a.add (i * fs.size + j)) = some v ∧ DataW.trod enc P w base spare held k f.type [v] = some y)
    (fun i b c hbc hq j f hj => by obtain ⟨v, y, h1, h2⟩ := hq j f hj; exact ⟨v, y, h1, DataW.trod_le hbc h2⟩) key
  exact ⟨a, len, cap, k, rfl, hl, hm, hk⟩
end
/-- A slice of structs of m cells each: element i's cell j holds V i j. -/
def Flat (w : World) (a : Option Addr) (len cap m : Nat) (V : Nat → Nat → Value) : Prop :=
  len ≤ cap ∧ cap ≤ maxLen ∧ (a = none → cap = 0) ∧ ∀ i, i < len → ∀ j, j < m → ∃ b off, a = some ⟨b, off, none⟩ ∧ w.cell? ⟨b, off + (i * m + j), none⟩ = some (V i j)
theorem Flat.below {w w' : World} {a : Option Addr} {len cap m : Nat} {V : Nat → Nat → Value} (h : Flat w a len cap m V) (hb : Below w.heap.size w w') : Flat w' a len cap m V :=
  ⟨h.1, h.2.1, h.2.2.1, fun i hi j hj => by
    obtain ⟨b, off, e, hc⟩ := h.2.2.2 i hi j hj
    exact ⟨b, off, e, (Below.cell hb (World.block_lt_of_cell? w _ hc)).trans hc⟩⟩

section
variable {H : Type} {enc : TypeId × Value → H} {P : Program} {w : World} {base : Nat} {spare : Nat → Bool} {held : Bool}
theorem cell_plain0 {w : World} {x : Addr} {v : Value} (h : w.cell? x = some v) : ∃ b off, x = ⟨b, off, none⟩ := by
  obtain ⟨b, off, s⟩ := x
  cases s with
  | none => exact ⟨b, off, rfl⟩
  | some s =>
    exfalso
    simp [World.cell?] at h
    split at h <;> simp at h
theorem add_at (b off k : Nat) : (⟨b, off, none⟩ : Addr).add k = ⟨b, off + k, none⟩ := by
  unfold Addr.add; split
  · rename_i h; subst h; rfl
  · rfl
open Classical in
theorem flat_open {t e : TypeId} {fs : Array Field} {fuel : Nat} {a : Option Addr} {len cap : Nat} {x : DataW H × List MemPlace} (ht : P.underlying t = some (.slice e)) (hf : flatB P e fs) (h : DataW.trod enc P w base spare held fuel t [.slice a len cap] = some x) :
    ∃ V : Nat → Nat → Value, Flat w a len cap fs.size V ∧ ∀ i, i < len → ∀ (j : Nat) (f : Field), fs[j]? = some f → ∃ n y, DataW.trod enc P w base spare held n f.type [V i j] = some y := by
  rcases open_flats ht hf h with h0 | ⟨x, l, c, n, hcs, hl, hm, hk⟩
  · simp at h0
    obtain ⟨rfl, rfl, rfl⟩ := h0
    exact ⟨fun _ _ => undef, ⟨Nat.le_refl _, by unfold maxLen; omega, fun _ => rfl, fun i hi => by omega⟩, fun i hi => by omega⟩
  · simp at hcs
    obtain ⟨rfl, rfl, rfl⟩ := hcs
    refine ⟨fun i j => (w.cell? (x.add (i * fs.size + j))).getD undef, ⟨hl, hm, fun h => (by cases h), fun i hi j hj => ?_⟩, fun i hi j f hj => ?_⟩
    · obtain ⟨v, y, hv, _⟩ := hk i hi j fs[j] (Array.getElem?_eq_getElem hj)
      obtain ⟨v0, y0, hv0, _⟩ := hk 0 (by omega) 0 fs[0] (Array.getElem?_eq_getElem (by omega))
      rw [Nat.zero_mul] at hv0
      obtain ⟨b, off, rfl⟩ := cell_plain0 (x := x) hv0
      rw [add_at] at hv
      exact ⟨b, off, rfl, by dsimp only; rw [add_at, hv]; rfl⟩
    · obtain ⟨v, y, hv, hy⟩ := hk i hi j f hj
      exact ⟨n, y, by dsimp only; rw [hv]; exact hy⟩
theorem typ_int {t : TypeId} {k : IntKind} {n : Nat} {v : Value} {y : DataW H × List MemPlace} (hu : P.underlying t = some (.int k)) (h : DataW.trod enc P w base spare held n t [v] = some y) : ∃ m, v = .int k m ∧ (Lit.int k m).wf = true := by
  obtain ⟨m, e, _, hw⟩ := DataW.trod_int hu h
  simp at e
  exact ⟨m, e, hw⟩
theorem typ_bool {t : TypeId} {n : Nat} {v : Value} {y : DataW H × List MemPlace} (hu : P.underlying t = some .bool) (h : DataW.trod enc P w base spare held n t [v] = some y) : ∃ b, v = .bool b := by
  obtain ⟨b, e, _⟩ := DataW.trod_bool hu h
  simp at e
  exact ⟨b, e⟩
theorem typ_ints {t e : TypeId} {k : IntKind} {n : Nat} {v : Value} {y : DataW H × List MemPlace} (ht : P.underlying t = some (.slice e)) (he : P.underlying e = some (.int k)) (hc : P.cellsOf e = 1) (h : DataW.trod enc P w base (fun _ => true) held n t [v] = some y) :
    ∃ (a : Option Addr) (l c : Nat) (zs : List Int), v = .slice a l c ∧ IsRow k w a l c zs := by
  rcases open_ints ht he hc h with ⟨hcs, _⟩ | ⟨x, l, c, zs, hcs, _, hl, hm, hz, _, hcell, hwz⟩
  · simp at hcs; exact ⟨none, 0, 0, [], hcs, .inl ⟨rfl, rfl, rfl, rfl⟩⟩
  · simp at hcs; exact ⟨some x, l, c, zs, hcs, .inr ⟨x, rfl, hl, hm, by simpa using hz, hcell, hwz⟩⟩
/-- A struct of one-cell fields, as an argument. -/
theorem agg_open {r : Reach} {b0 : Nat} {t : TypeId} {fs : Array Field} {v : Value} {d : DataW H} {p : List MemPlace} (hf : flatB P t fs) (hv : Value.okWide P w r b0 t v) (h : DataW.Trod enc P w base spare held t v d p) :
    ∃ l : List Value, v = .agg l.toArray ∧ l.length = fs.size ∧ ∀ (j : Nat) (f : Field), fs[j]? = some f → ∃ c n y, l[j]? = some c ∧ DataW.trod enc P w base spare held n f.type [c] = some y := by
  obtain ⟨cs, rfl, hsz⟩ := okWide_struct hf.1 hv
  obtain ⟨fuel, hg⟩ := h
  obtain ⟨hl, n, hk⟩ := open_flat hf hg
  refine ⟨cs.toList, by simp, hl, fun j f hj => ?_⟩
  obtain ⟨c, y, hc, hy⟩ := hk j f hj
  exact ⟨c, n, y, hc, hy⟩
theorem typ_string {t : TypeId} {n : Nat} {v : Value} {y : DataW H × List MemPlace} (hu : P.underlying t = some .string) (h : DataW.trod enc P w base spare held n t [v] = some y) : ∃ s, v = .string s ∧ s.size ≤ maxLen := by
  obtain ⟨s, e, _, hw⟩ := DataW.trod_string hu h
  simp at e
  exact ⟨s, e, hw⟩
end

theorem list_of1 {l : List Value} (h : l.length = 1) : ∃ x0, l = [x0] := by
  match l, h with
  | [x0], _ => exact ⟨_, rfl⟩
theorem list_of2 {l : List Value} (h : l.length = 2) : ∃ x0 x1, l = [x0, x1] := by
  match l, h with
  | [x0, x1], _ => exact ⟨_, _, rfl⟩
theorem list_of3 {l : List Value} (h : l.length = 3) : ∃ x0 x1 x2, l = [x0, x1, x2] := by
  match l, h with
  | [x0, x1, x2], _ => exact ⟨_, _, _, rfl⟩
theorem list_of4 {l : List Value} (h : l.length = 4) : ∃ x0 x1 x2 x3, l = [x0, x1, x2, x3] := by
  match l, h with
  | [x0, x1, x2, x3], _ => exact ⟨_, _, _, _, rfl⟩
theorem list_of5 {l : List Value} (h : l.length = 5) : ∃ x0 x1 x2 x3 x4, l = [x0, x1, x2, x3, x4] := by
  match l, h with
  | [x0, x1, x2, x3, x4], _ => exact ⟨_, _, _, _, _, rfl⟩
theorem list_of6 {l : List Value} (h : l.length = 6) : ∃ x0 x1 x2 x3 x4 x5, l = [x0, x1, x2, x3, x4, x5] := by
  match l, h with
  | [x0, x1, x2, x3, x4, x5], _ => exact ⟨_, _, _, _, _, _, rfl⟩
theorem list_of7 {l : List Value} (h : l.length = 7) : ∃ x0 x1 x2 x3 x4 x5 x6, l = [x0, x1, x2, x3, x4, x5, x6] := by
  match l, h with
  | [x0, x1, x2, x3, x4, x5, x6], _ => exact ⟨_, _, _, _, _, _, _, rfl⟩
theorem list_of8 {l : List Value} (h : l.length = 8) : ∃ x0 x1 x2 x3 x4 x5 x6 x7, l = [x0, x1, x2, x3, x4, x5, x6, x7] := by
  match l, h with
  | [x0, x1, x2, x3, x4, x5, x6, x7], _ => exact ⟨_, _, _, _, _, _, _, _, rfl⟩

end Go.Proofs.YtpdpcdifnlellaaGreat

/- Arguments of any plain type, opened to the bottom: what cells read as a type. -/
namespace Go.Proofs.YtpdpcdifnlellaaGreat
open Go.ChangeShapes Go.WideShapes Go.RowKit
set_option linter.unusedVariables false

/-- The cells cs read as type t, n levels deep. -/
def Reads (P : Program) (w : World) : Nat → TypeId → List Value → Prop
  | 0, _, _ => True
  | n + 1, t, cs => match P.underlying t with
    | some (.int k) => ∃ m, cs = [.int k m] ∧ (Lit.int k m).wf = true
    | some .bool => ∃ b, cs = [.bool b]
    | some .string => ∃ s, cs = [.string s] ∧ s.size ≤ maxLen
    | some (.slice e) => ∃ (a : Option Addr) (l c : Nat), cs = [.slice a l c] ∧ l ≤ c ∧ c ≤ maxLen ∧ (a = none → c = 0) ∧
        ∃ V : Nat → Nat → Value, (0 < P.cellsOf e → ∀ i, i < l → ∀ j, j < P.cellsOf e → ∃ b off, a = some ⟨b, off, none⟩ ∧ w.cell? ⟨b, off + (i * P.cellsOf e + j), none⟩ = some (V i j)) ∧
        ∀ i, i < l → Reads P w n e ((List.range (P.cellsOf e)).map (V i))
    | some (.struct fs) => cs.length = P.cellsOf t ∧ ∀ (j : Nat) (f : Field), fs[j]? = some f → Reads P w n f.type ((cs.drop f.offset).take (P.cellsOf f.type))
    | some (.array m e) => cs.length = P.cellsOf t ∧ ∀ i, i < m → Reads P w n e ((cs.drop (i * P.cellsOf e)).take (P.cellsOf e))
    | _ => True

section
variable {H : Type} {enc : TypeId × Value → H} {P : Program} {w : World} {base : Nat} {spare : Nat → Bool} {held : Bool}

open Classical in
theorem reads_of : ∀ (n : Nat) (t : TypeId) (fuel : Nat) (cs : List Value) (x : DataW H × List MemPlace), DataW.trod enc P w base spare held fuel t cs = some x → Reads P w n t cs
  | 0, _, _, _, _, _ => trivial
  | n + 1, t, fuel, cs, x, h => by
    unfold Reads
    split
    · rename_i k hu
      obtain ⟨m, e, _, hw⟩ := DataW.trod_int hu h
      exact ⟨m, e, hw⟩
    · rename_i hu
      obtain ⟨b, e, _⟩ := DataW.trod_bool hu h
      exact ⟨b, e⟩
    · rename_i hu
      obtain ⟨s, e, _, hw⟩ := DataW.trod_string hu h
      exact ⟨s, e, hw⟩
    · rename_i e hu
      rcases Go.Deep.open_slice hu h with ⟨h0, _⟩ | ⟨a, len, cap, m, k, D, Pl, rfl, hb, hl, hm, hmm, rfl, hx⟩
      · exact ⟨none, 0, 0, h0, Nat.le_refl _, by unfold maxLen; omega, fun _ => rfl, fun _ _ => undef, fun _ i hi => by omega, fun i hi => by omega⟩
      · have hlm : len ≤ m := by rw [hmm]; split <;> omega
        refine ⟨some a, len, cap, rfl, hl, hm, fun h => (by cases h), fun i j => (w.cell? (a.add (i * P.cellsOf e + j))).getD undef, fun hc i hi j hj => ?_, fun i hi => ?_⟩
        · obtain ⟨cs', h1, h2⟩ := hx i (by omega)
          obtain ⟨_, hlen, hcell⟩ := World.cells?_some h1
          have hv := hcell j hj
          rw [Go.Deep.add_add, List.getElem?_eq_getElem (by omega)] at hv
          obtain ⟨cs0, h10, h20⟩ := hx 0 (by omega)
          obtain ⟨_, hlen0, hcell0⟩ := World.cells?_some h10
          have hv0 := hcell0 0 hc
          rw [Go.Deep.add_add, List.getElem?_eq_getElem (by omega), Nat.zero_mul] at hv0
          obtain ⟨b, off, rfl⟩ := cell_plain0 (x := a) (by simpa [Addr.add] using hv0)
          rw [add_at] at hv
          exact ⟨b, off, rfl, by dsimp only; rw [add_at, hv]; rfl⟩
        · obtain ⟨cs', h1, h2⟩ := hx i (by omega)
          obtain ⟨_, hlen, hcell⟩ := World.cells?_some h1
          have e1 : (List.range (P.cellsOf e)).map (fun j => (w.cell? (a.add (i * P.cellsOf e + j))).getD undef) = cs' := by
            refine List.ext_getElem (by simp [hlen]) fun j hj1 hj2 => ?_
            have hv := hcell j (by simpa using hj1)
            rw [Go.Deep.add_add, List.getElem?_eq_getElem hj2] at hv
            simp [hv]
          rw [e1]
          exact reads_of n _ _ _ _ h2
    · rename_i fs hu
      obtain ⟨xs, k, _, _, hl, hx, hg⟩ := DataW.trod_struct hu h
      refine ⟨hl, fun j f hj => ?_⟩
      have h1 := hg j f hj
      have hjs : j < fs.size := (Array.getElem?_eq_some_iff.1 hj).1
      rw [List.getElem?_eq_getElem (by omega)] at h1
      exact reads_of n _ _ _ _ h1
    · rename_i m e hu
      obtain ⟨xs, k, _, _, hl, hx, hg⟩ := DataW.trod_array hu h
      refine ⟨hl, fun i hi => ?_⟩
      have h1 := hg i hi
      rw [List.getElem?_eq_getElem (by omega)] at h1
      exact reads_of n _ _ _ _ h1
    · trivial
theorem reads_int {t : TypeId} {k : IntKind} {n : Nat} {v : Value} (hu : P.underlying t = some (.int k)) (h : Reads P w (n + 1) t [v]) : ∃ m, v = .int k m ∧ (Lit.int k m).wf = true := by
  unfold Reads at h; rw [hu] at h
  obtain ⟨m, e, hw⟩ := h
  simp at e
  exact ⟨m, e, hw⟩
theorem reads_bool {t : TypeId} {n : Nat} {v : Value} (hu : P.underlying t = some .bool) (h : Reads P w (n + 1) t [v]) : ∃ b, v = .bool b := by
  unfold Reads at h; rw [hu] at h
  obtain ⟨b, e⟩ := h
  simp at e
  exact ⟨b, e⟩
theorem reads_string {t : TypeId} {n : Nat} {v : Value} (hu : P.underlying t = some .string) (h : Reads P w (n + 1) t [v]) : ∃ s, v = .string s ∧ s.size ≤ maxLen := by
  unfold Reads at h; rw [hu] at h
  obtain ⟨s, e, hw⟩ := h
  simp at e
  exact ⟨s, e, hw⟩
theorem reads_slice {t e : TypeId} {n m : Nat} {v : Value} (hu : P.underlying t = some (.slice e)) (hm : P.cellsOf e = m) (hm0 : 0 < m) (h : Reads P w (n + 1) t [v]) :
    ∃ (a : Option Addr) (l c : Nat) (V : Nat → Nat → Value), v = .slice a l c ∧ Flat w a l c m V ∧ ∀ i, i < l → Reads P w n e ((List.range m).map (V i)) := by
  unfold Reads at h; rw [hu] at h
  subst hm
  obtain ⟨a, l, c, e, h1, h2, h3, V, h4, h5⟩ := h
  simp at e
  exact ⟨a, l, c, V, e, ⟨h1, h2, h3, fun i hi j hj => h4 hm0 i hi j hj⟩, h5⟩
theorem reads_ints {t e : TypeId} {k : IntKind} {n : Nat} {v : Value} (hu : P.underlying t = some (.slice e)) (he : P.underlying e = some (.int k)) (hm : P.cellsOf e = 1) (h : Reads P w (n + 2) t [v]) :
    ∃ (a : Option Addr) (l c : Nat) (zs : List Int), v = .slice a l c ∧ Sl k w a l c zs ∧ ∀ x ∈ zs, (Lit.int k x).wf = true := by
  obtain ⟨a, l, c, V, e, ⟨h1, h2, h3, h4⟩, h5⟩ := reads_slice hu hm (by omega) h
  have key : ∀ i, i < l → ∃ m, V i 0 = .int k m ∧ (Lit.int k m).wf = true := fun i hi => reads_int he (h5 i hi)
  refine ⟨a, l, c, (List.range l).map fun i => match V i 0 with | .int _ m => m | _ => 0, e, ⟨by simp, h1, h2, h3, fun i hi => ?_⟩, fun x hx => ?_⟩
  · have hi : i < l := by simpa using hi
    obtain ⟨b, off, ha, hc⟩ := h4 i hi 0 (by omega)
    obtain ⟨m, hm, _⟩ := key i hi
    refine ⟨b, off, ha, ?_⟩
    rw [Nat.mul_one, Nat.add_zero] at hc
    rw [hc, hm]
    simp [hi, hm]
  · obtain ⟨i, hi, rfl⟩ := List.mem_map.1 hx
    obtain ⟨m, hm, hw⟩ := key i (by simpa using hi)
    rw [hm]; exact hw
theorem reads_fld {t : TypeId} {fs : Array Field} {n : Nat} {cs : List Value} (hu : P.underlying t = some (.struct fs)) (h : Reads P w (n + 1) t cs) (j : Nat) (f : Field) (hj : fs[j]? = some f) {l : List Value} (hl : (cs.drop f.offset).take (P.cellsOf f.type) = l) : Reads P w n f.type l := by
  unfold Reads at h; rw [hu] at h
  subst hl
  exact h.2 j f hj
theorem reads_elt {t e : TypeId} {m : Nat} {n : Nat} {cs : List Value} (hu : P.underlying t = some (.array m e)) (h : Reads P w (n + 1) t cs) (i : Nat) (hi : i < m) {l : List Value} (hl : (cs.drop (i * P.cellsOf e)).take (P.cellsOf e) = l) : Reads P w n e l := by
  unfold Reads at h; rw [hu] at h
  subst hl
  exact h.2 i hi
theorem reads_agg {r : Reach} {b0 : Nat} {t : TypeId} {fs : Array Field} {v : Value} {d : DataW H} {p : List MemPlace} (hf : P.underlying t = some (.struct fs)) (hv : Value.okWide P w r b0 t v) (h : DataW.Trod enc P w base spare held t v d p) (n : Nat) :
    ∃ l : List Value, v = .agg l.toArray ∧ l.length = P.cellsOf t ∧ Reads P w n t l := by
  obtain ⟨cs, rfl, hsz⟩ := okWide_struct hf hv
  obtain ⟨fuel, hg⟩ := h
  obtain ⟨xs, k, _, _, hl, _, _⟩ := DataW.trod_struct hf hg
  exact ⟨cs.toList, by simp, hl, reads_of n _ _ _ _ hg⟩
theorem reads_sl {r : Reach} {b0 : Nat} {t e : TypeId} {v : Value} {d : DataW H} {p : List MemPlace} (hf : P.underlying t = some (.slice e)) (hv : Value.okWide P w r b0 t v) (h : DataW.Trod enc P w base spare held t v d p) (n : Nat) : Reads P w n t [v] := by
  obtain ⟨a, l, c, rfl⟩ := okWide_slice hf hv
  obtain ⟨fuel, hg⟩ := h
  exact reads_of n _ _ _ _ hg
end
/-- A struct of many integers of one kind. -/
theorem ints_of {k : IntKind} {n : Nat} {l : List Value} (h : l.length = n) (hx : ∀ i, i < n → ∃ m, l[i]? = some (.int k m) ∧ (Lit.int k m).wf = true) : ∃ zs : List Int, l = zs.map (Value.int k) ∧ zs.length = n ∧ ∀ x ∈ zs, (Lit.int k x).wf = true := by
  refine ⟨l.map fun | .int _ m => m | _ => 0, ?_, by simp [h], fun x hx2 => ?_⟩
  · refine List.ext_getElem (by simp) fun i h1 h2 => ?_
    obtain ⟨m, hm, _⟩ := hx i (by omega)
    rw [List.getElem?_eq_getElem h1] at hm
    simp at hm
    simp [hm]
  · obtain ⟨v, hv, rfl⟩ := List.mem_map.1 hx2
    obtain ⟨i, hi, rfl⟩ := List.getElem_of_mem hv
    obtain ⟨m, hm, hw⟩ := hx i (by omega)
    rw [List.getElem?_eq_getElem hi] at hm
    simp at hm
    rw [hm]; exact hw

end Go.Proofs.YtpdpcdifnlellaaGreat

/- Slices of any elements: read, owned (also where the block is longer than the slice's room), appended to. -/
namespace Go.Proofs.YtpdpcdifnlellaaGreat
open Go.ChangeShapes Go.WideShapes Go.ChangeAt Go.RowKit
set_option linter.unusedVariables false

/-- A slice that is read: the cells of its elements, m each. -/
def Els (w : World) (m : Nat) (a : Option Addr) (len cap : Nat) (xs : List (List Value)) : Prop :=
  xs.length = len ∧ len ≤ cap ∧ cap ≤ maxLen ∧ (a = none → cap = 0) ∧
  ∀ i x, xs[i]? = some x → x.length = m ∧ ∃ b off, a = some ⟨b, off, none⟩ ∧ ∀ j v, x[j]? = some v → w.cell? ⟨b, off + i * m + j, none⟩ = some v
theorem Els.below {w w' : World} {m : Nat} {a : Option Addr} {len cap : Nat} {xs : List (List Value)} (h : Els w m a len cap xs) (hb : Below w.heap.size w w') : Els w' m a len cap xs :=
  ⟨h.1, h.2.1, h.2.2.1, h.2.2.2.1, fun i x hx => by
    obtain ⟨h1, b, off, e, hc⟩ := h.2.2.2.2 i x hx
    exact ⟨h1, b, off, e, fun j v hj => (Below.cell hb (World.block_lt_of_cell? w _ (hc j v hj))).trans (hc j v hj)⟩⟩
theorem Els.drewN {w : World} {m : Nat} {a : Option Addr} {len cap : Nat} {xs : List (List Value)} (h : Els w m a len cap xs) (k : Nat) : Els (w.drewN k) m a len cap xs := h
theorem Els.nil (w : World) (m : Nat) : Els w m none 0 0 [] := ⟨rfl, Nat.le_refl _, by unfold maxLen; omega, fun _ => rfl, fun i x hx => by simp at hx⟩
theorem Els.at1 {w : World} {m : Nat} {a : Option Addr} {len cap i : Nat} {xs : List (List Value)} {v0 : Value} (h : Els w m a len cap xs) (hx : xs[i]? = some [v0]) : ∃ b off, a = some ⟨b, off, none⟩ ∧ w.cell? ⟨b, off + i, none⟩ = some v0 := by
  obtain ⟨hm, b, off, e, hc⟩ := h.2.2.2.2 i _ hx
  have h0 := hc 0 v0 rfl
  obtain rfl : 1 = m := hm
  rw [Nat.mul_one, Nat.add_zero] at h0
  exact ⟨b, off, e, h0⟩
theorem Els.at2 {w : World} {m : Nat} {a : Option Addr} {len cap i : Nat} {xs : List (List Value)} {v0 v1 : Value} (h : Els w m a len cap xs) (hx : xs[i]? = some [v0, v1]) : ∃ b off, a = some ⟨b, off, none⟩ ∧ w.cell? ⟨b, off + i * 2, none⟩ = some v0 ∧ w.cell? ⟨b, off + i * 2 + 1, none⟩ = some v1 := by
  obtain ⟨hm, b, off, e, hc⟩ := h.2.2.2.2 i _ hx
  obtain rfl : 2 = m := hm
  exact ⟨b, off, e, hc 0 v0 rfl, hc 1 v1 rfl⟩
theorem Els.at3 {w : World} {m : Nat} {a : Option Addr} {len cap i : Nat} {xs : List (List Value)} {v0 v1 v2 : Value} (h : Els w m a len cap xs) (hx : xs[i]? = some [v0, v1, v2]) : ∃ b off, a = some ⟨b, off, none⟩ ∧ w.cell? ⟨b, off + i * 3, none⟩ = some v0 ∧ w.cell? ⟨b, off + i * 3 + 1, none⟩ = some v1 ∧ w.cell? ⟨b, off + i * 3 + 2, none⟩ = some v2 := by
  obtain ⟨hm, b, off, e, hc⟩ := h.2.2.2.2 i _ hx
  obtain rfl : 3 = m := hm
  exact ⟨b, off, e, hc 0 v0 rfl, hc 1 v1 rfl, hc 2 v2 rfl⟩
theorem Els.at4 {w : World} {m : Nat} {a : Option Addr} {len cap i : Nat} {xs : List (List Value)} {v0 v1 v2 v3 : Value} (h : Els w m a len cap xs) (hx : xs[i]? = some [v0, v1, v2, v3]) : ∃ b off, a = some ⟨b, off, none⟩ ∧ w.cell? ⟨b, off + i * 4, none⟩ = some v0 ∧ w.cell? ⟨b, off + i * 4 + 1, none⟩ = some v1 ∧ w.cell? ⟨b, off + i * 4 + 2, none⟩ = some v2 ∧ w.cell? ⟨b, off + i * 4 + 3, none⟩ = some v3 := by
  obtain ⟨hm, b, off, e, hc⟩ := h.2.2.2.2 i _ hx
  obtain rfl : 4 = m := hm
  exact ⟨b, off, e, hc 0 v0 rfl, hc 1 v1 rfl, hc 2 v2 rfl, hc 3 v3 rfl⟩
theorem Els.drop {w : World} {m : Nat} {a : Option Addr} {len cap : Nat} {xs : List (List Value)} (h : Els w m a len cap xs) (k : Nat) (hk : k ≤ len) : Els w m (Option.map (fun x => x.add (k * m)) a) (len - k) (cap - k) (xs.drop k) := by
  obtain ⟨h1, h2, h3, h4, h5⟩ := h
  refine ⟨by rw [List.length_drop, h1], by omega, by omega, ?_, fun i x hx => ?_⟩
  · intro e; cases a with
    | none => have := h4 rfl; omega
    | some x => cases e
  · rw [List.getElem?_drop] at hx
    obtain ⟨hm, b, off, rfl, hc⟩ := h5 (k + i) x hx
    refine ⟨hm, b, off + k * m, by show some ((⟨b, off, none⟩ : Addr).add (k * m)) = _; unfold Addr.add; split <;> simp_all, fun j v hj => ?_⟩
    have := hc j v hj
    rw [Nat.add_mul] at this
    rw [← this]; congr 2; omega
theorem Els.take {w : World} {m : Nat} {a : Option Addr} {len cap : Nat} {xs : List (List Value)} (h : Els w m a len cap xs) (k c2 : Nat) (hk : k ≤ len) (hc : k ≤ c2) (hc2 : c2 ≤ cap) : Els w m a k c2 (xs.take k) := by
  obtain ⟨h1, h2, h3, h4, h5⟩ := h
  refine ⟨by rw [List.length_take]; omega, hc, by omega, fun e => by have := h4 e; omega, fun i x hx => ?_⟩
  rw [List.getElem?_take] at hx
  split at hx
  · exact h5 i x hx
  · cases hx
/-- The cells of all elements, one behind the other. -/
theorem Els.news {w : World} {m : Nat} {a : Option Addr} {len cap : Nat} {xs : List (List Value)} (h : Els w m a len cap xs) : xs.flatten.length = len * m ∧ ∀ ad, a = some ad → ∀ j u, xs.flatten[j]? = some u → w.cell? (ad.add j) = some u := by
  obtain ⟨h1, h2, h3, h4, h5⟩ := h
  have hl : ∀ x ∈ xs, x.length = m := fun x hx => by
    obtain ⟨i, hi, rfl⟩ := List.getElem_of_mem hx
    exact (h5 i _ (List.getElem?_eq_getElem hi)).1
  refine ⟨?_, fun ad e j u hu => ?_⟩
  · rw [← h1]
    clear h1 h2 h3 h4 h5
    induction xs with
    | nil => simp
    | cons x xs ih => rw [List.flatten_cons, List.length_append, hl x (by simp), ih (fun y hy => hl y (by simp [hy])), List.length_cons, Nat.add_mul]; omega
  · have key : ∀ (l : List (List Value)) (j : Nat), (∀ x ∈ l, x.length = m) → l.flatten[j]? = some u → ∃ i x k, l[i]? = some x ∧ x[k]? = some u ∧ j = i * m + k := by
      intro l
      induction l with
      | nil => intro j _ hj; simp at hj
      | cons x l ih =>
        intro j hl hj
        rw [List.flatten_cons] at hj
        by_cases hx : j < x.length
        · rw [List.getElem?_append_left hx] at hj
          exact ⟨0, x, j, rfl, hj, by omega⟩
        · rw [List.getElem?_append_right (by omega)] at hj
          obtain ⟨i, y, k, h1, h2, h3⟩ := ih _ (fun y hy => hl y (by simp [hy])) hj
          have := hl x (by simp)
          exact ⟨i + 1, y, k, by simpa using h1, h2, by rw [Nat.add_mul]; omega⟩
    obtain ⟨i, x, k, hx, hk, rfl⟩ := key xs j hl hu
    obtain ⟨_, b, off, e2, hc⟩ := h5 i x hx
    rw [e] at e2; cases e2
    have := hc k u hk
    rw [← this]
    show w.cell? _ = _
    congr 1
    unfold Addr.add; split
    · rename_i h0
      rw [show off + i * m + k = off from by omega]
    · simp [Nat.add_assoc]

/-- A slice of the call's own, in a block from base on; the block may be longer than the slice's room. -/
def OwnE (E : TypeId) (w : World) (base m : Nat) (v : Value) (n : Nat) (xs : List Value) : Prop :=
  xs.length = n * m ∧ ((v = .slice none 0 0 ∧ n = 0) ∨
    ∃ g cap cur, v = .slice (some ⟨g, 0, none⟩) n cap ∧ base ≤ g ∧ w.heap[g]? = some (.cells cur E (0, 0)) ∧ n ≤ cap ∧ cap ≤ maxLen ∧ cap * m ≤ cur.size ∧ cur.toList.take (n * m) = xs)
theorem OwnE.of {E : TypeId} {w : World} {base m : Nat} {v : Value} {n : Nat} {xs : List Value} (h : w.ownsRow base E m v n xs) : OwnE E w base m v n xs := by
  refine ⟨h.1, ?_⟩
  rcases h.2 with h2 | ⟨g, cap, cur, h1, h2, h3, h4, h5, h6, h7⟩
  · exact .inl h2
  · exact .inr ⟨g, cap, cur, h1, h2, h3, h4, h5, by rw [h6]; exact Nat.le_refl _, h7⟩
theorem OwnE.nil (E : TypeId) (w : World) (base m : Nat) : OwnE E w base m (.slice none 0 0) 0 [] := ⟨by simp, .inl ⟨rfl, rfl⟩⟩
theorem OwnE.below {E : TypeId} {w w' : World} {base m : Nat} {v : Value} {n : Nat} {xs : List Value} (h : OwnE E w base m v n xs) (hb : Below w.heap.size w w') : OwnE E w' base m v n xs := by
  refine ⟨h.1, ?_⟩
  rcases h.2 with h2 | ⟨g, cap, cur, h1, h2, h3, r⟩
  · exact .inl h2
  · exact .inr ⟨g, cap, cur, h1, h2, (hb.block g (held_lt h3)).trans h3, r⟩
theorem OwnE.drewN {E : TypeId} {w : World} {base m : Nat} {v : Value} {n : Nat} {xs : List Value} (h : OwnE E w base m v n xs) (k : Nat) : OwnE E (w.drewN k) base m v n xs := h
theorem OwnE.kept {E : TypeId} {w w' : World} {base m : Nat} {v : Value} {n : Nat} {xs : List Value} (h : OwnE E w base m v n xs) (hk : ∀ g, v.ownBlock = some g → w'.heap[g]? = w.heap[g]?) : OwnE E w' base m v n xs := by
  refine ⟨h.1, ?_⟩
  rcases h.2 with h2 | ⟨g, cap, cur, rfl, h2, h3, r⟩
  · exact .inl h2
  · exact .inr ⟨g, cap, cur, rfl, h2, (hk g rfl).trans h3, r⟩
theorem OwnE.base {E : TypeId} {w : World} {base b2 m : Nat} {v : Value} {n : Nat} {xs : List Value} (h : OwnE E w base m v n xs) (hb : b2 ≤ base) : OwnE E w b2 m v n xs := by
  refine ⟨h.1, ?_⟩
  rcases h.2 with h2 | ⟨g, cap, cur, h1, h2, r⟩
  · exact .inl h2
  · exact .inr ⟨g, cap, cur, h1, by omega, r⟩
theorem OwnE.lt {E : TypeId} {w : World} {base m : Nat} {v : Value} {n : Nat} {xs : List Value} (h : OwnE E w base m v n xs) : ∀ g, v.ownBlock = some g → base ≤ g ∧ g < w.heap.size ∧ ∃ cur, w.heap[g]? = some (.cells cur E (0, 0)) := by
  intro g hg
  rcases h.2 with ⟨rfl, _⟩ | ⟨g', cap, cur, rfl, h2, h3, _⟩
  · cases hg
  · simp [Value.ownBlock] at hg
    subst hg
    exact ⟨h2, held_lt h3, cur, h3⟩
theorem OwnE.ne {E : TypeId} {w : World} {base m : Nat} {v : Value} {n : Nat} {xs : List Value} (h : OwnE E w base m v n xs) {p : Nat} {c : Array Value} {T : TypeId} (hp : w.heap[p]? = some (.cells c T (0, 0))) (hT : T ≠ E) : v.ownBlock ≠ some p := by
  intro e
  obtain ⟨_, _, cur, h3⟩ := h.lt p e
  rw [hp] at h3; cases h3; exact hT rfl
theorem OwnE.sl {E : TypeId} {w : World} {base m : Nat} {v : Value} {n : Nat} {xs : List Value} (h : OwnE E w base m v n xs) : ∃ a cap, v = .slice a n cap ∧ n ≤ cap ∧ cap ≤ maxLen ∧ (a = none → cap = 0) ∧ ∀ g, a = some g → g.off = 0 ∧ g.spot = none ∧ base ≤ g.block := by
  rcases h.2 with ⟨rfl, rfl⟩ | ⟨g, cap, cur, rfl, h2, h3, h4, h5, _⟩
  · exact ⟨none, 0, rfl, Nat.le_refl _, by unfold maxLen; omega, fun _ => rfl, (fun g e => by cases e)⟩
  · exact ⟨_, cap, rfl, h4, h5, (fun e => by cases e), (fun g e => by cases e; exact ⟨rfl, rfl, h2⟩)⟩
theorem OwnE.cells {E : TypeId} {w : World} {base m : Nat} {v : Value} {n : Nat} {xs : List Value} (h : OwnE E w base m v n xs) : ∀ g, v.ownBlock = some g → ∀ j u, xs[j]? = some u → w.cell? ⟨g, j, none⟩ = some u := by
  intro g hg j u hu
  rcases h.2 with ⟨rfl, _⟩ | ⟨g', cap, cur, rfl, h2, h3, _, _, _, ht⟩
  · cases hg
  · simp [Value.ownBlock] at hg
    subst hg
    rw [cell_of_row w g' j cur E (0, 0) h3]
    rw [← ht, List.getElem?_take] at hu
    split at hu
    · simpa using hu
    · cases hu
/-- It is read like any other. -/
theorem OwnE.els {E : TypeId} {w : World} {base m : Nat} {a : Option Addr} {n cap : Nat} {xs : List (List Value)} (h : OwnE E w base m (.slice a n cap) n xs.flatten) (hn : xs.length = n) (hm : ∀ x ∈ xs, x.length = m) : Els w m a n cap xs := by
  obtain ⟨a', c', e, h1, h2, h3, h4⟩ := h.sl
  cases e
  refine ⟨hn, h1, h2, h3, fun i x hx => ⟨hm x (List.mem_of_getElem? hx), ?_⟩⟩
  have hil : i < n := by rw [← hn]; exact (List.getElem?_eq_some_iff.1 hx).1
  have hc := h.cells
  cases a with
  | none => have := h3 rfl; omega
  | some ad =>
    obtain ⟨b, off, spot⟩ := ad
    obtain ⟨e1, e2, _⟩ := h4 _ rfl
    cases e1; cases e2
    refine ⟨b, 0, rfl, fun j v hj => ?_⟩
    rw [Nat.zero_add]
    refine hc b rfl (i * m + j) v ?_
    clear hc h h1 h2 h3 h4
    have key : ∀ (l : List (List Value)) (i : Nat), (∀ y ∈ l, y.length = m) → l[i]? = some x → l.flatten[i * m + j]? = some v := by
      intro l
      induction l with
      | nil => intro i _ hi; simp at hi
      | cons y l ih =>
        intro i hl hi
        have hy := hl y (by simp)
        cases i with
        | zero =>
          simp at hi; subst hi
          rw [List.flatten_cons, List.getElem?_append_left (by have := (List.getElem?_eq_some_iff.1 hj).1; omega)]
          simpa using hj
        | succ i =>
          rw [List.flatten_cons, List.getElem?_append_right (by rw [Nat.add_mul]; omega), show (i + 1) * m + j - y.length = i * m + j from by rw [Nat.add_mul]; omega]
          exact ih i (fun z hz => hl z (by simp [hz])) (by simpa using hi)
    exact key xs i hm hx
theorem OwnE.lit {E : TypeId} (w : World) (cs : Array Value) (n base m : Nat) (hb : base ≤ w.heap.size) (hm : n ≤ maxLen) (hc : cs.size = n * m) : OwnE E (w.alloc (.cells cs E)) base m (.slice (some ⟨w.heap.size, 0, none⟩) n n) n cs.toList :=
  .of (World.ownsRow_lit w cs n hb hm hc)

/-- All cells of the block of a slice are of a kind. -/
def AllC (Pc : Value → Prop) (w : World) (v : Value) : Prop := ∀ (g : Nat) (c : Array Value) (T : TypeId) (fz : Nat × Nat), v.ownBlock = some g → w.heap[g]? = some (.cells c T fz) → ∀ u ∈ c.toList, Pc u
/-- The zero value's cells are of a kind; all of a list are. -/
def ZeroC (P : Program) (E : TypeId) (Pc : Value → Prop) : Prop := ∀ z, (P.info? E).bind (·.zero) = some z → ∀ u ∈ z.cells.toList, Pc u
def AllP (Pc : Value → Prop) (l : List Value) : Prop := ∀ u ∈ l, Pc u
theorem AllC.nil (Pc : Value → Prop) (w : World) : AllC Pc w (.slice none 0 0) := fun g c T fz h => by cases h
theorem AllC.kept {Pc : Value → Prop} {w w' : World} {v : Value} (h : AllC Pc w v) (hk : ∀ g, v.ownBlock = some g → w'.heap[g]? = w.heap[g]?) : AllC Pc w' v := fun g c T fz hg hc => h g c T fz hg (by rw [← hk g hg]; exact hc)
theorem run_appP {P : Program} (w : World) (base : Nat) (t ty E : TypeId) (m bytes : Nat) (hT : CellsOf P t E m bytes) (hm : 0 < m)
    (v : Value) (n : Nat) (xs : List Value) (hown : OwnE E w base m v n xs)
    (ad : Option Addr) (cnt c : Nat) (news : List Value) (hl : news.length = cnt * m) (hc : cnt ≤ c) (had : ad = none → c = 0) (hnews : ∀ a, ad = some a → ∀ j u, news[j]? = some u → w.cell? (a.add j) = some u) (h1 : ∀ u ∈ news, u.oneCell' = true)
    (h63 : n + cnt ≤ maxLen) (hbytes : (n + cnt) * bytes ≤ 140737488355328) (hbase : base ≤ w.heap.size) :
    ∃ v' w', (Builtin.append_ #[t, t] ty #[v, .slice ad cnt c]).run P w = .ok v' w' ∧ OwnE E w' base m v' (n + cnt) (xs ++ news) ∧ w.grownBy w' v.ownBlock ∧ (∀ g, v'.ownBlock = some g → v.ownBlock = some g ∨ w.heap.size ≤ g) ∧
      ∀ Pc : Value → Prop, (∀ z, (P.info? E).bind (·.zero) = some z → ∀ u ∈ z.cells.toList, Pc u) → AllC Pc w v → (∀ u ∈ xs, Pc u) → (∀ u ∈ news, Pc u) → AllC Pc w' v' := by
  obtain ⟨i, z, hi, hz, hs1, hb1, hzs⟩ := cells_info hT
  obtain ⟨ht, _⟩ := hT
  subst hs1
  subst hb1
  have hsmall : n + cnt ≤ 9223372036854775807 := by simp only [maxLen] at h63; omega
  have hlen : (xs ++ news).length = (n + cnt) * i.size := by rw [List.length_append, hown.1, hl, Nat.add_mul]
  have grown : ∀ (old : Nat), ∀ (row : Option Nat),
      OwnE E (w.drew.alloc (.cells (xs.toArray ++ news.toArray ++ Builtin.zeroCells z.cells (grownCap w (n + cnt) old E - (n + cnt))) E)) base i.size
        (.slice (some ⟨w.heap.size, 0, none⟩) (n + cnt) (grownCap w (n + cnt) old E)) (n + cnt) (xs ++ news) ∧
      w.grownBy (w.drew.alloc (.cells (xs.toArray ++ news.toArray ++ Builtin.zeroCells z.cells (grownCap w (n + cnt) old E - (n + cnt))) E)) row := by
    intro old row
    have hge := grownCap_ge w (n + cnt) old E
    have hcm : grownCap w (n + cnt) old E ≤ maxLen := grownCap_le_maxLen w (n + cnt) old E h63
    refine ⟨⟨hlen, .inr ⟨w.heap.size, _, _, rfl, hbase, heap_alloc_new w.drew _, hge, hcm, ?_, ?_⟩⟩, ⟨rfl, rfl, rfl, by simp, fun k hk _ => (Below.block ((Below.refl w.drew.heap.size w.drew).alloc (Nat.le_refl _) _) k hk)⟩⟩
    · refine Nat.le_of_eq ?_
      simp only [Array.size_append, List.size_toArray, size_zeroCells, hzs, hown.1, hl, ← Nat.add_mul]
      congr 1
      omega
    · simp only [Array.toList_append, List.append_assoc]
      rw [← List.append_assoc, ← hlen]
      exact List.take_left
  have zc : ∀ n : Nat, ∀ u ∈ (Builtin.zeroCells z.cells n).toList, u ∈ z.cells.toList := fun n u hu => by
    simp only [Builtin.zeroCells, Array.toList_map, List.mem_map] at hu
    obtain ⟨a, _, rfl⟩ := hu
    have hp : 0 < z.cells.size := by rw [hzs]; exact hm
    have hlt : a % z.cells.size < z.cells.size := Nat.mod_lt _ hp
    rw [getElem!_pos z.cells _ hlt]
    exact Array.getElem_mem_toList hlt
  have allG : ∀ (old : Nat) (Pc : Value → Prop), (∀ z, (P.info? E).bind (·.zero) = some z → ∀ u ∈ z.cells.toList, Pc u) → (∀ u ∈ xs, Pc u) → (∀ u ∈ news, Pc u) → AllC Pc (w.drew.alloc (.cells (xs.toArray ++ news.toArray ++ Builtin.zeroCells z.cells (grownCap w (n + cnt) old E - (n + cnt))) E)) (.slice (some ⟨w.heap.size, 0, none⟩) (n + cnt) (grownCap w (n + cnt) old E)) := by
    intro old Pc hzz hx hn g c T fz hg hc u hu
    have e : w.heap.size = g := Option.some.inj hg
    subst e
    have h1 := heap_alloc_new w.drew (.cells (xs.toArray ++ news.toArray ++ Builtin.zeroCells z.cells (grownCap w (n + cnt) old E - (n + cnt))) E)
    have h2 : (w.drew.alloc (.cells (xs.toArray ++ news.toArray ++ Builtin.zeroCells z.cells (grownCap w (n + cnt) old E - (n + cnt))) E)).heap[w.heap.size]? = _ := h1
    rw [h2] at hc
    cases hc
    simp only [Array.toList_append, List.mem_append] at hu
    rcases hu with (hu | hu) | hu
    · exact hx u hu
    · exact hn u hu
    · exact hzz z (by rw [hi]; exact hz) u (zc _ u hu)
  cases ad with
  | none =>
    obtain rfl := had rfl
    obtain rfl : cnt = 0 := by omega
    have hn : news = [] := List.eq_nil_of_length_eq_zero (by simpa using hl)
    subst hn
    refine ⟨v, w, ?_, by simpa using hown, ⟨rfl, rfl, rfl, Nat.le_refl _, fun _ _ _ => rfl⟩, fun g hg => .inl hg, fun _ _ h _ _ => h⟩
    rcases hown.2 with ⟨rfl, rfl⟩ | ⟨g, cap, cur, rfl, hbg, hg, hnc, hcm, hcs, htake⟩
    · simp [Builtin.append_, run_underlying ht, sizeOf, typeInfo, hi, Builtin.lenOf, Builtin.firstCells]
    · simp [Builtin.append_, run_underlying ht, sizeOf, typeInfo, hi, Builtin.lenOf, Builtin.firstCells, hnc, storeCells]
  | some a =>
    have hnews := hnews a rfl
    rcases hown.2 with ⟨rfl, rfl⟩ | ⟨g, cap, cur, rfl, hbg, hg, hnc, hcm, hcs, htake⟩
    · have hx : xs = [] := List.eq_nil_of_length_eq_zero (by simpa using hown.1)
      subst hx
      by_cases hm0 : cnt = 0
      · subst hm0
        have hn : news = [] := List.eq_nil_of_length_eq_zero (by simpa using hl)
        subst hn
        refine ⟨.slice none 0 0, w, ?_, OwnE.nil E w base i.size, ⟨rfl, rfl, rfl, Nat.le_refl _, fun _ _ _ => rfl⟩, fun g hg => .inl hg, fun _ _ h _ _ => h⟩
        simp [Builtin.append_, run_underlying ht, sizeOf, typeInfo, hi, Builtin.lenOf, Builtin.firstCells, loadCells, loadCellsFrom]
      · have hr := run_append_nil (P := P) w t ty E i z ht hi hz a cnt c news hl hnews (by omega) (by omega) (by have hb := hbytes; simp only [Nat.zero_add] at hb; omega)
        have hgr := grown 0 (Value.ownBlock (.slice none 0 0))
        have hag := allG 0
        simp only [Nat.zero_add, List.nil_append, Array.empty_append] at hgr hag ⊢
        exact ⟨_, _, hr, hgr.1, hgr.2, fun g hg => (by simp [Value.ownBlock] at hg; exact .inr (by omega)), fun Pc h1 _ h3 h4 => hag Pc h1 h3 h4⟩
    · by_cases hroom : n + cnt ≤ cap
      · have hfit : n * i.size + news.length ≤ cur.size := by rw [hl, ← Nat.add_mul]; exact Nat.le_trans (Nat.mul_le_mul_right _ hroom) hcs
        have hr := run_append_room (P := P) w t ty E i ht hi g n cap cur hg a cnt c news hl hnews h1 hroom hfit
        refine ⟨_, _, hr, ⟨hlen, .inr ⟨g, cap, _, rfl, hbg, setRow_heap w g cur _ E _ hg, hroom, hcm, ?_, ?_⟩⟩, ⟨rfl, rfl, rfl, by simp, fun k _ hk => setRow_other w g k _ (fun e => hk (by simp [Value.ownBlock, e]))⟩, fun g' hg' => .inl hg', ?_⟩
        · simp only [List.size_toArray, List.length_append, List.length_take, List.length_drop, Array.length_toList]
          omega
        · rw [htake, ← hlen]
          exact List.take_left
        · intro Pc h1 h2 h3 h4 g' c T fz hg' hc u hu
          have e : g = g' := Option.some.inj hg'
          subst e
          rw [setRow_heap w g cur _ E _ hg] at hc
          cases hc
          simp only [List.mem_append] at hu
          rcases hu with (hu | hu) | hu
          · exact h2 g cur E _ rfl hg u (List.mem_of_mem_take hu)
          · exact h4 u hu
          · exact h2 g cur E _ rfl hg u (List.mem_of_mem_drop hu)
      · have holds : ∀ j u, xs[j]? = some u → w.cell? ((⟨g, 0, none⟩ : Addr).add j) = some u := fun j u hu => by rw [addr0]; exact hown.cells g rfl j u hu
        have hr := run_append_grow (P := P) w t ty E i z ht hi hz ⟨g, 0, none⟩ n cap xs hown.1 holds a cnt c news hl hnews (by omega) (by omega) (growslice_fits (by omega) hbytes)
        have hgr := grown cap (Value.ownBlock (.slice (some ⟨g, 0, none⟩) n cap))
        exact ⟨_, _, hr, hgr.1, hgr.2, fun g' hg' => (by simp [Value.ownBlock] at hg'; exact .inr (by omega)), fun Pc h1 _ h3 h4 => allG cap Pc h1 h3 h4⟩
theorem run_appE {P : Program} (w : World) (base : Nat) (t ty E : TypeId) (m bytes : Nat) (hT : CellsOf P t E m bytes) (hm : 0 < m)
    (v : Value) (n : Nat) (xs : List Value) (hown : OwnE E w base m v n xs)
    (ad : Option Addr) (cnt c : Nat) (news : List Value) (hl : news.length = cnt * m) (hc : cnt ≤ c) (had : ad = none → c = 0) (hnews : ∀ a, ad = some a → ∀ j u, news[j]? = some u → w.cell? (a.add j) = some u) (h1 : ∀ u ∈ news, u.oneCell' = true)
    (h63 : n + cnt ≤ maxLen) (hbytes : (n + cnt) * bytes ≤ 140737488355328) (hbase : base ≤ w.heap.size) :
    ∃ v' w', (Builtin.append_ #[t, t] ty #[v, .slice ad cnt c]).run P w = .ok v' w' ∧ OwnE E w' base m v' (n + cnt) (xs ++ news) ∧ w.grownBy w' v.ownBlock ∧ (∀ g, v'.ownBlock = some g → v.ownBlock = some g ∨ w.heap.size ≤ g) := by
  obtain ⟨v', w', h1, h2, h3, h4, _⟩ := run_appP (P := P) w base t ty E m bytes hT hm v n xs hown ad cnt c news hl hc had hnews h1 h63 hbytes hbase
  exact ⟨v', w', h1, h2, h3, h4⟩
theorem wp_appE {P : Program} {w : World} {o : Oper} {a : Act} {K : Act → World → Prop} {Q : Exit → Act → World → Prop} (s x : Operand) (t : TypeId)
    (ho : o.op = .call { callee := .builtin .append, args := #[s, x], argTypes := #[t, t] })
    (base : Nat) (E : TypeId) (m bytes : Nat) (hT : CellsOf P t E m bytes) (hm : 0 < m)
    (v : Value) (n : Nat) (xs : List Value) (hs : a.eval s = v) (hown : OwnE E w base m v n xs)
    (ad : Option Addr) (cnt c : Nat) (ys : List (List Value)) (hx : a.eval x = .slice ad cnt c) (hys : Els w m ad cnt c ys) (h1 : ∀ y ∈ ys, ∀ u ∈ y, u.oneCell' = true)
    (h63 : n + cnt ≤ maxLen) (hbytes : (n + cnt) * bytes ≤ 140737488355328) (hbase : base ≤ w.heap.size)
    (h : ∀ a' cap' w', OwnE E w' base m (.slice a' (n + cnt) cap') (n + cnt) (xs ++ ys.flatten) → w.grownBy w' v.ownBlock → (∀ g, (Value.slice a' (n + cnt) cap').ownBlock = some g → v.ownBlock = some g ∨ w.heap.size ≤ g) → K (a.put o.dst (.slice a' (n + cnt) cap')) w') : o.wp P a w K Q := by
  obtain ⟨hl, hn⟩ := hys.news
  obtain ⟨v', w', hr, h2, h3, h4⟩ := run_appE (P := P) w base t o.type E m bytes hT hm v n xs hown ad cnt c ys.flatten hl hys.2.1 hys.2.2.2.1 hn (fun u hu => by obtain ⟨y, hy, hu2⟩ := List.mem_flatten.1 hu; exact h1 y hy u hu2) h63 hbytes hbase
  obtain ⟨a', cap', rfl, _⟩ := h2.sl
  unfold Oper.wp execOp
  simp only [ho, resolve, invoke, builtin, Sem.run_bind, Sem.run_pure, Result.andThen_ok, List.map_toArray, List.map_cons, List.map_nil, hs, hx, hr]
  exact h a' cap' w' h2 h3 h4
theorem wpList_appE {P : Program} {w : World} {ops : Array Oper} {rest : List Oper} {o : Oper} {a : Act} {Q : Exit → Act → World → Prop} (hw : Region.wanted o (yielded ops a.tmps) = true) (s x : Operand) (t : TypeId)
    (ho : o.op = .call { callee := .builtin .append, args := #[s, x], argTypes := #[t, t] })
    (base : Nat) (E : TypeId) (m bytes : Nat) (hT : CellsOf P t E m bytes) (hm : 0 < m)
    (v : Value) (n : Nat) (xs : List Value) (hs : a.eval s = v) (hown : OwnE E w base m v n xs)
    (ad : Option Addr) (cnt c : Nat) (ys : List (List Value)) (hx : a.eval x = .slice ad cnt c) (hys : Els w m ad cnt c ys) (h1 : ∀ y ∈ ys, ∀ u ∈ y, u.oneCell' = true)
    (h63 : n + cnt ≤ maxLen) (hbytes : (n + cnt) * bytes ≤ 140737488355328) (hbase : base ≤ w.heap.size)
    (h : ∀ a' cap' w', OwnE E w' base m (.slice a' (n + cnt) cap') (n + cnt) (xs ++ ys.flatten) → w.grownBy w' v.ownBlock → (∀ g, (Value.slice a' (n + cnt) cap').ownBlock = some g → v.ownBlock = some g ∨ w.heap.size ≤ g) → wpList P ops Q rest (a.put o.dst (.slice a' (n + cnt) cap')) w') : wpList P ops Q (o :: rest) a w :=
  BigFrame.wpList_want hw fun K hK => wp_appE s x t ho base E m bytes hT hm v n xs hs hown ad cnt c ys hx hys h1 h63 hbytes hbase fun a' cap' w' h1 h2 h3 => hK _ _ (h a' cap' w' h1 h2 h3)
theorem wp_appP {P : Program} {w : World} {o : Oper} {a : Act} {K : Act → World → Prop} {Q : Exit → Act → World → Prop} (s x : Operand) (t : TypeId)
    (ho : o.op = .call { callee := .builtin .append, args := #[s, x], argTypes := #[t, t] })
    (base : Nat) (E : TypeId) (m bytes : Nat) (hT : CellsOf P t E m bytes) (hm : 0 < m)
    (v : Value) (n : Nat) (xs : List Value) (hs : a.eval s = v) (hown : OwnE E w base m v n xs)
    (ad : Option Addr) (cnt c : Nat) (ys : List (List Value)) (hx : a.eval x = .slice ad cnt c) (hys : Els w m ad cnt c ys) (h1 : ∀ y ∈ ys, ∀ u ∈ y, u.oneCell' = true)
    (h63 : n + cnt ≤ maxLen) (hbytes : (n + cnt) * bytes ≤ 140737488355328) (hbase : base ≤ w.heap.size)
    (h : ∀ a' cap' w', OwnE E w' base m (.slice a' (n + cnt) cap') (n + cnt) (xs ++ ys.flatten) → w.grownBy w' v.ownBlock → (∀ g, (Value.slice a' (n + cnt) cap').ownBlock = some g → v.ownBlock = some g ∨ w.heap.size ≤ g) → (∀ Pc : Value → Prop, ZeroC P E Pc → AllC Pc w v → AllP Pc xs → AllP Pc ys.flatten → AllC Pc w' (.slice a' (n + cnt) cap')) → K (a.put o.dst (.slice a' (n + cnt) cap')) w') : o.wp P a w K Q := by
  obtain ⟨hl, hn⟩ := hys.news
  obtain ⟨v', w', hr, h2, h3, h4, h5⟩ := run_appP (P := P) w base t o.type E m bytes hT hm v n xs hown ad cnt c ys.flatten hl hys.2.1 hys.2.2.2.1 hn (fun u hu => by obtain ⟨y, hy, hu2⟩ := List.mem_flatten.1 hu; exact h1 y hy u hu2) h63 hbytes hbase
  obtain ⟨a', cap', rfl, _⟩ := h2.sl
  unfold Oper.wp execOp
  simp only [ho, resolve, invoke, builtin, Sem.run_bind, Sem.run_pure, Result.andThen_ok, List.map_toArray, List.map_cons, List.map_nil, hs, hx, hr]
  exact h a' cap' w' h2 h3 h4 h5
theorem wpList_appP {P : Program} {w : World} {ops : Array Oper} {rest : List Oper} {o : Oper} {a : Act} {Q : Exit → Act → World → Prop} (hw : Region.wanted o (yielded ops a.tmps) = true) (s x : Operand) (t : TypeId)
    (ho : o.op = .call { callee := .builtin .append, args := #[s, x], argTypes := #[t, t] })
    (base : Nat) (E : TypeId) (m bytes : Nat) (hT : CellsOf P t E m bytes) (hm : 0 < m)
    (v : Value) (n : Nat) (xs : List Value) (hs : a.eval s = v) (hown : OwnE E w base m v n xs)
    (ad : Option Addr) (cnt c : Nat) (ys : List (List Value)) (hx : a.eval x = .slice ad cnt c) (hys : Els w m ad cnt c ys) (h1 : ∀ y ∈ ys, ∀ u ∈ y, u.oneCell' = true)
    (h63 : n + cnt ≤ maxLen) (hbytes : (n + cnt) * bytes ≤ 140737488355328) (hbase : base ≤ w.heap.size)
    (h : ∀ a' cap' w', OwnE E w' base m (.slice a' (n + cnt) cap') (n + cnt) (xs ++ ys.flatten) → w.grownBy w' v.ownBlock → (∀ g, (Value.slice a' (n + cnt) cap').ownBlock = some g → v.ownBlock = some g ∨ w.heap.size ≤ g) → (∀ Pc : Value → Prop, ZeroC P E Pc → AllC Pc w v → AllP Pc xs → AllP Pc ys.flatten → AllC Pc w' (.slice a' (n + cnt) cap')) → wpList P ops Q rest (a.put o.dst (.slice a' (n + cnt) cap')) w') : wpList P ops Q (o :: rest) a w :=
  BigFrame.wpList_want hw fun K hK => wp_appP s x t ho base E m bytes hT hm v n xs hs hown ad cnt c ys hx hys h1 h63 hbytes hbase fun a' cap' w' h1 h2 h3 h4 => hK _ _ (h a' cap' w' h1 h2 h3 h4)
/-- One element that lies in a new block. -/
theorem els_one (w : World) (cs : Array Value) (E : TypeId) (m : Nat) (hm : cs.size = m) : Els (w.alloc (.cells cs E)) m (some ⟨w.heap.size, 0, none⟩) 1 1 [cs.toList] := by
  refine ⟨rfl, Nat.le_refl _, by unfold maxLen; omega, (fun e => by cases e), fun i x hx => ?_⟩
  obtain rfl : i = 0 := by
    have := (List.getElem?_eq_some_iff.1 hx).1
    simp at this; exact this
  simp at hx
  subst hx
  refine ⟨by simpa using hm, _, 0, rfl, fun j v hj => ?_⟩
  exact held_cell (alloc_new w (.cells cs E)).2.2 _ v (by simpa using hj)
theorem els_grown {w w' : World} {m : Nat} {a : Option Addr} {len cap : Nat} {xs : List (List Value)} {r : Option Nat} (h : Els w m a len cap xs) (hg : w.grownBy w' r) (hne : ∀ b off, a = some ⟨b, off, none⟩ → some b ≠ r) : Els w' m a len cap xs :=
  ⟨h.1, h.2.1, h.2.2.1, h.2.2.2.1, fun i x hx => by
    obtain ⟨h1, b, off, e, hc⟩ := h.2.2.2.2 i x hx
    exact ⟨h1, b, off, e, fun j v hj => hg.cell (hc j v hj) (hne b off e)⟩⟩

/-- A slice of any elements, as an argument. -/
theorem reads_els {P : Program} {w : World} {t e : TypeId} {n m : Nat} {v : Value} (hu : P.underlying t = some (.slice e)) (hm : P.cellsOf e = m) (hm0 : 0 < m) (h : Reads P w (n + 1) t [v]) :
    ∃ (a : Option Addr) (l c : Nat) (xs : List (List Value)), v = .slice a l c ∧ Els w m a l c xs ∧ ∀ x ∈ xs, Reads P w n e x ∧ x.length = m := by
  obtain ⟨a, l, c, V, e, ⟨h1, h2, h3, h4⟩, h5⟩ := reads_slice hu hm hm0 h
  refine ⟨a, l, c, (List.range l).map fun i => (List.range m).map (V i), e, ⟨by simp, h1, h2, h3, fun i x hx => ?_⟩, fun x hx => ?_⟩
  · have hi : i < l := by simpa using (List.getElem?_eq_some_iff.1 hx).1
    have e1 : (List.range m).map (V i) = x := by simpa [hi] using hx
    subst e1
    obtain ⟨b, off, e, _⟩ := h4 i hi 0 hm0
    refine ⟨by simp, b, off, e, fun j v hj => ?_⟩
    have hjm : j < m := by simpa using (List.getElem?_eq_some_iff.1 hj).1
    obtain ⟨b2, off2, e2, hc⟩ := h4 i hi j hjm
    rw [e] at e2; cases e2
    rw [Nat.add_assoc, hc]
    simpa [hjm] using hj
  · obtain ⟨i, hi, rfl⟩ := List.mem_map.1 hx
    exact ⟨h5 i (by simpa using hi), by simp⟩

end Go.Proofs.YtpdpcdifnlellaaGreat
