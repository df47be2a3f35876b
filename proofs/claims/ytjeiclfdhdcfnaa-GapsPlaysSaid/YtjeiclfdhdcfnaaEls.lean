/- Slices of any elements: read, owned (also where the block is longer than the slice's room), appended to. -/
import Derived.Test.YtjeiclfdhdcfnaaKB
import Derived.Test.YtjeiclfdhdcfnaaKA
namespace Go.Proofs.Ytjeiclfdhdcfnaa
open Go.ChangeShapes Go.WideShapes Go.ChangeAt Go.RowKit
set_option linter.unusedVariables false

/-- A slice that is read: the cells of its elements, m each. -/
def Els (w : World) (m : Nat) (a : Option Addr) (len cap : Nat) (xs : List (List Value)) : Prop :=
  xs.length = len ∧ len ≤ cap ∧ cap ≤ maxLen ∧ (a = none → cap = 0) ∧
  ∀ i x, xs[i]? = some x → x.length = m ∧ ∃ b off, a = some ⟨b, off, none⟩ ∧ ∀ j v, x[j]? = some v → w.cell? ⟨b, off + i * m + j, none⟩ = some v
theorem Els.below {w w' : World} {m : Nat} {a : Option Addr} {len cap : Nat} {xs : List (List Value)} (h : Els w m a len cap xs) (hb : Below w.heap.size w w') : Els w' m a len cap xs :=
  ⟨h.1, h.2.1, h.2.2.1, h.2.2.2.1, fun i x hx => by
    obtain ⟨h1, b, off, e, hc⟩ := h.2.2.2.2 i x hx
    exact ⟨h1, b, off, e, fun j v hj => (Below.cell hb (World.block_lt_of_cell? w _ (hc j v hj))).trans (hc j v hj)⟩⟩
theorem Els.drewN {w : World} {m : Nat} {a : Option Addr} {len cap : Nat} {xs : List (List Value)} (h : Els w m a len cap xs) (k : Nat) : Els (w.drewN k) m a len cap xs := h
theorem Els.nil (w : World) (m : Nat) : Els w m none 0 0 [] := ⟨rfl, Nat.le_refl _, by unfold maxLen; omega, fun _ => rfl, fun i x hx => by simp at hx⟩
theorem Els.at1 {w : World} {m : Nat} {a : Option Addr} {len cap i : Nat} {xs : List (List Value)} {v0 : Value} (h : Els w m a len cap xs) (hx : xs[i]? = some [v0]) : ∃ b off, a = some ⟨b, off, none⟩ ∧ w.cell? ⟨b, off + i, none⟩ = some v0 := by
  obtain ⟨hm, b, off, e, hc⟩ := h.2.2.2.2 i _ hx
  have h0 := hc 0 v0 rfl
  obtain rfl : 1 = m := hm
  rw [Nat.mul_one, Nat.add_zero] at h0
  exact ⟨b, off, e, h0⟩
theorem Els.at2 {w : World} {m : Nat} {a : Option Addr} {len cap i : Nat} {xs : List (List Value)} {v0 v1 : Value} (h : Els w m a len cap xs) (hx : xs[i]? = some [v0, v1]) : ∃ b off, a = some ⟨b, off, none⟩ ∧ w.cell? ⟨b, off + i * 2, none⟩ = some v0 ∧ w.cell? ⟨b, off + i * 2 + 1, none⟩ = some v1 := by
  obtain ⟨hm, b, off, e, hc⟩ := h.2.2.2.2 i _ hx
  obtain rfl : 2 = m := hm
  exact ⟨b, off, e, hc 0 v0 rfl, hc 1 v1 rfl⟩
theorem Els.at3 {w : World} {m : Nat} {a : Option Addr} {len cap i : Nat} {xs : List (List Value)} {v0 v1 v2 : Value} (h : Els w m a len cap xs) (hx : xs[i]? = some [v0, v1, v2]) : ∃ b off, a = some ⟨b, off, none⟩ ∧ w.cell? ⟨b, off + i * 3, none⟩ = some v0 ∧ w.cell? ⟨b, off + i * 3 + 1, none⟩ = some v1 ∧ w.cell? ⟨b, off + i * 3 + 2, none⟩ = some v2 := by
  obtain ⟨hm, b, off, e, hc⟩ := h.2.2.2.2 i _ hx
  obtain rfl : 3 = m := hm
  exact ⟨b, off, e, hc 0 v0 rfl, hc 1 v1 rfl, hc 2 v2 rfl⟩
theorem Els.at4 {w : World} {m : Nat} {a : Option Addr} {len cap i : Nat} {xs : List (List Value)} {v0 v1 v2 v3 : Value} (h : Els w m a len cap xs) (hx : xs[i]? = some [v0, v1, v2, v3]) : ∃ b off, a = some ⟨b, off, none⟩ ∧ w.cell? ⟨b, off + i * 4, none⟩ = some v0 ∧ w.cell? ⟨b, off + i * 4 + 1, none⟩ = some v1 ∧ w.cell? ⟨b, off + i * 4 + 2, none⟩ = some v2 ∧ w.cell? ⟨b, off + i * 4 + 3, none⟩ = some v3 := by
  obtain ⟨hm, b, off, e, hc⟩ := h.2.2.2.2 i _ hx
  obtain rfl : 4 = m := hm
  exact ⟨b, off, e, hc 0 v0 rfl, hc 1 v1 rfl, hc 2 v2 rfl, hc 3 v3 rfl⟩
theorem Els.drop {w : World} {m : Nat} {a : Option Addr} {len cap : Nat} {xs : List (List Value)} (h : Els w m a len cap xs) (k : Nat) (hk : k ≤ len) : Els w m (Option.map (fun x => x.add (k * m)) a) (len - k) (cap - k) (xs.drop k) := by
  obtain ⟨h1, h2, h3, h4, h5⟩ := h
  refine ⟨by rw [List.length_drop, h1], by omega, by omega, ?_, fun i x hx => ?_⟩
  · intro e; cases a with
    | none => have := h4 rfl; omega
    | some x => cases e
  · rw [List.getElem?_drop] at hx
    obtain ⟨hm, b, off, rfl, hc⟩ := h5 (k + i) x hx
    refine ⟨hm, b, off + k * m, by show some ((⟨b, off, none⟩ : Addr).add (k * m)) = _; unfold Addr.add; split <;> simp_all, fun j v hj => ?_⟩
    have := hc j v hj
    rw [Nat.add_mul] at this
    rw [← this]; congr 2; omega
theorem Els.take {w : World} {m : Nat} {a : Option Addr} {len cap : Nat} {xs : List (List Value)} (h : Els w m a len cap xs) (k c2 : Nat) (hk : k ≤ len) (hc : k ≤ c2) (hc2 : c2 ≤ cap) : Els w m a k c2 (xs.take k) := by
  obtain ⟨h1, h2, h3, h4, h5⟩ := h
  refine ⟨by rw [List.length_take]; omega, hc, by omega, fun e => by have := h4 e; omega, fun i x hx => ?_⟩
  rw [List.getElem?_take] at hx
  split at hx
  · exact h5 i x hx
  · cases hx
/-- The cells of all elements, one behind the other. -/
theorem Els.news {w : World} {m : Nat} {a : Option Addr} {len cap : Nat} {xs : List (List Value)} (h : Els w m a len cap xs) : xs.flatten.length = len * m ∧ ∀ ad, a = some ad → ∀ j u, xs.flatten[j]? = some u → w.cell? (ad.add j) = some u := by
  obtain ⟨h1, h2, h3, h4, h5⟩ := h
  have hl : ∀ x ∈ xs, x.length = m := fun x hx => by
    obtain ⟨i, hi, rfl⟩ := List.getElem_of_mem hx
    exact (h5 i _ (List.getElem?_eq_getElem hi)).1
  refine ⟨?_, fun ad e j u hu => ?_⟩
  · rw [← h1]
    clear h1 h2 h3 h4 h5
    induction xs with
    | nil => simp
    | cons x xs ih => rw [List.flatten_cons, List.length_append, hl x (by simp), ih (fun y hy => hl y (by simp [hy])), List.length_cons, Nat.add_mul]; omega
  · have key : ∀ (l : List (List Value)) (j : Nat), (∀ x ∈ l, x.length = m) → l.flatten[j]? = some u → ∃ i x k, l[i]? = some x ∧ x[k]? = some u ∧ j = i * m + k := by
      intro l
      induction l with
      | nil => intro j _ hj; simp at hj
      | cons x l ih =>
        intro j hl hj
        rw [List.flatten_cons] at hj
        by_cases hx : j < x.length
        · rw [List.getElem?_append_left hx] at hj
          exact ⟨0, x, j, rfl, hj, by omega⟩
        · rw [List.getElem?_append_right (by omega)] at hj
          obtain ⟨i, y, k, h1, h2, h3⟩ := ih _ (fun y hy => hl y (by simp [hy])) hj
          have := hl x (by simp)
          exact ⟨i + 1, y, k, by simpa using h1, h2, by rw [Nat.add_mul]; omega⟩
    obtain ⟨i, x, k, hx, hk, rfl⟩ := key xs j hl hu
    obtain ⟨_, b, off, e2, hc⟩ := h5 i x hx
    rw [e] at e2; cases e2
    have := hc k u hk
    rw [← this]
    show w.cell? _ = _
    congr 1
    unfold Addr.add; split
    · rename_i h0
      rw [show off + i * m + k = off from by omega]
    · simp [Nat.add_assoc]

/-- A slice of the call's own, in a block from base on; the block may be longer than the slice's room. -/
def OwnE (E : TypeId) (w : World) (base m : Nat) (v : Value) (n : Nat) (xs : List Value) : Prop :=
  xs.length = n * m ∧ ((v = .slice none 0 0 ∧ n = 0) ∨
    ∃ g cap cur, v = .slice (some ⟨g, 0, none⟩) n cap ∧ base ≤ g ∧ w.heap[g]? = some (.cells cur E (0, 0)) ∧ n ≤ cap ∧ cap ≤ maxLen ∧ cap * m ≤ cur.size ∧ cur.toList.take (n * m) = xs)
theorem OwnE.of {E : TypeId} {w : World} {base m : Nat} {v : Value} {n : Nat} {xs : List Value} (h : w.ownsRow base E m v n xs) : OwnE E w base m v n xs := by
  refine ⟨h.1, ?_⟩
  rcases h.2 with h2 | ⟨g, cap, cur, h1, h2, h3, h4, h5, h6, h7⟩
  · exact .inl h2
  · exact .inr ⟨g, cap, cur, h1, h2, h3, h4, h5, by rw [h6]; exact Nat.le_refl _, h7⟩
theorem OwnE.nil (E : TypeId) (w : World) (base m : Nat) : OwnE E w base m (.slice none 0 0) 0 [] := ⟨by simp, .inl ⟨rfl, rfl⟩⟩
theorem OwnE.below {E : TypeId} {w w' : World} {base m : Nat} {v : Value} {n : Nat} {xs : List Value} (h : OwnE E w base m v n xs) (hb : Below w.heap.size w w') : OwnE E w' base m v n xs := by
  refine ⟨h.1, ?_⟩
  rcases h.2 with h2 | ⟨g, cap, cur, h1, h2, h3, r⟩
  · exact .inl h2
  · exact .inr ⟨g, cap, cur, h1, h2, (hb.block g (held_lt h3)).trans h3, r⟩
theorem OwnE.drewN {E : TypeId} {w : World} {base m : Nat} {v : Value} {n : Nat} {xs : List Value} (h : OwnE E w base m v n xs) (k : Nat) : OwnE E (w.drewN k) base m v n xs := h
theorem OwnE.kept {E : TypeId} {w w' : World} {base m : Nat} {v : Value} {n : Nat} {xs : List Value} (h : OwnE E w base m v n xs) (hk : ∀ g, v.ownBlock = some g → w'.heap[g]? = w.heap[g]?) : OwnE E w' base m v n xs := by
  refine ⟨h.1, ?_⟩
  rcases h.2 with h2 | ⟨g, cap, cur, rfl, h2, h3, r⟩
  · exact .inl h2
  · exact .inr ⟨g, cap, cur, rfl, h2, (hk g rfl).trans h3, r⟩
theorem OwnE.base {E : TypeId} {w : World} {base b2 m : Nat} {v : Value} {n : Nat} {xs : List Value} (h : OwnE E w base m v n xs) (hb : b2 ≤ base) : OwnE E w b2 m v n xs := by
  refine ⟨h.1, ?_⟩
  rcases h.2 with h2 | ⟨g, cap, cur, h1, h2, r⟩
  · exact .inl h2
  · exact .inr ⟨g, cap, cur, h1, by omega, r⟩
theorem OwnE.lt {E : TypeId} {w : World} {base m : Nat} {v : Value} {n : Nat} {xs : List Value} (h : OwnE E w base m v n xs) : ∀ g, v.ownBlock = some g → base ≤ g ∧ g < w.heap.size ∧ ∃ cur, w.heap[g]? = some (.cells cur E (0, 0)) := by
  intro g hg
  rcases h.2 with ⟨rfl, _⟩ | ⟨g', cap, cur, rfl, h2, h3, _⟩
  · cases hg
  · simp [Value.ownBlock] at hg
    subst hg
    exact ⟨h2, held_lt h3, cur, h3⟩
theorem OwnE.ne {E : TypeId} {w : World} {base m : Nat} {v : Value} {n : Nat} {xs : List Value} (h : OwnE E w base m v n xs) {p : Nat} {c : Array Value} {T : TypeId} (hp : w.heap[p]? = some (.cells c T (0, 0))) (hT : T ≠ E) : v.ownBlock ≠ some p := by
  intro e
  obtain ⟨_, _, cur, h3⟩ := h.lt p e
  rw [hp] at h3; cases h3; exact hT rfl
theorem OwnE.sl {E : TypeId} {w : World} {base m : Nat} {v : Value} {n : Nat} {xs : List Value} (h : OwnE E w base m v n xs) : ∃ a cap, v = .slice a n cap ∧ n ≤ cap ∧ cap ≤ maxLen ∧ (a = none → cap = 0) ∧ ∀ g, a = some g → g.off = 0 ∧ g.spot = none ∧ base ≤ g.block := by
  rcases h.2 with ⟨rfl, rfl⟩ | ⟨g, cap, cur, rfl, h2, h3, h4, h5, _⟩
  · exact ⟨none, 0, rfl, Nat.le_refl _, by unfold maxLen; omega, fun _ => rfl, (fun g e => by cases e)⟩
  · exact ⟨_, cap, rfl, h4, h5, (fun e => by cases e), (fun g e => by cases e; exact ⟨rfl, rfl, h2⟩)⟩
theorem OwnE.cells {E : TypeId} {w : World} {base m : Nat} {v : Value} {n : Nat} {xs : List Value} (h : OwnE E w base m v n xs) : ∀ g, v.ownBlock = some g → ∀ j u, xs[j]? = some u → w.cell? ⟨g, j, none⟩ = some u := by
  intro g hg j u hu
  rcases h.2 with ⟨rfl, _⟩ | ⟨g', cap, cur, rfl, h2, h3, _, _, _, ht⟩
  · cases hg
  · simp [Value.ownBlock] at hg
    subst hg
    rw [cell_of_row w g' j cur E (0, 0) h3]
    rw [← ht, List.getElem?_take] at hu
    split at hu
    · simpa using hu
    · cases hu
/-- It is read like any other. -/
theorem OwnE.els {E : TypeId} {w : World} {base m : Nat} {a : Option Addr} {n cap : Nat} {xs : List (List Value)} (h : OwnE E w base m (.slice a n cap) n xs.flatten) (hn : xs.length = n) (hm : ∀ x ∈ xs, x.length = m) : Els w m a n cap xs := by
  obtain ⟨a', c', e, h1, h2, h3, h4⟩ := h.sl
  cases e
  refine ⟨hn, h1, h2, h3, fun i x hx => ⟨hm x (List.mem_of_getElem? hx), ?_⟩⟩
  have hil : i < n := by rw [← hn]; exact (List.getElem?_eq_some_iff.1 hx).1
  have hc := h.cells
  cases a with
  | none => have := h3 rfl; omega
  | some ad =>
    obtain ⟨b, off, spot⟩ := ad
    obtain ⟨e1, e2, _⟩ := h4 _ rfl
    cases e1; cases e2
    refine ⟨b, 0, rfl, fun j v hj => ?_⟩
    rw [Nat.zero_add]
    refine hc b rfl (i * m + j) v ?_
    clear hc h h1 h2 h3 h4
    have key : ∀ (l : List (List Value)) (i : Nat), (∀ y ∈ l, y.length = m) → l[i]? = some x → l.flatten[i * m + j]? = some v := by
      intro l
      induction l with
      | nil => intro i _ hi; simp at hi
      | cons y l ih =>
        intro i hl hi
        have hy := hl y (by simp)
        cases i with
        | zero =>
          simp at hi; subst hi
          rw [List.flatten_cons, List.getElem?_append_left (by have := (List.getElem?_eq_some_iff.1 hj).1; omega)]
          simpa using hj
        | succ i =>
          rw [List.flatten_cons, List.getElem?_append_right (by rw [Nat.add_mul]; omega), show (i + 1) * m + j - y.length = i * m + j from by rw [Nat.add_mul]; omega]
          exact ih i (fun z hz => hl z (by simp [hz])) (by simpa using hi)
    exact key xs i hm hx
theorem OwnE.lit {E : TypeId} (w : World) (cs : Array Value) (n base m : Nat) (hb : base ≤ w.heap.size) (hm : n ≤ maxLen) (hc : cs.size = n * m) : OwnE E (w.alloc (.cells cs E)) base m (.slice (some ⟨w.heap.size, 0, none⟩) n n) n cs.toList :=
  .of (World.ownsRow_lit w cs n hb hm hc)

/-- All cells of the block of a slice are of a kind. -/
def AllC (Pc : Value → Prop) (w : World) (v : Value) : Prop := ∀ (g : Nat) (c : Array Value) (T : TypeId) (fz : Nat × Nat), v.ownBlock = some g → w.heap[g]? = some (.cells c T fz) → ∀ u ∈ c.toList, Pc u
/-- The zero value's cells are of a kind; all of a list are. -/
def ZeroC (P : Program) (E : TypeId) (Pc : Value → Prop) : Prop := ∀ z, (P.info? E).bind (·.zero) = some z → ∀ u ∈ z.cells.toList, Pc u
def AllP (Pc : Value → Prop) (l : List Value) : Prop := ∀ u ∈ l, Pc u
theorem AllC.nil (Pc : Value → Prop) (w : World) : AllC Pc w (.slice none 0 0) := fun g c T fz h => by cases h
theorem AllC.kept {Pc : Value → Prop} {w w' : World} {v : Value} (h : AllC Pc w v) (hk : ∀ g, v.ownBlock = some g → w'.heap[g]? = w.heap[g]?) : AllC Pc w' v := fun g c T fz hg hc => h g c T fz hg (by rw [← hk g hg]; exact hc)
theorem run_appP {P : Program} (w : World) (base : Nat) (t ty E : TypeId) (m bytes : Nat) (hT : CellsOf P t E m bytes) (hm : 0 < m)
    (v : Value) (n : Nat) (xs : List Value) (hown : OwnE E w base m v n xs)
    (ad : Option Addr) (cnt c : Nat) (news : List Value) (hl : news.length = cnt * m) (hc : cnt ≤ c) (had : ad = none → c = 0) (hnews : ∀ a, ad = some a → ∀ j u, news[j]? = some u → w.cell? (a.add j) = some u) (h1 : ∀ u ∈ news, u.oneCell' = true)
    (h63 : n + cnt ≤ maxLen) (hbytes : (n + cnt) * bytes ≤ 140737488355328) (hbase : base ≤ w.heap.size) :
    ∃ v' w', (Builtin.append_ #[t, t] ty #[v, .slice ad cnt c]).run P w = .ok v' w' ∧ OwnE E w' base m v' (n + cnt) (xs ++ news) ∧ w.grownBy w' v.ownBlock ∧ (∀ g, v'.ownBlock = some g → v.ownBlock = some g ∨ w.heap.size ≤ g) ∧
      ∀ Pc : Value → Prop, (∀ z, (P.info? E).bind (·.zero) = some z → ∀ u ∈ z.cells.toList, Pc u) → AllC Pc w v → (∀ u ∈ xs, Pc u) → (∀ u ∈ news, Pc u) → AllC Pc w' v' := by
  obtain ⟨i, z, hi, hz, hs1, hb1, hzs⟩ := cells_info hT
  obtain ⟨ht, _⟩ := hT
  subst hs1
  subst hb1
  have hsmall : n + cnt ≤ 9223372036854775807 := by simp only [maxLen] at h63; omega
  have hlen : (xs ++ news).length = (n + cnt) * i.size := by rw [List.length_append, hown.1, hl, Nat.add_mul]
  have grown : ∀ (old : Nat), ∀ (row : Option Nat),
      OwnE E (w.drew.alloc (.cells (xs.toArray ++ news.toArray ++ Builtin.zeroCells z.cells (grownCap w (n + cnt) old E - (n + cnt))) E)) base i.size
        (.slice (some ⟨w.heap.size, 0, none⟩) (n + cnt) (grownCap w (n + cnt) old E)) (n + cnt) (xs ++ news) ∧
      w.grownBy (w.drew.alloc (.cells (xs.toArray ++ news.toArray ++ Builtin.zeroCells z.cells (grownCap w (n + cnt) old E - (n + cnt))) E)) row := by
    intro old row
    have hge := grownCap_ge w (n + cnt) old E
    have hcm : grownCap w (n + cnt) old E ≤ maxLen := grownCap_le_maxLen w (n + cnt) old E h63
    refine ⟨⟨hlen, .inr ⟨w.heap.size, _, _, rfl, hbase, heap_alloc_new w.drew _, hge, hcm, ?_, ?_⟩⟩, ⟨rfl, rfl, rfl, by simp, fun k hk _ => (Below.block ((Below.refl w.drew.heap.size w.drew).alloc (Nat.le_refl _) _) k hk)⟩⟩
    · refine Nat.le_of_eq ?_
      simp only [Array.size_append, List.size_toArray, size_zeroCells, hzs, hown.1, hl, ← Nat.add_mul]
      congr 1
      omega
    · simp only [Array.toList_append, List.append_assoc]
      rw [← List.append_assoc, ← hlen]
      exact List.take_left
  have zc : ∀ n : Nat, ∀ u ∈ (Builtin.zeroCells z.cells n).toList, u ∈ z.cells.toList := fun n u hu => by
    simp only [Builtin.zeroCells, Array.toList_map, List.mem_map] at hu
    obtain ⟨a, _, rfl⟩ := hu
    have hp : 0 < z.cells.size := by rw [hzs]; exact hm
    have hlt : a % z.cells.size < z.cells.size := Nat.mod_lt _ hp
    rw [getElem!_pos z.cells _ hlt]
    exact Array.getElem_mem_toList hlt
  have allG : ∀ (old : Nat) (Pc : Value → Prop), (∀ z, (P.info? E).bind (·.zero) = some z → ∀ u ∈ z.cells.toList, Pc u) → (∀ u ∈ xs, Pc u) → (∀ u ∈ news, Pc u) → AllC Pc (w.drew.alloc (.cells (xs.toArray ++ news.toArray ++ Builtin.zeroCells z.cells (grownCap w (n + cnt) old E - (n + cnt))) E)) (.slice (some ⟨w.heap.size, 0, none⟩) (n + cnt) (grownCap w (n + cnt) old E)) := by
    intro old Pc hzz hx hn g c T fz hg hc u hu
    have e : w.heap.size = g := Option.some.inj hg
    subst e
    have h1 := heap_alloc_new w.drew (.cells (xs.toArray ++ news.toArray ++ Builtin.zeroCells z.cells (grownCap w (n + cnt) old E - (n + cnt))) E)
    have h2 : (w.drew.alloc (.cells (xs.toArray ++ news.toArray ++ Builtin.zeroCells z.cells (grownCap w (n + cnt) old E - (n + cnt))) E)).heap[w.heap.size]? = _ := h1
    rw [h2] at hc
    cases hc
    simp only [Array.toList_append, List.mem_append] at hu
    rcases hu with (hu | hu) | hu
    · exact hx u hu
    · exact hn u hu
    · exact hzz z (by rw [hi]; exact hz) u (zc _ u hu)
  cases ad with
  | none =>
    obtain rfl := had rfl
    obtain rfl : cnt = 0 := by omega
    have hn : news = [] := List.eq_nil_of_length_eq_zero (by simpa using hl)
    subst hn
    refine ⟨v, w, ?_, by simpa using hown, ⟨rfl, rfl, rfl, Nat.le_refl _, fun _ _ _ => rfl⟩, fun g hg => .inl hg, fun _ _ h _ _ => h⟩
    rcases hown.2 with ⟨rfl, rfl⟩ | ⟨g, cap, cur, rfl, hbg, hg, hnc, hcm, hcs, htake⟩
    · simp [Builtin.append_, run_underlying ht, sizeOf, typeInfo, hi, Builtin.lenOf, Builtin.firstCells]
    · simp [Builtin.append_, run_underlying ht, sizeOf, typeInfo, hi, Builtin.lenOf, Builtin.firstCells, hnc, storeCells]
  | some a =>
    have hnews := hnews a rfl
    rcases hown.2 with ⟨rfl, rfl⟩ | ⟨g, cap, cur, rfl, hbg, hg, hnc, hcm, hcs, htake⟩
    · have hx : xs = [] := List.eq_nil_of_length_eq_zero (by simpa using hown.1)
      subst hx
      by_cases hm0 : cnt = 0
      · subst hm0
        have hn : news = [] := List.eq_nil_of_length_eq_zero (by simpa using hl)
        subst hn
        refine ⟨.slice none 0 0, w, ?_, OwnE.nil E w base i.size, ⟨rfl, rfl, rfl, Nat.le_refl _, fun _ _ _ => rfl⟩, fun g hg => .inl hg, fun _ _ h _ _ => h⟩
        simp [Builtin.append_, run_underlying ht, sizeOf, typeInfo, hi, Builtin.lenOf, Builtin.firstCells, loadCells, loadCellsFrom]
      · have hr := run_append_nil (P := P) w t ty E i z ht hi hz a cnt c news hl hnews (by omega) (by omega) (by have hb := hbytes; simp only [Nat.zero_add] at hb; omega)
        have hgr := grown 0 (Value.ownBlock (.slice none 0 0))
        have hag := allG 0
        simp only [Nat.zero_add, List.nil_append, Array.empty_append] at hgr hag ⊢
        exact ⟨_, _, hr, hgr.1, hgr.2, fun g hg => (by simp [Value.ownBlock] at hg; exact .inr (by omega)), fun Pc h1 _ h3 h4 => hag Pc h1 h3 h4⟩
    · by_cases hroom : n + cnt ≤ cap
      · have hfit : n * i.size + news.length ≤ cur.size := by rw [hl, ← Nat.add_mul]; exact Nat.le_trans (Nat.mul_le_mul_right _ hroom) hcs
        have hr := run_append_room (P := P) w t ty E i ht hi g n cap cur hg a cnt c news hl hnews h1 hroom hfit
        refine ⟨_, _, hr, ⟨hlen, .inr ⟨g, cap, _, rfl, hbg, setRow_heap w g cur _ E _ hg, hroom, hcm, ?_, ?_⟩⟩, ⟨rfl, rfl, rfl, by simp, fun k _ hk => setRow_other w g k _ (fun e => hk (by simp [Value.ownBlock, e]))⟩, fun g' hg' => .inl hg', ?_⟩
        · simp only [List.size_toArray, List.length_append, List.length_take, List.length_drop, Array.length_toList]
          omega
        · rw [htake, ← hlen]
          exact List.take_left
        · intro Pc h1 h2 h3 h4 g' c T fz hg' hc u hu
          have e : g = g' := Option.some.inj hg'
          subst e
          rw [setRow_heap w g cur _ E _ hg] at hc
          cases hc
          simp only [List.mem_append] at hu
          rcases hu with (hu | hu) | hu
          · exact h2 g cur E _ rfl hg u (List.mem_of_mem_take hu)
          · exact h4 u hu
          · exact h2 g cur E _ rfl hg u (List.mem_of_mem_drop hu)
      · have holds : ∀ j u, xs[j]? = some u → w.cell? ((⟨g, 0, none⟩ : Addr).add j) = some u := fun j u hu => by rw [addr0]; exact hown.cells g rfl j u hu
        have hr := run_append_grow (P := P) w t ty E i z ht hi hz ⟨g, 0, none⟩ n cap xs hown.1 holds a cnt c news hl hnews (by omega) (by omega) (growslice_fits (by omega) hbytes)
        have hgr := grown cap (Value.ownBlock (.slice (some ⟨g, 0, none⟩) n cap))
        exact ⟨_, _, hr, hgr.1, hgr.2, fun g' hg' => (by simp [Value.ownBlock] at hg'; exact .inr (by omega)), fun Pc h1 _ h3 h4 => allG cap Pc h1 h3 h4⟩
theorem run_appE {P : Program} (w : World) (base : Nat) (t ty E : TypeId) (m bytes : Nat) (hT : CellsOf P t E m bytes) (hm : 0 < m)
    (v : Value) (n : Nat) (xs : List Value) (hown : OwnE E w base m v n xs)
    (ad : Option Addr) (cnt c : Nat) (news : List Value) (hl : news.length = cnt * m) (hc : cnt ≤ c) (had : ad = none → c = 0) (hnews : ∀ a, ad = some a → ∀ j u, news[j]? = some u → w.cell? (a.add j) = some u) (h1 : ∀ u ∈ news, u.oneCell' = true)
    (h63 : n + cnt ≤ maxLen) (hbytes : (n + cnt) * bytes ≤ 140737488355328) (hbase : base ≤ w.heap.size) :
    ∃ v' w', (Builtin.append_ #[t, t] ty #[v, .slice ad cnt c]).run P w = .ok v' w' ∧ OwnE E w' base m v' (n + cnt) (xs ++ news) ∧ w.grownBy w' v.ownBlock ∧ (∀ g, v'.ownBlock = some g → v.ownBlock = some g ∨ w.heap.size ≤ g) := by
  obtain ⟨v', w', h1, h2, h3, h4, _⟩ := run_appP (P := P) w base t ty E m bytes hT hm v n xs hown ad cnt c news hl hc had hnews h1 h63 hbytes hbase
  exact ⟨v', w', h1, h2, h3, h4⟩
theorem wp_appE {P : Program} {w : World} {o : Oper} {a : Act} {K : Act → World → Prop} {Q : Exit → Act → World → Prop} (s x : Operand) (t : TypeId)
    (ho : o.op = .call { callee := .builtin .append, args := #[s, x], argTypes := #[t, t] })
    (base : Nat) (E : TypeId) (m bytes : Nat) (hT : CellsOf P t E m bytes) (hm : 0 < m)
    (v : Value) (n : Nat) (xs : List Value) (hs : a.eval s = v) (hown : OwnE E w base m v n xs)
    (ad : Option Addr) (cnt c : Nat) (ys : List (List Value)) (hx : a.eval x = .slice ad cnt c) (hys : Els w m ad cnt c ys) (h1 : ∀ y ∈ ys, ∀ u ∈ y, u.oneCell' = true)
    (h63 : n + cnt ≤ maxLen) (hbytes : (n + cnt) * bytes ≤ 140737488355328) (hbase : base ≤ w.heap.size)
    (h : ∀ a' cap' w', OwnE E w' base m (.slice a' (n + cnt) cap') (n + cnt) (xs ++ ys.flatten) → w.grownBy w' v.ownBlock → (∀ g, (Value.slice a' (n + cnt) cap').ownBlock = some g → v.ownBlock = some g ∨ w.heap.size ≤ g) → K (a.put o.dst (.slice a' (n + cnt) cap')) w') : o.wp P a w K Q := by
  obtain ⟨hl, hn⟩ := hys.news
  obtain ⟨v', w', hr, h2, h3, h4⟩ := run_appE (P := P) w base t o.type E m bytes hT hm v n xs hown ad cnt c ys.flatten hl hys.2.1 hys.2.2.2.1 hn (fun u hu => by obtain ⟨y, hy, hu2⟩ := List.mem_flatten.1 hu; exact h1 y hy u hu2) h63 hbytes hbase
  obtain ⟨a', cap', rfl, _⟩ := h2.sl
  unfold Oper.wp execOp
  simp only [ho, resolve, invoke, builtin, Sem.run_bind, Sem.run_pure, Result.andThen_ok, List.map_toArray, List.map_cons, List.map_nil, hs, hx, hr]
  exact h a' cap' w' h2 h3 h4
theorem wpList_appE {P : Program} {w : World} {ops : Array Oper} {rest : List Oper} {o : Oper} {a : Act} {Q : Exit → Act → World → Prop} (hw : Region.wanted o (yielded ops a.tmps) = true) (s x : Operand) (t : TypeId)
    (ho : o.op = .call { callee := .builtin .append, args := #[s, x], argTypes := #[t, t] })
    (base : Nat) (E : TypeId) (m bytes : Nat) (hT : CellsOf P t E m bytes) (hm : 0 < m)
    (v : Value) (n : Nat) (xs : List Value) (hs : a.eval s = v) (hown : OwnE E w base m v n xs)
    (ad : Option Addr) (cnt c : Nat) (ys : List (List Value)) (hx : a.eval x = .slice ad cnt c) (hys : Els w m ad cnt c ys) (h1 : ∀ y ∈ ys, ∀ u ∈ y, u.oneCell' = true)
    (h63 : n + cnt ≤ maxLen) (hbytes : (n + cnt) * bytes ≤ 140737488355328) (hbase : base ≤ w.heap.size)
    (h : ∀ a' cap' w', OwnE E w' base m (.slice a' (n + cnt) cap') (n + cnt) (xs ++ ys.flatten) → w.grownBy w' v.ownBlock → (∀ g, (Value.slice a' (n + cnt) cap').ownBlock = some g → v.ownBlock = some g ∨ w.heap.size ≤ g) → wpList P ops Q rest (a.put o.dst (.slice a' (n + cnt) cap')) w') : wpList P ops Q (o :: rest) a w :=
  BigFrame.wpList_want hw fun K hK => wp_appE s x t ho base E m bytes hT hm v n xs hs hown ad cnt c ys hx hys h1 h63 hbytes hbase fun a' cap' w' h1 h2 h3 => hK _ _ (h a' cap' w' h1 h2 h3)
theorem wp_appP {P : Program} {w : World} {o : Oper} {a : Act} {K : Act → World → Prop} {Q : Exit → Act → World → Prop} (s x : Operand) (t : TypeId)
    (ho : o.op = .call { callee := .builtin .append, args := #[s, x], argTypes := #[t, t] })
    (base : Nat) (E : TypeId) (m bytes : Nat) (hT : CellsOf P t E m bytes) (hm : 0 < m)
    (v : Value) (n : Nat) (xs : List Value) (hs : a.eval s = v) (hown : OwnE E w base m v n xs)
    (ad : Option Addr) (cnt c : Nat) (ys : List (List Value)) (hx : a.eval x = .slice ad cnt c) (hys : Els w m ad cnt c ys) (h1 : ∀ y ∈ ys, ∀ u ∈ y, u.oneCell' = true)
    (h63 : n + cnt ≤ maxLen) (hbytes : (n + cnt) * bytes ≤ 140737488355328) (hbase : base ≤ w.heap.size)
    (h : ∀ a' cap' w', OwnE E w' base m (.slice a' (n + cnt) cap') (n + cnt) (xs ++ ys.flatten) → w.grownBy w' v.ownBlock → (∀ g, (Value.slice a' (n + cnt) cap').ownBlock = some g → v.ownBlock = some g ∨ w.heap.size ≤ g) → (∀ Pc : Value → Prop, ZeroC P E Pc → AllC Pc w v → AllP Pc xs → AllP Pc ys.flatten → AllC Pc w' (.slice a' (n + cnt) cap')) → K (a.put o.dst (.slice a' (n + cnt) cap')) w') : o.wp P a w K Q := by
  obtain ⟨hl, hn⟩ := hys.news
  obtain ⟨v', w', hr, h2, h3, h4, h5⟩ := run_appP (P := P) w base t o.type E m bytes hT hm v n xs hown ad cnt c ys.flatten hl hys.2.1 hys.2.2.2.1 hn (fun u hu => by obtain ⟨y, hy, hu2⟩ := List.mem_flatten.1 hu; exact h1 y hy u hu2) h63 hbytes hbase
  obtain ⟨a', cap', rfl, _⟩ := h2.sl
  unfold Oper.wp execOp
  simp only [ho, resolve, invoke, builtin, Sem.run_bind, Sem.run_pure, Result.andThen_ok, List.map_toArray, List.map_cons, List.map_nil, hs, hx, hr]
  exact h a' cap' w' h2 h3 h4 h5
theorem wpList_appP {P : Program} {w : World} {ops : Array Oper} {rest : List Oper} {o : Oper} {a : Act} {Q : Exit → Act → World → Prop} (hw : Region.wanted o (yielded ops a.tmps) = true) (s x : Operand) (t : TypeId)
    (ho : o.op = .call { callee := .builtin .append, args := #[s, x], argTypes := #[t, t] })
    (base : Nat) (E : TypeId) (m bytes : Nat) (hT : CellsOf P t E m bytes) (hm : 0 < m)
    (v : Value) (n : Nat) (xs : List Value) (hs : a.eval s = v) (hown : OwnE E w base m v n xs)
    (ad : Option Addr) (cnt c : Nat) (ys : List (List Value)) (hx : a.eval x = .slice ad cnt c) (hys : Els w m ad cnt c ys) (h1 : ∀ y ∈ ys, ∀ u ∈ y, u.oneCell' = true)
    (h63 : n + cnt ≤ maxLen) (hbytes : (n + cnt) * bytes ≤ 140737488355328) (hbase : base ≤ w.heap.size)
    (h : ∀ a' cap' w', OwnE E w' base m (.slice a' (n + cnt) cap') (n + cnt) (xs ++ ys.flatten) → w.grownBy w' v.ownBlock → (∀ g, (Value.slice a' (n + cnt) cap').ownBlock = some g → v.ownBlock = some g ∨ w.heap.size ≤ g) → (∀ Pc : Value → Prop, ZeroC P E Pc → AllC Pc w v → AllP Pc xs → AllP Pc ys.flatten → AllC Pc w' (.slice a' (n + cnt) cap')) → wpList P ops Q rest (a.put o.dst (.slice a' (n + cnt) cap')) w') : wpList P ops Q (o :: rest) a w :=
  BigFrame.wpList_want hw fun K hK => wp_appP s x t ho base E m bytes hT hm v n xs hs hown ad cnt c ys hx hys h1 h63 hbytes hbase fun a' cap' w' h1 h2 h3 h4 => hK _ _ (h a' cap' w' h1 h2 h3 h4)
/-- One element that lies in a new block. -/
theorem els_one (w : World) (cs : Array Value) (E : TypeId) (m : Nat) (hm : cs.size = m) : Els (w.alloc (.cells cs E)) m (some ⟨w.heap.size, 0, none⟩) 1 1 [cs.toList] := by
  refine ⟨rfl, Nat.le_refl _, by unfold maxLen; omega, (fun e => by cases e), fun i x hx => ?_⟩
  obtain rfl : i = 0 := by
    have := (List.getElem?_eq_some_iff.1 hx).1
    simp at this; exact this
  simp at hx
  subst hx
  refine ⟨by simpa using hm, _, 0, rfl, fun j v hj => ?_⟩
  exact held_cell (alloc_new w (.cells cs E)).2.2 _ v (by simpa using hj)
theorem els_grown {w w' : World} {m : Nat} {a : Option Addr} {len cap : Nat} {xs : List (List Value)} {r : Option Nat} (h : Els w m a len cap xs) (hg : w.grownBy w' r) (hne : ∀ b off, a = some ⟨b, off, none⟩ → some b ≠ r) : Els w' m a len cap xs :=
  ⟨h.1, h.2.1, h.2.2.1, h.2.2.2.1, fun i x hx => by
    obtain ⟨h1, b, off, e, hc⟩ := h.2.2.2.2 i x hx
    exact ⟨h1, b, off, e, fun j v hj => hg.cell (hc j v hj) (hne b off e)⟩⟩

/-- A slice of any elements, as an argument. -/
theorem reads_els {P : Program} {w : World} {t e : TypeId} {n m : Nat} {v : Value} (hu : P.underlying t = some (.slice e)) (hm : P.cellsOf e = m) (hm0 : 0 < m) (h : Reads P w (n + 1) t [v]) :
    ∃ (a : Option Addr) (l c : Nat) (xs : List (List Value)), v = .slice a l c ∧ Els w m a l c xs ∧ ∀ x ∈ xs, Reads P w n e x ∧ x.length = m := by
  obtain ⟨a, l, c, V, e, ⟨h1, h2, h3, h4⟩, h5⟩ := reads_slice hu hm hm0 h
  refine ⟨a, l, c, (List.range l).map fun i => (List.range m).map (V i), e, ⟨by simp, h1, h2, h3, fun i x hx => ?_⟩, fun x hx => ?_⟩
  · have hi : i < l := by simpa using (List.getElem?_eq_some_iff.1 hx).1
    have e1 : (List.range m).map (V i) = x := by simpa [hi] using hx
    subst e1
    obtain ⟨b, off, e, _⟩ := h4 i hi 0 hm0
    refine ⟨by simp, b, off, e, fun j v hj => ?_⟩
    have hjm : j < m := by simpa using (List.getElem?_eq_some_iff.1 hj).1
    obtain ⟨b2, off2, e2, hc⟩ := h4 i hi j hjm
    rw [e] at e2; cases e2
    rw [Nat.add_assoc, hc]
    simpa [hjm] using hj
  · obtain ⟨i, hi, rfl⟩ := List.mem_map.1 hx
    exact ⟨h5 i (by simpa using hi), by simp⟩

end Go.Proofs.Ytjeiclfdhdcfnaa
