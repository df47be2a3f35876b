/- Slices of integers that a call makes for itself: what they hold, appending to them, also where an operation is guarded. -/
import Derived.Test.YtdhebbflpdnfiaaBase
import Derived.OwnWalk
import Derived.Laws.AppendOwnNone
import Derived.Laws.BytesString
import Derived.Test.YtdhebbflpdnfiaaRegion
namespace Go.Proofs.Ytdhebbflpdnfiaa
open Go.ChangeShapes Go.WideShapes Go.ChangeAt Go.RowKit

/-- A slice type t of integers of kind k, an element b bytes wide. -/
def IntsOf (P : Program) (t E : TypeId) (k : IntKind) (b : Nat) : Prop := P.underlying t = some (.slice E) ∧ (P.info? E).map (fun i => (i.zero, i.size, i.bytes)) = some (some (.int k 0), 1, b)

/-- The value v is a slice of the call's own, in blocks from base on, that holds zs. -/
def Own (k : IntKind) (E : TypeId) (w : World) (base : Nat) (v : Value) (zs : List Int) : Prop := w.ownsRow base E 1 v zs.length (zs.map (Value.int k))

theorem Own.below {k : IntKind} {E : TypeId} {w w' : World} {base : Nat} {v : Value} {zs : List Int} (h : Own k E w base v zs) (hb : Below w.heap.size w w') : Own k E w' base v zs := by
  refine ⟨h.1, ?_⟩
  rcases h.2 with h2 | ⟨g, cap, cur, hv, hg, hh, r⟩
  · exact .inl h2
  · refine .inr ⟨g, cap, cur, hv, hg, ?_, r⟩
    have hlt : g < w.heap.size := by
      rcases Nat.lt_or_ge g w.heap.size with hl | hl
      · exact hl
      · rw [Array.getElem?_eq_none hl] at hh; cases hh
    rw [hb.block g hlt]; exact hh

theorem Own.drewN {k : IntKind} {E : TypeId} {w : World} {base : Nat} {v : Value} {zs : List Int} (h : Own k E w base v zs) (n : Nat) : Own k E (w.drewN n) base v zs := h
theorem Own.alloc {k : IntKind} {E : TypeId} {w : World} {base : Nat} {v : Value} {zs : List Int} (h : Own k E w base v zs) (o : Obj) : Own k E (w.alloc o) base v zs :=
  h.below ((Below.refl _ _).alloc (Nat.le_refl _) o)

/-- A slice of the call's own is read like any other. -/
theorem Own.rd {k : IntKind} {E : TypeId} {w : World} {base : Nat} {v : Value} {zs : List Int} (h : Own k E w base v zs) :
    ∃ a cap, v = .slice a zs.length cap ∧ Rd k w a zs ∧ (a = none → cap = 0) ∧ zs.length ≤ maxLen := by
  rcases h.2 with ⟨hv, hn⟩ | ⟨g, cap, cur, hv, hg, hh, h1, h2, h3, h4⟩
  · refine ⟨none, 0, by rw [hn]; exact hv, fun i hi => by omega, fun _ => rfl, by omega⟩
  · refine ⟨_, cap, hv, fun i hi => ⟨g, 0, rfl, ?_⟩, (fun e => by cases e), by omega⟩
    have hc := World.ownsRow.cellAt (w := w) (base := base) (e := E) (size := 1) (g := g) (n := zs.length) (cap := cap) (xs := zs.map (Value.int k)) (by rw [← hv]; exact h) i (by omega)
    rw [Nat.zero_add, hc]
    simp [hi]

theorem Own.block {k : IntKind} {E : TypeId} {w : World} {base : Nat} {v : Value} {zs : List Int} (h : Own k E w base v zs) : ∀ g, v.ownBlock = some g → base ≤ g := by
  intro g hg
  rcases h.2 with ⟨hv, _⟩ | ⟨g', cap, cur, hv, hb, _⟩
  · subst hv; cases hg
  · subst hv; simp [Value.ownBlock] at hg; omega

/-- A new slice that is written out. -/
theorem Own.lit (k : IntKind) (E : TypeId) (w : World) (zs : List Int) (base : Nat) (hb : base ≤ w.heap.size) (hm : zs.length ≤ maxLen) (cs : Array Value) (hcs : cs = (zs.map (Value.int k)).toArray) :
    Own k E (w.alloc (.cells cs E)) base (.slice (some ⟨w.heap.size, 0, none⟩) zs.length zs.length) zs := by
  subst hcs
  have := World.ownsRow_lit (base := base) (e := E) (size := 1) w (zs.map (Value.int k)).toArray zs.length hb hm (by simp)
  simpa [Own] using this

/-- Behind an append to a slice of the call's own. -/
theorem Own.grew {k : IntKind} {E : TypeId} {w w' : World} {base B : Nat} {v : Value} {zs : List Int} {a : World} (h : Own k E w base v zs) (hg : w.grownBy w' v.ownBlock) (hb : Below B a w) (hB : B ≤ base) (hw : B ≤ w.heap.size) : Below B a w' :=
  hb.grown hg hw fun g e => Nat.le_trans hB (h.block g e)

theorem wpList_app {P : Program} (w : World) {ops : Array Oper} {rest : List Oper} {o : Oper} {a : Act} {Q : Exit → Act → World → Prop} (hw : Region.wanted o (yielded ops a.tmps) = true) (s x : Operand) (t : TypeId)
    (ho : o.op = .call { callee := .builtin .append, args := #[s, x], argTypes := #[t, t] })
    (base : Nat) (E : TypeId) (k : IntKind) (b : Nat) (hT : IntsOf P t E k b)
    (v : Value) (zs : List Int) (hs : a.eval s = v) (hown : Own k E w base v zs)
    (ad : Option Addr) (c : Nat) (ys : List Int) (hx : a.eval x = .slice ad ys.length c) (hr : Rd k w ad ys) (hn : ad = none → c = 0)
    (hlen : zs.length + ys.length ≤ 140737488355328 / b) (hb0 : 0 < b) (hbase : base ≤ w.heap.size)
    (h : ∀ v' w', Own k E w' base v' (zs ++ ys) → w.grownBy w' v.ownBlock → wpList P ops Q rest (a.put o.dst v') w') : wpList P ops Q (o :: rest) a w := by
  obtain ⟨ht, hi⟩ := hT
  obtain ⟨i, hi1, hi2⟩ : ∃ i, P.info? E = some i ∧ (i.zero, i.size, i.bytes) = (some (.int k 0), 1, b) := by
    cases hP : P.info? E with
    | none => rw [hP] at hi; cases hi
    | some i => rw [hP] at hi; exact ⟨i, rfl, by simpa using hi⟩
  have hz : i.zero = some (.int k 0) := congrArg Prod.fst hi2
  have hsz : i.size = 1 := congrArg (fun p => p.2.1) hi2
  have hby : i.bytes = b := congrArg (fun p => p.2.2) hi2
  have hle : zs.length + ys.length ≤ 140737488355328 := Nat.le_trans hlen (Nat.div_le_self _ _)
  have hmul : (zs.length + ys.length) * b ≤ 140737488355328 := (Nat.le_div_iff_mul_le hb0).1 hlen
  refine BigFrame.wpList_want hw fun K hK => ?_
  cases ad with
  | none =>
    have hy : ys = [] := by
      cases ys with
      | nil => rfl
      | cons y r => obtain ⟨_, _, e, _⟩ := hr 0 (by simp); cases e
    subst hy
    obtain rfl := hn rfl
    have hrun := run_append_owned_none (P := P) w base t o.type E i 1 ht hi1 v zs.length (zs.map (Value.int k)) hown
    unfold Oper.wp execOp
    simp only [ho, resolve, invoke, builtin, Sem.run_bind, Sem.run_pure, Result.andThen_ok, List.map_toArray, List.map_cons, List.map_nil, hs, hx, hrun, List.length_nil]
    exact hK _ _ (h v w (by simpa using hown) ⟨rfl, rfl, rfl, Nat.le_refl _, fun _ _ _ => rfl⟩)
  | some ad =>
    refine wp_append_own w s x t ho base E i (.int k 0) 1 b ht hi1 hz hsz hby rfl (by decide) v zs.length (zs.map (Value.int k)) hs hown ad ys.length c (ys.map (Value.int k)) hx (by simp) ?_ (by simp [Value.oneCell']) (by unfold maxLen; omega) hmul hbase ?_
    · intro j u hj
      have hjl : j < ys.length := by
        rcases Nat.lt_or_ge j ys.length with hl | hl
        · exact hl
        · rw [List.getElem?_eq_none (by simpa using hl)] at hj; cases hj
      obtain ⟨bb, off, e, hc⟩ := hr j hjl
      cases e
      have hu : u = .int k (ys.getD j 0) := by simp [hjl] at hj; simp [hjl, hj]
      rw [hu]
      by_cases hj0 : j = 0
      · subst hj0; simpa [Addr.add] using hc
      · simpa [Addr.add, hj0] using hc
    · intro v' w' h2 h3 _
      refine hK _ _ (h v' w' ?_ h3)
      simpa [Own, List.map_append] using h2

/-- A slice value's three parts and what is read of it. -/
def Sl (k : IntKind) (w : World) (a : Option Addr) (len cap : Nat) (zs : List Int) : Prop := zs.length = len ∧ len ≤ cap ∧ cap ≤ maxLen ∧ (a = none → cap = 0) ∧ Rd k w a zs
theorem Sl.below {k : IntKind} {w w' : World} {a : Option Addr} {len cap : Nat} {zs : List Int} (h : Sl k w a len cap zs) (hb : Below w.heap.size w w') : Sl k w' a len cap zs := ⟨h.1, h.2.1, h.2.2.1, h.2.2.2.1, h.2.2.2.2.below hb⟩
theorem Sl.drewN {k : IntKind} {w : World} {a : Option Addr} {len cap : Nat} {zs : List Int} (h : Sl k w a len cap zs) (n : Nat) : Sl k (w.drewN n) a len cap zs := h
theorem Sl.drop {k : IntKind} {w : World} {a : Option Addr} {len cap : Nat} {zs : List Int} (h : Sl k w a len cap zs) (m : Nat) (hm : m ≤ len) : Sl k w (Option.map (fun x => x.add m) a) (len - m) (cap - m) (zs.drop m) := by
  obtain ⟨h1, h2, h3, h4, h5⟩ := h
  refine ⟨by rw [List.length_drop, h1], by omega, by omega, ?_, ?_⟩
  · intro e; cases a with
    | none => have := h4 rfl; omega
    | some x => cases e
  · intro i hi
    rw [List.length_drop] at hi
    obtain ⟨b, off, rfl, hc⟩ := h5 (i + m) (by omega)
    by_cases hm0 : m = 0
    · subst hm0; exact ⟨b, off, by simp [Addr.add], by simpa using hc⟩
    · refine ⟨b, off + m, by simp [Addr.add, hm0], ?_⟩
      rw [show off + m + i = off + (i + m) from by omega, hc]
      simp [Nat.add_comm]
theorem Sl.take {k : IntKind} {w : World} {a : Option Addr} {len cap : Nat} {zs : List Int} (h : Sl k w a len cap zs) (m : Nat) (hm : m ≤ len) : Sl k w a m cap (zs.take m) := by
  obtain ⟨h1, h2, h3, h4, h5⟩ := h
  refine ⟨by rw [List.length_take]; omega, by omega, h3, h4, fun i hi => ?_⟩
  rw [List.length_take] at hi
  obtain ⟨b, off, ha, hc⟩ := h5 i (by omega)
  refine ⟨b, off, ha, ?_⟩
  rw [hc]; simp [show i < m from by omega]
theorem Sl.end {k : IntKind} {w : World} {a : Option Addr} {len cap : Nat} {zs : List Int} (h : Sl k w a len cap zs) (m : Nat) (hm : m ≤ len) (hc : cap = m) : Sl k w a (len - m) 0 (zs.drop m) := by
  obtain ⟨h1, h2, h3, h4, h5⟩ := h
  have : zs.drop m = [] := List.drop_of_length_le (by omega)
  rw [this]
  exact ⟨by simp; omega, by omega, by omega, fun _ => rfl, Rd.nil _ _ _⟩
theorem IsRow.sl {k : IntKind} {w : World} {a : Option Addr} {len cap : Nat} {zs : List Int} (h : IsRow k w a len cap zs) : Sl k w a len cap (zs.take len) ∧ ∀ n ∈ zs.take len, (Lit.int k n).wf = true := by
  obtain ⟨h1, h2, h3, h4⟩ := h.rd
  refine ⟨⟨h1.symm, ?_, ?_, h.capNil, h3⟩, h4⟩
  · rcases h with ⟨_, rfl, rfl, _⟩ | ⟨x, rfl, hl, _⟩
    · exact Nat.le_refl _
    · exact hl
  · rcases h with ⟨_, rfl, rfl, _⟩ | ⟨x, rfl, hl, hm, _⟩
    · simp
    · exact hm
theorem Own.sl {k : IntKind} {E : TypeId} {w : World} {base : Nat} {v : Value} {zs : List Int} (h : Own k E w base v zs) : ∃ a cap, v = .slice a zs.length cap ∧ Sl k w a zs.length cap zs := by
  obtain ⟨a, cap, hv, hr, hn, hm⟩ := h.rd
  refine ⟨a, cap, hv, rfl, ?_, ?_, hn, hr⟩
  · rcases h.2 with ⟨hv2, hz⟩ | ⟨g, c, cur, hv2, _, _, hh, _⟩
    · rw [hv] at hv2; simp at hv2; omega
    · rw [hv] at hv2; simp at hv2; omega
  · rcases h.2 with ⟨hv2, hz⟩ | ⟨g, c, cur, hv2, _, _, _, hh, _⟩
    · rw [hv] at hv2; simp at hv2; omega
    · rw [hv] at hv2; simp at hv2; omega

theorem rd_one (w : World) (k : IntKind) (x : Int) (E : TypeId) : Rd k (w.alloc (.cells #[.int k x] E)) (some ⟨w.heap.size, 0, none⟩) [x] := by
  intro i hi
  obtain rfl : i = 0 := by simp at hi; omega
  exact ⟨_, _, rfl, cell_new _ _ rfl _ _⟩

/-- One more element, behind its own new cell. -/
theorem wpList_app1 {P : Program} (w aw : World) {ops : Array Oper} {rest : List Oper} {o : Oper} {a : Act} {Q : Exit → Act → World → Prop} (hw : Region.wanted o (yielded ops a.tmps) = true) (s x : Operand) (t : TypeId)
    (ho : o.op = .call { callee := .builtin .append, args := #[s, x], argTypes := #[t, t] })
    (B base : Nat) (E : TypeId) (k : IntKind) (b : Nat) (hT : IntsOf P t E k b)
    (v : Value) (zs : List Int) (hs : a.eval s = v) (hown : Own k E w base v zs)
    (y : Int) (hx : a.eval x = .slice (some ⟨w.heap.size, 0, none⟩) 1 1)
    (hlen : zs.length + 1 ≤ 140737488355328 / b) (hb0 : 0 < b) (hbel : Below B aw w) (hB : B ≤ base) (hbase : base ≤ w.heap.size)
    (h : ∀ a' cap' w', Own k E w' base (.slice a' (zs.length + 1) cap') (zs ++ [y]) → Below B aw w' → wpList P ops Q rest (a.put o.dst (.slice a' (zs.length + 1) cap')) w') : wpList P ops Q (o :: rest) a (w.alloc (.cells #[.int k y] E)) := by
  refine wpList_app _ hw s x t ho base E k b hT v zs hs (hown.alloc _) (some ⟨w.heap.size, 0, none⟩) 1 [y] hx (rd_one _ _ _ _) (by intro h; cases h) hlen hb0 (by simp; omega) ?_
  intro v' w' h1 h2
  obtain ⟨a', cap', hv, -⟩ := h1.sl
  rw [List.length_append, List.length_singleton] at hv
  subst hv
  exact h a' cap' w' h1 ((hown.alloc _).grew h2 (hbel.alloc (by omega) _) hB (by simp; omega))

/-- All elements of a slice. -/
theorem wpList_appS {P : Program} (w aw : World) {ops : Array Oper} {rest : List Oper} {o : Oper} {a : Act} {Q : Exit → Act → World → Prop} (hw : Region.wanted o (yielded ops a.tmps) = true) (s x : Operand) (t : TypeId)
    (ho : o.op = .call { callee := .builtin .append, args := #[s, x], argTypes := #[t, t] })
    (B base : Nat) (E : TypeId) (k : IntKind) (b : Nat) (hT : IntsOf P t E k b)
    (v : Value) (zs : List Int) (hs : a.eval s = v) (hown : Own k E w base v zs)
    (ad : Option Addr) (len cap : Nat) (ys : List Int) (hx : a.eval x = .slice ad len cap) (hsl : Sl k w ad len cap ys)
    (hlen : zs.length + len ≤ 140737488355328 / b) (hb0 : 0 < b) (hbel : Below B aw w) (hB : B ≤ base) (hbase : base ≤ w.heap.size)
    (h : ∀ a' cap' w', Own k E w' base (.slice a' (zs.length + len) cap') (zs ++ ys) → Below B aw w' → wpList P ops Q rest (a.put o.dst (.slice a' (zs.length + len) cap')) w') : wpList P ops Q (o :: rest) a w := by
  obtain ⟨rfl, h2, h3, h4, h5⟩ := hsl
  refine wpList_app _ hw s x t ho base E k b hT v zs hs hown ad cap ys hx h5 h4 hlen hb0 hbase ?_
  intro v' w' h1 h2
  obtain ⟨a', cap', hv, -⟩ := h1.sl
  rw [List.length_append] at hv
  subst hv
  exact h a' cap' w' h1 (hown.grew h2 hbel hB (by omega))

theorem Own.nil (k : IntKind) (E : TypeId) (w : World) (base : Nat) : Own k E w base (.slice none 0 0) [] := ⟨rfl, .inl ⟨rfl, rfl⟩⟩
theorem Own.base {k : IntKind} {E : TypeId} {w : World} {base base' : Nat} {v : Value} {zs : List Int} (h : Own k E w base v zs) (hb : base' ≤ base) : Own k E w base' v zs := by
  refine ⟨h.1, ?_⟩
  rcases h.2 with h | ⟨g, c, cur, hv, hg, r⟩
  · exact .inl h
  · exact .inr ⟨g, c, cur, hv, by omega, r⟩

/-- The text of bytes. -/
def textOf (zs : List Int) : ByteArray := zs.foldl (fun r n => r.push (UInt8.ofNat n.toNat)) ByteArray.empty

theorem Sl.text {P : Program} {w : World} {a : Option Addr} {len cap : Nat} {zs : List Int} (h : Sl .u8 w a len cap zs) (src dst e : TypeId)
    (hs : P.underlying src = some (.slice e)) (he : P.underlying e = some (.int .u8)) (hd : P.underlying dst = some .string) :
    (convert src dst (.slice a len cap)).run P w = .ok (.string (textOf zs)) w := by
  rw [run_convert_bytes_string w src dst e a len cap hs he hd]
  obtain ⟨rfl, h2, h3, h4, h5⟩ := h
  cases a with
  | none =>
    have : zs = [] := by
      cases zs with
      | nil => rfl
      | cons z r => obtain ⟨_, _, e, _⟩ := h5 0 (by simp); cases e
    subst this
    obtain rfl := h4 rfl
    simp [Conv.bytesToString, textOf, Sem.run_pure]
  | some ad =>
    refine run_bytesToString w ad zs.length cap zs ?_
    have hc := run_loadCells_list (P := P) w ad (zs.map (Value.int .u8)) (fun j v hj => by
      have hjl : j < zs.length := by
        rcases Nat.lt_or_ge j zs.length with hl | hl
        · exact hl
        · rw [List.getElem?_eq_none (by simpa using hl)] at hj; cases hj
      obtain ⟨b, off, e, hc⟩ := h5 j hjl
      cases e
      have hv : v = .int .u8 (zs.getD j 0) := by simp [hjl] at hj; simp [hjl, hj]
      rw [hv]
      by_cases hj0 : j = 0
      · subst hj0; simpa [Addr.add] using hc
      · simpa [Addr.add, hj0] using hc)
    simpa using hc

theorem Own.textR {P : Program} {w : World} {base : Nat} {E : TypeId} {a : Option Addr} {cap : Nat} {zs : List Int} (h : Own .u8 E w base (.slice a zs.length cap) zs) (src dst e : TypeId)
    (hs : P.underlying src = some (.slice e)) (he : P.underlying e = some (.int .u8)) (hd : P.underlying dst = some .string) :
    ∀ w', After w w' → (convert src dst (.slice a zs.length cap)).run P w' = .ok (.string (textOf zs)) w' := by
  intro w' hw
  obtain ⟨a', cap', hv, hsl⟩ := h.sl
  cases hv
  exact (hsl.below hw).text src dst e hs he hd

/-- The text of a slice's bytes, as an operation. -/
theorem wpList_text {P : Program} (w : World) {ops : Array Oper} {rest : List Oper} {o : Oper} {a : Act} {Q : Exit → Act → World → Prop} (hw : Region.wanted o (yielded ops a.tmps) = true) (x : Operand) (src dst e : TypeId)
    (ho : o.op = .convert src dst x) (hs : P.underlying src = some (.slice e)) (he : P.underlying e = some (.int .u8)) (hd : P.underlying dst = some .string)
    (ad : Option Addr) (len cap : Nat) (zs : List Int) (hx : a.eval x = .slice ad len cap) (hsl : Sl .u8 w ad len cap zs)
    (h : wpList P ops Q rest (a.put o.dst (.string (textOf zs))) w) : wpList P ops Q (o :: rest) a w := by
  refine BigFrame.wpList_want hw fun K hK => ?_
  have hr := hsl.text (P := P) src dst e hs he hd
  unfold Oper.wp execOp
  simp only [ho, hx, Sem.run_bind, hr, Result.andThen_ok, Sem.run_pure]
  exact hK _ _ h

end Go.Proofs.Ytdhebbflpdnfiaa
