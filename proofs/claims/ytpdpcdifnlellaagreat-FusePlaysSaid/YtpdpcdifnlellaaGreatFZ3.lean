/- Several texts in one: RegionG, StoF, TurnM. -/
import Derived.Test.YtpdpcdifnlellaaGreatKA
import Derived.Test.YtpdpcdifnlellaaGreatKB
import Derived.Test.YtpdpcdifnlellaaGreatTurn13

/- As XRegionT, over whatever relation of the worlds, which the very last operation (it waits for all others) need not keep: p.f = append(p.f, x). -/
namespace Go.Proofs.YtpdpcdifnlellaaGreat
open Go.RowKit
set_option maxRecDepth 100000

/-- A relation of worlds that may be laid behind itself. -/
structure PreO (Rl : World → World → Prop) : Prop where
  refl : ∀ w, Rl w w
  trans : ∀ {a b c : World}, Rl a b → Rl b c → Rl a c

section
variable {P : Program} {ops : Array Oper} {Q : Exit → Act → World → Prop} {md : Region.Mode} {Rl : World → World → Prop} {last : Nat}

def wpAnyG (P : Program) (md : Region.Mode) (Rl : World → World → Prop) (last : Nat) (ops : Array Oper) (Q : Exit → Act → World → Prop) : Nat → Array Bool → Act → World → Prop
  | 0, listed, a, w => Region.ready md ops listed = [] ∧ Q .normal a w
  | n + 1, listed, a, w => (Region.ready md ops listed = [] → Q .normal a w) ∧
      ∀ i ∈ Region.ready md ops listed, wpOp P ops Q i (fun a' w' => (i ≠ last → Rl w w') ∧ wpAnyG P md Rl last ops Q n (listed.setIfInBounds i true) a' w') a w

theorem wpAny_of_G : ∀ (n : Nat) (listed : Array Bool) (a : Act) (w : World), wpAnyG P md Rl last ops Q n listed a w → wpAny P md ops Q n listed a w
  | 0, _, _, _, h => h
  | n + 1, _, _, _, h => ⟨h.1, fun i hi => wpOp_mono (fun a' w' k => wpAny_of_G n _ a' w' k.2) (h.2 i hi)⟩

theorem YieldsIf.laterG (ho : PreO Rl) {o : Oper} {v : Value} {a : Act} {w w' : World} (h : YieldsIf P ops (Rl w) o v a) (hw : Rl w w') : YieldsIf P ops (Rl w') o v a :=
  h.imp (fun ⟨h1, h2⟩ => ⟨h1, fun u hu => h2 u (ho.trans hw hu)⟩) id

/-- The last operation waits for number i. -/
def waitsG (md : Region.Mode) (ops : Array Oper) (last i : Nat) : Bool := match ops[last]? with | some o => o.after.any fun e => Region.binds md e && e.on == i | none => false
theorem waitsG_spec {i : Nat} (h : waitsG md ops last i = true) : ∃ ol, ops[last]? = some ol ∧ ∃ e ∈ ol.after, Region.binds md e = true ∧ e.on = i := by
  unfold waitsG at h
  cases hl : ops[last]? with
  | none => rw [hl] at h; cases h
  | some ol =>
    rw [hl] at h
    simp only [Array.any_eq_true, Bool.and_eq_true, beq_iff_eq] at h
    obtain ⟨k, hk, h1, h2⟩ := h
    exact ⟨ol, rfl, ol.after[k], Array.getElem_mem hk, h1, h2⟩

theorem wpAnyG_first (ho : PreO Rl) {i : Nat} {oi : Oper} {v : Value} (hi : ops[i]? = some oi) (hl : waitsG md ops last i = true) (hsel : ∀ (j : Nat) (o : Oper) cs b, ops[j]? = some o → o.op ≠ .select cs b)
    (hQ : ∀ c a w, Q (.panic c) (a.put oi.dst v) w → Q (.panic c) a w) (n : Nat) : ∀ (listed : Array Bool) (a : Act) (w : World),
      (∀ j oj, ops[j]? = some oj → j ≠ i → listed.getD j true = false → (∀ e ∈ oj.after, Region.binds md e = true → e.on ≠ i) → oi.apart ops oj = true) →
      i ∈ Region.ready md ops listed → YieldsIf P ops (Rl w) oi v a →
      wpAnyG P md Rl last ops Q n (listed.setIfInBounds i true) (a.put oi.dst v) w → wpAnyG P md Rl last ops Q (n + 1) listed a w := by
  obtain ⟨ol, hol, e0, he0, hb0, hon0⟩ := waitsG_spec hl
  induction n with
  | zero =>
    intro listed a w _ hr hy H
    constructor
    · intro h; rw [h] at hr; cases hr
    · intro j hj
      by_cases hji : j = i
      · subst hji; exact hy.wpOp hi (ho.refl w) ⟨fun _ => ho.refl w, H⟩
      · have := ready_mono hj hji
        rw [H.1] at this; cases this
  | succ n ih =>
    intro listed a w hap hr hy H
    constructor
    · intro h; rw [h] at hr; cases hr
    · intro j hj
      by_cases hji : j = i
      · subst hji; exact hy.wpOp hi (ho.refl w) ⟨fun _ => ho.refl w, H⟩
      · obtain ⟨hun, oj, hoj, hall⟩ := mem_ready.1 hj
        have hno : ∀ e ∈ oj.after, Region.binds md e = true → e.on ≠ i := by
          intro e he hb heq
          have k1 := hall e he hb
          have k0 := (mem_ready.1 hr).1
          rw [heq] at k1
          by_cases hs : i < listed.size
          · simp [hs] at k0 k1; rw [k0] at k1; cases k1
          · rw [Array.getD_eq_getD_getElem?, Array.getElem?_eq_none (by omega)] at k1; cases k1
        have hjl : j ≠ last := by
          intro e
          subst e
          rw [hol] at hoj; cases hoj
          exact hno e0 he0 hb0 hon0
        have step := wpOp_putIf hoj (hap j oj hoj hji hun hno) (fun cs b => hsel i oi cs b hi) (fun cs b => hsel j oj cs b hoj) hQ hy (H.2 j (ready_mono hj hji))
        refine wpOp_mono (fun a' w' k => ⟨k.2.1, ih _ a' w' ?_ (ready_mono hr (Ne.symm hji)) (YieldsIf.laterG ho k.1 (k.2.1 hjl)) ?_⟩) step
        · intro m om hom hmi hmu hmn
          refine hap m om hom hmi ?_ hmn
          by_cases hjm : j = m
          · subst hjm; exact hun
          · rwa [getD_set_ne true hjm] at hmu
        · rw [Array.setIfInBounds_comm _ _ hji]; exact k.2.2

/-- As wpAnyG_first, of what yields the same in every world. -/
theorem wpAnyG_firstP (ho : PreO Rl) {i : Nat} {oi : Oper} {v : Value} (hi : ops[i]? = some oi) (hsel : ∀ (j : Nat) (o : Oper) cs b, ops[j]? = some o → o.op ≠ .select cs b)
    (hQ : ∀ c a w, Q (.panic c) (a.put oi.dst v) w → Q (.panic c) a w) (n : Nat) : ∀ (listed : Array Bool) (a : Act) (w : World),
      (∀ j oj, ops[j]? = some oj → j ≠ i → listed.getD j true = false → (∀ e ∈ oj.after, Region.binds md e = true → e.on ≠ i) → oi.apart ops oj = true) →
      i ∈ Region.ready md ops listed → YieldsIf P ops (fun _ => True) oi v a →
      wpAnyG P md Rl last ops Q n (listed.setIfInBounds i true) (a.put oi.dst v) w → wpAnyG P md Rl last ops Q (n + 1) listed a w := by
  induction n with
  | zero =>
    intro listed a w _ hr hy H
    constructor
    · intro h; rw [h] at hr; cases hr
    · intro j hj
      by_cases hji : j = i
      · subst hji; exact hy.wpOp hi trivial ⟨fun _ => ho.refl w, H⟩
      · have := ready_mono hj hji
        rw [H.1] at this; cases this
  | succ n ih =>
    intro listed a w hap hr hy H
    constructor
    · intro h; rw [h] at hr; cases hr
    · intro j hj
      by_cases hji : j = i
      · subst hji; exact hy.wpOp hi trivial ⟨fun _ => ho.refl w, H⟩
      · obtain ⟨hun, oj, hoj, hall⟩ := mem_ready.1 hj
        have hno : ∀ e ∈ oj.after, Region.binds md e = true → e.on ≠ i := by
          intro e he hb heq
          have k1 := hall e he hb
          have k0 := (mem_ready.1 hr).1
          rw [heq] at k1
          by_cases hs : i < listed.size
          · simp [hs] at k0 k1; rw [k0] at k1; cases k1
          · rw [Array.getD_eq_getD_getElem?, Array.getElem?_eq_none (by omega)] at k1; cases k1
        have step := wpOp_putIf hoj (hap j oj hoj hji hun hno) (fun cs b => hsel i oi cs b hi) (fun cs b => hsel j oj cs b hoj) hQ hy (H.2 j (ready_mono hj hji))
        refine wpOp_mono (fun a' w' k => ⟨k.2.1, ih _ a' w' ?_ (ready_mono hr (Ne.symm hji)) k.1 ?_⟩) step
        · intro m om hom hmi hmu hmn
          refine hap m om hom hmi ?_ hmn
          by_cases hjm : j = m
          · subst hjm; exact hun
          · rwa [getD_set_ne true hjm] at hmu
        · rw [Array.setIfInBounds_comm _ _ hji]; exact k.2.2
theorem wpAnyG_takeP (ho : PreO Rl) {oi : Oper} {n : Nat} {listed : Array Bool} {a : Act} {w : World} (i : Nat) (hi : ops[i]? = some oi) (hs : Region.noSelect ops = true) (hf : Region.free md ops listed i = true)
    (hr : (Region.ready md ops listed).contains i = true) (hQ : ∀ v c a w, Q (.panic c) (a.put oi.dst v) w → Q (.panic c) a w)
    (h : ∃ v, YieldsIf P ops (fun _ => True) oi v a ∧ ∃ a', a.put oi.dst v = a' ∧ wpAnyG P md Rl last ops Q n (listed.setIfInBounds i true) a' w) : wpAnyG P md Rl last ops Q (n + 1) listed a w := by
  obtain ⟨v, hy, _, rfl, h⟩ := h
  exact wpAnyG_firstP ho hi (Region.noSelect_spec hs) (hQ v) n listed a w (Region.free_spec hi hf) (by simpa using hr) hy h

theorem wpAnyG_take (ho : PreO Rl) {oi : Oper} {n : Nat} {listed : Array Bool} {a : Act} {w : World} (i : Nat) (hi : ops[i]? = some oi) (hl : waitsG md ops last i = true) (hs : Region.noSelect ops = true) (hf : Region.free md ops listed i = true)
    (hr : (Region.ready md ops listed).contains i = true) (hQ : ∀ v c a w, Q (.panic c) (a.put oi.dst v) w → Q (.panic c) a w)
    (h : ∃ v, YieldsIf P ops (Rl w) oi v a ∧ ∃ a', a.put oi.dst v = a' ∧ wpAnyG P md Rl last ops Q n (listed.setIfInBounds i true) a' w) : wpAnyG P md Rl last ops Q (n + 1) listed a w := by
  obtain ⟨v, hy, _, rfl, h⟩ := h
  exact wpAnyG_first ho hi hl (Region.noSelect_spec hs) (hQ v) n listed a w (Region.free_spec hi hf) (by simpa using hr) hy h

theorem wpAnyG_only {oi : Oper} {n : Nat} {listed : Array Bool} {a : Act} {w : World} (i : Nat) (hi : ops[i]? = some oi) (hr : Region.ready md ops listed = [i]) (hw : Region.wanted oi (yielded ops a.tmps) = true)
    (h : ∀ K : Act → World → Prop, (∀ a' w', (i ≠ last → Rl w w') ∧ wpAnyG P md Rl last ops Q n (listed.setIfInBounds i true) a' w' → K a' w') → oi.wp P a w K Q) : wpAnyG P md Rl last ops Q (n + 1) listed a w := by
  refine ⟨(fun h0 => by rw [hr] at h0; cases h0), fun j hj => ?_⟩
  rw [hr] at hj
  obtain rfl := List.mem_singleton.1 hj
  unfold wpOp
  simp only [hi, hw, if_true]
  exact .inl (h _ fun _ _ k => k)

theorem wpAnyG_done {listed : Array Bool} {a : Act} {w : World} (hr : Region.ready md ops listed = []) (h : Q .normal a w) : ∀ n, wpAnyG P md Rl last ops Q n listed a w
  | 0 => ⟨hr, h⟩
  | n + 1 => ⟨fun _ => h, fun i hi => by rw [hr] at hi; cases hi⟩
theorem wp_region_G {id : Nat} {a : Act} {w : World} (Rl : World → World → Prop) (last : Nat) (hm : P.follows .mixedOrders = true) (h : wpAnyG P .any Rl last ops Q ops.size (Array.replicate ops.size false) a w.drew) : (Code.region id ops true).wp P Q a w :=
  wp_region_any hm (wpAny_of_G _ _ _ _ h)
end

end Go.Proofs.YtpdpcdifnlellaaGreat

/- Stores of a cell, or of a struct, into an old block: the equation makes a walk go on over the new world. -/
namespace Go.Proofs.YtpdpcdifnlellaaGreat
open Go.RowKit
set_option linter.unusedVariables false

theorem onS {w w' : World} {p : Nat} {o : Obj} (h : w.heap[p]? = some o) (hb : Below w.heap.size w w') : w'.heap[p]? = some o := by
  rw [hb.block p (held_lt h)]; exact h
theorem putS {U V : World} {p : Nat} (h : Only p U V) (j : Nat) (v : Value) : Only p U (V.setCell ⟨p, j, none⟩ v) := h.then (Only.set p j v V)
theorem st1 {U : World} {p : Nat} {c : Array Value} {T : TypeId} (h : U.heap[p]? = some (.cells c T (0, 0))) (j : Nat) (v : Value) : ∃ W2, U.setCell ⟨p, j, none⟩ v = W2 ∧ W2.heap[p]? = some (.cells (c.setIfInBounds j v) T (0, 0)) ∧ Only p U W2 :=
  ⟨_, rfl, held_set h j v, Only.set p j v U⟩
theorem st3 {U : World} {p : Nat} {v0 v1 v2 : Value} {T : TypeId} (h : U.heap[p]? = some (.cells #[v0, v1, v2] T (0, 0))) (u0 u1 u2 : Value) :
    ∃ W2, ((U.setCell ⟨p, 0, none⟩ u0).setCell ⟨p, 1, none⟩ u1).setCell ⟨p, 2, none⟩ u2 = W2 ∧ W2.heap[p]? = some (.cells #[u0, u1, u2] T (0, 0)) ∧ Only p U W2 := by
  have h4 := held_set (held_set (held_set h 0 u0) 1 u1) 2 u2
  exact ⟨_, rfl, h4, putS (putS (Only.set p 0 u0 U) 1 u1) 2 u2⟩
theorem st4 {U : World} {p : Nat} {v0 v1 v2 v3 : Value} {T : TypeId} (h : U.heap[p]? = some (.cells #[v0, v1, v2, v3] T (0, 0))) (u0 u1 u2 u3 : Value) :
    ∃ W2, (((U.setCell ⟨p, 0, none⟩ u0).setCell ⟨p, 1, none⟩ u1).setCell ⟨p, 2, none⟩ u2).setCell ⟨p, 3, none⟩ u3 = W2 ∧ W2.heap[p]? = some (.cells #[u0, u1, u2, u3] T (0, 0)) ∧ Only p U W2 := by
  have h4 := held_set (held_set (held_set (held_set h 0 u0) 1 u1) 2 u2) 3 u3
  exact ⟨_, rfl, h4, putS (putS (putS (Only.set p 0 u0 U) 1 u1) 2 u2) 3 u3⟩
theorem st5 {U : World} {p : Nat} {v0 v1 v2 v3 v4 : Value} {T : TypeId} (h : U.heap[p]? = some (.cells #[v0, v1, v2, v3, v4] T (0, 0))) (u0 u1 u2 u3 u4 : Value) :
    ∃ W2, ((((U.setCell ⟨p, 0, none⟩ u0).setCell ⟨p, 1, none⟩ u1).setCell ⟨p, 2, none⟩ u2).setCell ⟨p, 3, none⟩ u3).setCell ⟨p, 4, none⟩ u4 = W2 ∧ W2.heap[p]? = some (.cells #[u0, u1, u2, u3, u4] T (0, 0)) ∧ Only p U W2 := by
  have h4 := held_set (held_set (held_set (held_set (held_set h 0 u0) 1 u1) 2 u2) 3 u3) 4 u4
  exact ⟨_, rfl, h4, putS (putS (putS (putS (Only.set p 0 u0 U) 1 u1) 2 u2) 3 u3) 4 u4⟩
theorem heldS {w w' : World} {p q : Nat} {o : Obj} (hO : Only p w w') (hne : q ≠ p) (h : w.heap[q]? = some o) : w'.heap[q]? = some o := by rw [hO.block q hne]; exact h
theorem belowS {B : Nat} {w0 w w' : World} {p : Nat} (h : Below B w0 w) (hO : Only p w w') (hp : B ≤ p) : Below B w0 w' := h.trans ⟨hO.os, hO.tape, hO.output, by rw [hO.size]; exact Nat.le_refl _, fun k hk => hO.block k (by omega)⟩
theorem st2 {U : World} {p : Nat} {v0 v1 : Value} {T : TypeId} (h : U.heap[p]? = some (.cells #[v0, v1] T (0, 0))) (u0 u1 : Value) :
    ∃ W2, (U.setCell ⟨p, 0, none⟩ u0).setCell ⟨p, 1, none⟩ u1 = W2 ∧ W2.heap[p]? = some (.cells #[u0, u1] T (0, 0)) ∧ Only p U W2 := by
  have h4 := held_set (held_set h 0 u0) 1 u1
  exact ⟨_, rfl, h4, putS (Only.set p 0 u0 U) 1 u1⟩

theorem st9 {U : World} {p : Nat} {v0 v1 v2 v3 v4 v5 v6 v7 v8 : Value} {T : TypeId} (h : U.heap[p]? = some (.cells #[v0, v1, v2, v3, v4, v5, v6, v7, v8] T (0, 0))) (u0 u1 u2 u3 u4 u5 u6 u7 u8 : Value) :
    ∃ W2, ((((((((U.setCell ⟨p, 0, none⟩ u0).setCell ⟨p, 1, none⟩ u1).setCell ⟨p, 2, none⟩ u2).setCell ⟨p, 3, none⟩ u3).setCell ⟨p, 4, none⟩ u4).setCell ⟨p, 5, none⟩ u5).setCell ⟨p, 6, none⟩ u6).setCell ⟨p, 7, none⟩ u7).setCell ⟨p, 8, none⟩ u8 = W2 ∧ W2.heap[p]? = some (.cells #[u0, u1, u2, u3, u4, u5, u6, u7, u8] T (0, 0)) ∧ Only p U W2 := by
  have h0 : (U.setCell ⟨p, 0, none⟩ u0).heap[p]? = some (.cells #[u0, v1, v2, v3, v4, v5, v6, v7, v8] T (0, 0)) := held_set h 0 u0
  have o0 : Only p U (U.setCell ⟨p, 0, none⟩ u0) := Only.set p 0 u0 U
  obtain ⟨W0, hW0⟩ : ∃ W, (U.setCell ⟨p, 0, none⟩ u0) = W := ⟨_, rfl⟩
  rw [hW0] at h0 o0 ⊢
  have h1 : (W0.setCell ⟨p, 1, none⟩ u1).heap[p]? = some (.cells #[u0, u1, v2, v3, v4, v5, v6, v7, v8] T (0, 0)) := held_set h0 1 u1
  have o1 : Only p U (W0.setCell ⟨p, 1, none⟩ u1) := putS o0 1 u1
  obtain ⟨W1, hW1⟩ : ∃ W, (W0.setCell ⟨p, 1, none⟩ u1) = W := ⟨_, rfl⟩
  rw [hW1] at h1 o1 ⊢
  have h2 : (W1.setCell ⟨p, 2, none⟩ u2).heap[p]? = some (.cells #[u0, u1, u2, v3, v4, v5, v6, v7, v8] T (0, 0)) := held_set h1 2 u2
  have o2 : Only p U (W1.setCell ⟨p, 2, none⟩ u2) := putS o1 2 u2
  obtain ⟨W2, hW2⟩ : ∃ W, (W1.setCell ⟨p, 2, none⟩ u2) = W := ⟨_, rfl⟩
  rw [hW2] at h2 o2 ⊢
  have h3 : (W2.setCell ⟨p, 3, none⟩ u3).heap[p]? = some (.cells #[u0, u1, u2, u3, v4, v5, v6, v7, v8] T (0, 0)) := held_set h2 3 u3
  have o3 : Only p U (W2.setCell ⟨p, 3, none⟩ u3) := putS o2 3 u3
  obtain ⟨W3, hW3⟩ : ∃ W, (W2.setCell ⟨p, 3, none⟩ u3) = W := ⟨_, rfl⟩
  rw [hW3] at h3 o3 ⊢
  have h4 : (W3.setCell ⟨p, 4, none⟩ u4).heap[p]? = some (.cells #[u0, u1, u2, u3, u4, v5, v6, v7, v8] T (0, 0)) := held_set h3 4 u4
  have o4 : Only p U (W3.setCell ⟨p, 4, none⟩ u4) := putS o3 4 u4
  obtain ⟨W4, hW4⟩ : ∃ W, (W3.setCell ⟨p, 4, none⟩ u4) = W := ⟨_, rfl⟩
  rw [hW4] at h4 o4 ⊢
  have h5 : (W4.setCell ⟨p, 5, none⟩ u5).heap[p]? = some (.cells #[u0, u1, u2, u3, u4, u5, v6, v7, v8] T (0, 0)) := held_set h4 5 u5
  have o5 : Only p U (W4.setCell ⟨p, 5, none⟩ u5) := putS o4 5 u5
  obtain ⟨W5, hW5⟩ : ∃ W, (W4.setCell ⟨p, 5, none⟩ u5) = W := ⟨_, rfl⟩
  rw [hW5] at h5 o5 ⊢
  have h6 : (W5.setCell ⟨p, 6, none⟩ u6).heap[p]? = some (.cells #[u0, u1, u2, u3, u4, u5, u6, v7, v8] T (0, 0)) := held_set h5 6 u6
  have o6 : Only p U (W5.setCell ⟨p, 6, none⟩ u6) := putS o5 6 u6
  obtain ⟨W6, hW6⟩ : ∃ W, (W5.setCell ⟨p, 6, none⟩ u6) = W := ⟨_, rfl⟩
  rw [hW6] at h6 o6 ⊢
  have h7 : (W6.setCell ⟨p, 7, none⟩ u7).heap[p]? = some (.cells #[u0, u1, u2, u3, u4, u5, u6, u7, v8] T (0, 0)) := held_set h6 7 u7
  have o7 : Only p U (W6.setCell ⟨p, 7, none⟩ u7) := putS o6 7 u7
  obtain ⟨W7, hW7⟩ : ∃ W, (W6.setCell ⟨p, 7, none⟩ u7) = W := ⟨_, rfl⟩
  rw [hW7] at h7 o7 ⊢
  have h8 : (W7.setCell ⟨p, 8, none⟩ u8).heap[p]? = some (.cells #[u0, u1, u2, u3, u4, u5, u6, u7, u8] T (0, 0)) := held_set h7 8 u8
  have o8 : Only p U (W7.setCell ⟨p, 8, none⟩ u8) := putS o7 8 u8
  obtain ⟨W8, hW8⟩ : ∃ W, (W7.setCell ⟨p, 8, none⟩ u8) = W := ⟨_, rfl⟩
  rw [hW8] at h8 o8 ⊢
  exact ⟨_, rfl, h8, o8⟩
end Go.Proofs.YtpdpcdifnlellaaGreat

/- Math of turns, for a step of the filter. -/
namespace Go.Proofs.YtpdpcdifnlellaaGreat
open Go.ChangeShapes Go.WideShapes Go.ChangeAt Go.RowKit
set_option maxRecDepth 100000
set_option linter.unusedVariables false

theorem cuts_le13 (f : Nat → Int) : ∀ k, cuts f k ≤ k
  | 0 => Nat.le_refl _
  | k + 1 => by
    have h := cuts_le13 f k
    unfold cuts
    split <;> omega
theorem mul_form (x y z t a b c d : Int) : ∃ m0 m1 m2 m3 n : Int, mulV x y z t a b c d = .tuple #[.agg #[.int .i32 m0, .int .i32 m1, .int .i32 m2, .int .i32 m3], .int .i64 n] ∧ B32 m0 ∧ B32 m1 ∧ B32 m2 ∧ B32 m3 ∧ 0 ≤ n ∧ n ≤ 4 :=
  ⟨_, _, _, _, _, rfl, clampS_bd13 _, clampS_bd13 _, clampS_bd13 _, clampS_bd13 _, Int.natCast_nonneg _, by have h := cuts_le13 (fun i => sel4 i (mulW x y z t a b c d) (mulX x y z t a b c d) (mulY x y z t a b c d) (mulZ x y z t a b c d)) 4; exact_mod_cast h⟩
theorem unit4_form13 (x y z t : Int) : ∃ (s0 s1 s2 s3 : Int) (b : Bool), unitT4 x y z t = .tuple #[.agg #[.int .i32 s0, .int .i32 s1, .int .i32 s2, .int .i32 s3], .bool b] := by
  unfold unitT4; split
  · exact ⟨_, _, _, _, _, rfl⟩
  · exact ⟨_, _, _, _, _, rfl⟩
theorem roundS_30_t (n : Int) : roundS n 30 = if n < 0 then -(qn n.natAbs 1073741824 : Int) else if qn n.natAbs 1073741824 ≤ 9223372036854775807 then (qn n.natAbs 1073741824 : Int) else 9223372036854775807 := by
  have hp : pow2 (bnd 30 62) = 1073741824 := by decide +kernel
  unfold roundS overS
  rw [hp, if_neg (by omega)]
  have e : (1073741824 : Int).natAbs = 1073741824 := rfl
  rw [e]
  by_cases h : n < 0
  · rw [if_pos (by omega), if_pos h]
  · rw [if_neg (by omega), if_neg h]
theorem qn_mul30_t (a : Nat) : qn (a * 1073741824) 1073741824 = a := by
  unfold qn
  rw [Nat.mul_mod_left, Nat.mul_div_cancel _ (by omega), if_neg (by omega)]
theorem round_mul_t (x : Int) (h : B32 x) : roundS (x * 1073741824) 30 = x := by
  unfold B32 at h
  rw [roundS_30_t]
  have e : (x * 1073741824).natAbs = x.natAbs * 1073741824 := by omega
  rw [e, qn_mul30_t]
  by_cases h : x < 0
  · rw [if_pos (by omega)]; omega
  · rw [if_neg (by omega), if_pos (by omega)]; omega
theorem round_0_t : roundS 0 30 = 0 := by decide +kernel
theorem clampS_in_t {n : Int} (h : B32 n) : clampS n = n := by unfold B32 at h; unfold clampS; rw [if_neg (by omega), if_neg (by omega)]
theorem clampB_in_t {n : Int} (h : B32 n) : clampB n = false := by unfold B32 at h; unfold clampB; simp; omega
theorem cut4_in_t {x y z t : Int} (p0 : B32 x) (p1 : B32 y) (p2 : B32 z) (p3 : B32 t) : cut4 x y z t = .tuple #[.agg #[.int .i32 x, .int .i32 y, .int .i32 z, .int .i32 t], .int .i64 (0 : Nat)] := by
  unfold cut4
  rw [clampS_in_t p0, clampS_in_t p1, clampS_in_t p2, clampS_in_t p3]
  simp [cuts, sel4, clampB_in_t p0, clampB_in_t p1, clampB_in_t p2, clampB_in_t p3]
theorem mul_one_r_t {x y z t : Int} (p0 : B32 x) (p1 : B32 y) (p2 : B32 z) (p3 : B32 t) : mulV x y z t 1073741824 0 0 0 = .tuple #[.agg #[.int .i32 x, .int .i32 y, .int .i32 z, .int .i32 t], .int .i64 (0 : Nat)] := by
  unfold mulV mulW mulX mulY mulZ
  simp only [Int.mul_zero, round_0_t, round_mul_t _ p0, round_mul_t _ p1, round_mul_t _ p2, round_mul_t _ p3]
  rw [show x - 0 - 0 - 0 = x from by omega, show 0 + y + 0 - 0 = y from by omega, show 0 + z + 0 - 0 = z from by omega, show 0 + t + 0 - 0 = t from by omega]
  exact cut4_in_t p0 p1 p2 p3
theorem off_near {u0 u1 u2 u3 : Int} (b0 : B32 u0) (b1 : B32 u1) (b2 : B32 u2) (b3 : B32 u3) (m1 : 1152921504606846976 - 8589934592 ≤ u0 * u0 + u1 * u1 + u2 * u2 + u3 * u3) (m2 : u0 * u0 + u1 * u1 + u2 * u2 + u3 * u3 ≤ 1152921504606846976 + 8589934592) : offS (sqs [u0, u1, u2, u3] 0) ≤ 8589934592 ∧ 0 ≤ offS (sqs [u0, u1, u2, u3] 0) := by
  have hP := (sqs4 u0 u1 u2 u3 b0 b1 b2 b3).1
  rw [if_pos (by omega)] at hP
  unfold offS
  constructor
  · split <;> omega
  · split <;> omega
theorem unit4_off (x y z t : Int) (p0 : B32 x) (p1 : B32 y) (p2 : B32 z) (p3 : B32 t) : ∃ (u0 u1 u2 u3 : Int) (ok : Bool), unitT4 x y z t = .tuple #[.agg #[.int .i32 u0, .int .i32 u1, .int .i32 u2, .int .i32 u3], .bool ok] ∧ (ok = true → B32 u0 ∧ B32 u1 ∧ B32 u2 ∧ B32 u3 ∧ offS (sqs [u0, u1, u2, u3] 0) ≤ 8589934592 ∧ 0 ≤ offS (sqs [u0, u1, u2, u3] 0)) := by
  by_cases hz : x = 0 ∧ y = 0 ∧ z = 0 ∧ t = 0
  · exact ⟨_, _, _, _, _, unit4_no hz, fun h => by simp at h⟩
  · obtain ⟨f, hV, b0, b1, b2, b3, m1, m2, -⟩ := unit_all4 x y z t hz p0 p1 p2 p3
    exact ⟨_, _, _, _, _, hV, fun _ => ⟨b0, b1, b2, b3, off_near b0 b1 b2 b3 m1 m2⟩⟩
theorem step_off {ok : Bool} {u0 u1 u2 u3 : Int} (k : Int) (h : ok = true → B32 u0 ∧ B32 u1 ∧ B32 u2 ∧ B32 u3 ∧ offS (sqs [u0, u1, u2, u3] 0) ≤ 8589934592 ∧ 0 ≤ offS (sqs [u0, u1, u2, u3] 0)) : ∃ v0 v1 v2 v3 n : Int, stepR ok u0 u1 u2 u3 k = .tuple #[.agg #[.int .i32 v0, .int .i32 v1, .int .i32 v2, .int .i32 v3], .int .i64 n] ∧ B32 v0 ∧ B32 v1 ∧ B32 v2 ∧ B32 v3 ∧ offS (sqs [v0, v1, v2, v3] 0) ≤ 8589934592 ∧ 0 ≤ offS (sqs [v0, v1, v2, v3] 0) := by
  cases ok
  · exact ⟨1073741824, 0, 0, 0, k + 1, rfl, by unfold B32; omega, by unfold B32; omega, by unfold B32; omega, by unfold B32; omega, by decide +kernel, by decide +kernel⟩
  · exact ⟨u0, u1, u2, u3, k, rfl, h rfl⟩
theorem rnd_none : clampS (roundS 0 3) = 0 ∧ oneIf (clampB (roundS 0 3)) = 0 := by decide +kernel
theorem step_zero {ok : Bool} {u0 u1 u2 u3 : Int} : stepR ok u0 u1 u2 u3 (((0 : Nat) : Int) + (0 + 0 + 0)) = stepR ok u0 u1 u2 u3 0 := rfl
theorem mul_none {x y z t : Int} (p0 : B32 x) (p1 : B32 y) (p2 : B32 z) (p3 : B32 t) {a b c : Int} (ha : a = 0) (hb : b = 0) (hc : c = 0) : mulV x y z t 1073741824 (clampS (roundS a 3)) (clampS (roundS b 3)) (clampS (roundS c 3)) = .tuple #[.agg #[.int .i32 x, .int .i32 y, .int .i32 z, .int .i32 t], .int .i64 (0 : Nat)] := by
  rw [ha, hb, hc, rnd_none.1]; exact mul_one_r_t p0 p1 p2 p3
end Go.Proofs.YtpdpcdifnlellaaGreat
