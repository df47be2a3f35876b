/- As XRegion, where some blocks, and those from number N on, may also be written. -/
import Derived.Test.YtekilpmmadhpoaaRegion
namespace Go.Proofs.Ytekilpmmadhpoaa
open Go.RowKit
/-- All blocks below N but those of X are as they were. -/
structure Kp (N : Nat) (X : List Nat) (w w' : World) : Prop where
  os : w'.os = w.os
  tape : w'.tape = w.tape
  output : w'.output = w.output
  size : w.heap.size ≤ w'.heap.size
  block : ∀ k, k < N → k ∉ X → w'.heap[k]? = w.heap[k]?
theorem Kp.refl (N : Nat) (X : List Nat) (w : World) : Kp N X w w := ⟨rfl, rfl, rfl, Nat.le_refl _, fun _ _ _ => rfl⟩
theorem Kp.trans {N : Nat} {X : List Nat} {a b c : World} (h : Kp N X a b) (k : Kp N X b c) : Kp N X a c := ⟨k.os.trans h.os, k.tape.trans h.tape, k.output.trans h.output, Nat.le_trans h.size k.size, fun m h1 h2 => (k.block m h1 h2).trans (h.block m h1 h2)⟩
theorem Kp.of {N : Nat} {X : List Nat} {w w' : World} (h : Below w.heap.size w w') (hN : N ≤ w.heap.size) : Kp N X w w' := ⟨h.os, h.tape, h.output, h.size, fun k hk _ => h.block k (by omega)⟩
theorem Kp.cellB {N : Nat} {X : List Nat} {w w' : World} (h : Kp N X w w') {p : Addr} {v : Value} (hp : p.block < N) (hx : p.block ∉ X) (hc : w.cell? p = some v) : w'.cell? p = some v := (World.cell?_of_block (w := w) (h.block p.block hp hx)).trans hc
theorem After.frozenB {w w' : World} (h : After w w') {p : Addr} {v : Value} (hc : w.cell? p = some v) (hf : w.frozen? p = false) : w'.frozen? p = false := (Below.frozen h (World.block_lt_of_cell? w _ hc)).trans hf
theorem aalloc (w : World) (o : Obj) : After w (w.alloc o) := (Below.refl _ w).alloc (Nat.le_refl _) o
theorem adrewN (w : World) (n : Nat) : After w (w.drewN n) := below_drewN (Below.refl _ w) n
theorem Kp.setCell {N : Nat} {X : List Nat} (w : World) (p : Addr) (v : Value) (hp : p.block ∈ X ∨ N ≤ p.block) : Kp N X w (w.setCell p v) := ⟨rfl, rfl, rfl, by simp, fun k h1 h2 => Below.heap_setCell w p v k (fun e => by subst e; rcases hp with h | h; exact h2 h; omega)⟩

section
variable {P : Program} {ops : Array Oper} {Q : Exit → Act → World → Prop} {md : Region.Mode} {N : Nat} {X : List Nat}

/-- Whatever comes up next, and so on; what was there stays. -/
def wpAnyK (P : Program) (md : Region.Mode) (N : Nat) (X : List Nat) (ops : Array Oper) (Q : Exit → Act → World → Prop) : Nat → Array Bool → Act → World → Prop
  | 0, listed, a, w => Region.ready md ops listed = [] ∧ Q .normal a w
  | n + 1, listed, a, w => (Region.ready md ops listed = [] → Q .normal a w) ∧
      ∀ i ∈ Region.ready md ops listed, wpOp P ops Q i (fun a' w' => Kp N X w w' ∧ wpAnyK P md N X ops Q n (listed.setIfInBounds i true) a' w') a w

theorem wpAny_of_K : ∀ (n : Nat) (listed : Array Bool) (a : Act) (w : World), wpAnyK P md N X ops Q n listed a w → wpAny P md ops Q n listed a w
  | 0, _, _, _, h => h
  | n + 1, _, _, _, h => ⟨h.1, fun i hi => wpOp_mono (fun a' w' k => wpAny_of_K n _ a' w' k.2) (h.2 i hi)⟩

theorem YieldsIf.laterK {o : Oper} {v : Value} {a : Act} {w w' : World} (h : YieldsIf P ops (Kp N X w) o v a) (hw : Kp N X w w') : YieldsIf P ops (Kp N X w') o v a :=
  h.imp (fun ⟨h1, h2⟩ => ⟨h1, fun u hu => h2 u (Kp.trans hw hu)⟩) id

theorem wpAnyK_first {i : Nat} {oi : Oper} {v : Value} (hi : ops[i]? = some oi) (hsel : ∀ (j : Nat) (o : Oper) cs b, ops[j]? = some o → o.op ≠ .select cs b)
    (hQ : ∀ c a w, Q (.panic c) (a.put oi.dst v) w → Q (.panic c) a w) (n : Nat) : ∀ (listed : Array Bool) (a : Act) (w : World),
      (∀ j oj, ops[j]? = some oj → j ≠ i → listed.getD j true = false → (∀ e ∈ oj.after, Region.binds md e = true → e.on ≠ i) → oi.apart ops oj = true) →
      i ∈ Region.ready md ops listed → YieldsIf P ops (Kp N X w) oi v a →
      wpAnyK P md N X ops Q n (listed.setIfInBounds i true) (a.put oi.dst v) w → wpAnyK P md N X ops Q (n + 1) listed a w := by
  induction n with
  | zero =>
    intro listed a w _ hr hy H
    constructor
    · intro h; rw [h] at hr; cases hr
    · intro j hj
      by_cases hji : j = i
      · subst hji; exact hy.wpOp hi (Kp.refl N X w) ⟨Kp.refl N X w, H⟩
      · have := ready_mono hj hji
        rw [H.1] at this; cases this
  | succ n ih =>
    intro listed a w hap hr hy H
    constructor
    · intro h; rw [h] at hr; cases hr
    · intro j hj
      by_cases hji : j = i
      · subst hji; exact hy.wpOp hi (Kp.refl N X w) ⟨Kp.refl N X w, H⟩
      · obtain ⟨hun, oj, hoj, hall⟩ := mem_ready.1 hj
        have hno : ∀ e ∈ oj.after, Region.binds md e = true → e.on ≠ i := by
          intro e he hb heq
          have k1 := hall e he hb
          have k0 := (mem_ready.1 hr).1
          rw [heq] at k1
          by_cases hs : i < listed.size
          · simp [hs] at k0 k1; rw [k0] at k1; cases k1
          · rw [Array.getD_eq_getD_getElem?, Array.getElem?_eq_none (by omega)] at k1; cases k1
        have step := wpOp_putIf hoj (hap j oj hoj hji hun hno) (fun cs b => hsel i oi cs b hi) (fun cs b => hsel j oj cs b hoj) hQ hy (H.2 j (ready_mono hj hji))
        refine wpOp_mono (fun a' w' k => ⟨k.2.1, ih _ a' w' ?_ (ready_mono hr (Ne.symm hji)) (YieldsIf.laterK k.1 k.2.1) ?_⟩) step
        · intro m om hom hmi hmu hmn
          refine hap m om hom hmi ?_ hmn
          by_cases hjm : j = m
          · subst hjm; exact hun
          · rwa [getD_set_ne true hjm] at hmu
        · rw [Array.setIfInBounds_comm _ _ hji]; exact k.2.2

/-- Take number i first: it only reads, and reads the same however much comes ahead of it. -/
theorem wpAnyK_take {oi : Oper} {n : Nat} {listed : Array Bool} {a : Act} {w : World} (i : Nat) (hi : ops[i]? = some oi) (hs : Region.noSelect ops = true) (hf : Region.free md ops listed i = true)
    (hr : (Region.ready md ops listed).contains i = true) (hQ : ∀ v c a w, Q (.panic c) (a.put oi.dst v) w → Q (.panic c) a w)
    (h : ∃ v, YieldsIf P ops (Kp N X w) oi v a ∧ ∃ a', a.put oi.dst v = a' ∧ wpAnyK P md N X ops Q n (listed.setIfInBounds i true) a' w) : wpAnyK P md N X ops Q (n + 1) listed a w := by
  obtain ⟨v, hy, _, rfl, h⟩ := h
  exact wpAnyK_first hi (Region.noSelect_spec hs) (hQ v) n listed a w (Region.free_spec hi hf) (by simpa using hr) hy h

/-- Number i alone may come up. -/
theorem wpAnyK_only {oi : Oper} {n : Nat} {listed : Array Bool} {a : Act} {w : World} (i : Nat) (hi : ops[i]? = some oi) (hr : Region.ready md ops listed = [i]) (hw : Region.wanted oi (yielded ops a.tmps) = true)
    (h : ∀ K : Act → World → Prop, (∀ a' w', Kp N X w w' ∧ wpAnyK P md N X ops Q n (listed.setIfInBounds i true) a' w' → K a' w') → oi.wp P a w K Q) : wpAnyK P md N X ops Q (n + 1) listed a w := by
  refine ⟨(fun h0 => by rw [hr] at h0; cases h0), fun j hj => ?_⟩
  rw [hr] at hj
  obtain rfl := List.mem_singleton.1 hj
  unfold wpOp
  simp only [hi, hw, if_true]
  exact .inl (h _ fun _ _ k => k)

/-- Numbers i and j may come up: either one first. -/
theorem wpAnyK_two {oi oj : Oper} {n : Nat} {listed : Array Bool} {a : Act} {w : World} (i j : Nat) (hi : ops[i]? = some oi) (hj : ops[j]? = some oj) (hr : Region.ready md ops listed = [i, j]) (hwi : Region.wanted oi (yielded ops a.tmps) = true) (hwj : Region.wanted oj (yielded ops a.tmps) = true)
    (h1 : ∀ K : Act → World → Prop, (∀ a' w', Kp N X w w' ∧ wpAnyK P md N X ops Q n (listed.setIfInBounds i true) a' w' → K a' w') → oi.wp P a w K Q)
    (h2 : ∀ K : Act → World → Prop, (∀ a' w', Kp N X w w' ∧ wpAnyK P md N X ops Q n (listed.setIfInBounds j true) a' w' → K a' w') → oj.wp P a w K Q) : wpAnyK P md N X ops Q (n + 1) listed a w := by
  refine ⟨(fun h0 => by rw [hr] at h0; cases h0), fun m hm => ?_⟩
  rw [hr] at hm
  rcases List.mem_cons.1 hm with rfl | hm
  · unfold wpOp
    simp only [hi, hwi, if_true]
    exact .inl (h1 _ fun _ _ k => k)
  · obtain rfl := List.mem_singleton.1 hm
    unfold wpOp
    simp only [hj, hwj, if_true]
    exact .inl (h2 _ fun _ _ k => k)

theorem wpAnyK_done {listed : Array Bool} {a : Act} {w : World} (hr : Region.ready md ops listed = []) (h : Q .normal a w) : ∀ n, wpAnyK P md N X ops Q n listed a w
  | 0 => ⟨hr, h⟩
  | n + 1 => ⟨fun _ => h, fun i hi => by rw [hr] at hi; cases hi⟩

theorem wp_region_K {id : Nat} {a : Act} {w : World} (hm : P.follows .mixedOrders = true) (h : wpAnyK P .any N X ops Q ops.size (Array.replicate ops.size false) a w.drew) : (Code.region id ops true).wp P Q a w :=
  wp_region_any hm (wpAny_of_K _ _ _ _ h)
end

end Go.Proofs.Ytekilpmmadhpoaa
