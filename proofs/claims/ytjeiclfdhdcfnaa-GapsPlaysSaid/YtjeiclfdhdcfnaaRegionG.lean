/- As XRegionT, over whatever relation of the worlds, which the very last operation (it waits for all others) need not keep: p.f = append(p.f, x). -/
import Derived.Test.YtjeiclfdhdcfnaaKA
namespace Go.Proofs.Ytjeiclfdhdcfnaa
open Go.RowKit
set_option maxRecDepth 100000

/-- A relation of worlds that may be laid behind itself. -/
structure PreO (Rl : World → World → Prop) : Prop where
  refl : ∀ w, Rl w w
  trans : ∀ {a b c : World}, Rl a b → Rl b c → Rl a c

section
variable {P : Program} {ops : Array Oper} {Q : Exit → Act → World → Prop} {md : Region.Mode} {Rl : World → World → Prop} {last : Nat}

def wpAnyG (P : Program) (md : Region.Mode) (Rl : World → World → Prop) (last : Nat) (ops : Array Oper) (Q : Exit → Act → World → Prop) : Nat → Array Bool → Act → World → Prop
  | 0, listed, a, w => Region.ready md ops listed = [] ∧ Q .normal a w
  | n + 1, listed, a, w => (Region.ready md ops listed = [] → Q .normal a w) ∧
      ∀ i ∈ Region.ready md ops listed, wpOp P ops Q i (fun a' w' => (i ≠ last → Rl w w') ∧ wpAnyG P md Rl last ops Q n (listed.setIfInBounds i true) a' w') a w

theorem wpAny_of_G : ∀ (n : Nat) (listed : Array Bool) (a : Act) (w : World), wpAnyG P md Rl last ops Q n listed a w → wpAny P md ops Q n listed a w
  | 0, _, _, _, h => h
  | n + 1, _, _, _, h => ⟨h.1, fun i hi => wpOp_mono (fun a' w' k => wpAny_of_G n _ a' w' k.2) (h.2 i hi)⟩

theorem YieldsIf.laterG (ho : PreO Rl) {o : Oper} {v : Value} {a : Act} {w w' : World} (h : YieldsIf P ops (Rl w) o v a) (hw : Rl w w') : YieldsIf P ops (Rl w') o v a :=
  h.imp (fun ⟨h1, h2⟩ => ⟨h1, fun u hu => h2 u (ho.trans hw hu)⟩) id

/-- The last operation waits for number i. -/
def waitsG (md : Region.Mode) (ops : Array Oper) (last i : Nat) : Bool := match ops[last]? with | some o => o.after.any fun e => Region.binds md e && e.on == i | none => false
theorem waitsG_spec {i : Nat} (h : waitsG md ops last i = true) : ∃ ol, ops[last]? = some ol ∧ ∃ e ∈ ol.after, Region.binds md e = true ∧ e.on = i := by
  unfold waitsG at h
  cases hl : ops[last]? with
  | none => rw [hl] at h; cases h
  | some ol =>
    rw [hl] at h
    simp only [Array.any_eq_true, Bool.and_eq_true, beq_iff_eq] at h
    obtain ⟨k, hk, h1, h2⟩ := h
    exact ⟨ol, rfl, ol.after[k], Array.getElem_mem hk, h1, h2⟩

theorem wpAnyG_first (ho : PreO Rl) {i : Nat} {oi : Oper} {v : Value} (hi : ops[i]? = some oi) (hl : waitsG md ops last i = true) (hsel : ∀ (j : Nat) (o : Oper) cs b, ops[j]? = some o → o.op ≠ .select cs b)
    (hQ : ∀ c a w, Q (.panic c) (a.put oi.dst v) w → Q (.panic c) a w) (n : Nat) : ∀ (listed : Array Bool) (a : Act) (w : World),
      (∀ j oj, ops[j]? = some oj → j ≠ i → listed.getD j true = false → (∀ e ∈ oj.after, Region.binds md e = true → e.on ≠ i) → oi.apart ops oj = true) →
      i ∈ Region.ready md ops listed → YieldsIf P ops (Rl w) oi v a →
      wpAnyG P md Rl last ops Q n (listed.setIfInBounds i true) (a.put oi.dst v) w → wpAnyG P md Rl last ops Q (n + 1) listed a w := by
  obtain ⟨ol, hol, e0, he0, hb0, hon0⟩ := waitsG_spec hl
  induction n with
  | zero =>
    intro listed a w _ hr hy H
    constructor
    · intro h; rw [h] at hr; cases hr
    · intro j hj
      by_cases hji : j = i
      · subst hji; exact hy.wpOp hi (ho.refl w) ⟨fun _ => ho.refl w, H⟩
      · have := ready_mono hj hji
        rw [H.1] at this; cases this
  | succ n ih =>
    intro listed a w hap hr hy H
    constructor
    · intro h; rw [h] at hr; cases hr
    · intro j hj
      by_cases hji : j = i
      · subst hji; exact hy.wpOp hi (ho.refl w) ⟨fun _ => ho.refl w, H⟩
      · obtain ⟨hun, oj, hoj, hall⟩ := mem_ready.1 hj
        have hno : ∀ e ∈ oj.after, Region.binds md e = true → e.on ≠ i := by
          intro e he hb heq
          have k1 := hall e he hb
          have k0 := (mem_ready.1 hr).1
          rw [heq] at k1
          by_cases hs : i < listed.size
          · simp [hs] at k0 k1; rw [k0] at k1; cases k1
          · rw [Array.getD_eq_getD_getElem?, Array.getElem?_eq_none (by omega)] at k1; cases k1
        have hjl : j ≠ last := by
          intro e
          subst e
          rw [hol] at hoj; cases hoj
          exact hno e0 he0 hb0 hon0
        have step := wpOp_putIf hoj (hap j oj hoj hji hun hno) (fun cs b => hsel i oi cs b hi) (fun cs b => hsel j oj cs b hoj) hQ hy (H.2 j (ready_mono hj hji))
        refine wpOp_mono (fun a' w' k => ⟨k.2.1, ih _ a' w' ?_ (ready_mono hr (Ne.symm hji)) (YieldsIf.laterG ho k.1 (k.2.1 hjl)) ?_⟩) step
        · intro m om hom hmi hmu hmn
          refine hap m om hom hmi ?_ hmn
          by_cases hjm : j = m
          · subst hjm; exact hun
          · rwa [getD_set_ne true hjm] at hmu
        · rw [Array.setIfInBounds_comm _ _ hji]; exact k.2.2

/-- As wpAnyG_first, of what yields the same in every world. -/
theorem wpAnyG_firstP (ho : PreO Rl) {i : Nat} {oi : Oper} {v : Value} (hi : ops[i]? = some oi) (hsel : ∀ (j : Nat) (o : Oper) cs b, ops[j]? = some o → o.op ≠ .select cs b)
    (hQ : ∀ c a w, Q (.panic c) (a.put oi.dst v) w → Q (.panic c) a w) (n : Nat) : ∀ (listed : Array Bool) (a : Act) (w : World),
      (∀ j oj, ops[j]? = some oj → j ≠ i → listed.getD j true = false → (∀ e ∈ oj.after, Region.binds md e = true → e.on ≠ i) → oi.apart ops oj = true) →
      i ∈ Region.ready md ops listed → YieldsIf P ops (fun _ => True) oi v a →
      wpAnyG P md Rl last ops Q n (listed.setIfInBounds i true) (a.put oi.dst v) w → wpAnyG P md Rl last ops Q (n + 1) listed a w := by
  induction n with
  | zero =>
    intro listed a w _ hr hy H
    constructor
    · intro h; rw [h] at hr; cases hr
    · intro j hj
      by_cases hji : j = i
      · subst hji; exact hy.wpOp hi trivial ⟨fun _ => ho.refl w, H⟩
      · have := ready_mono hj hji
        rw [H.1] at this; cases this
  | succ n ih =>
    intro listed a w hap hr hy H
    constructor
    · intro h; rw [h] at hr; cases hr
    · intro j hj
      by_cases hji : j = i
      · subst hji; exact hy.wpOp hi trivial ⟨fun _ => ho.refl w, H⟩
      · obtain ⟨hun, oj, hoj, hall⟩ := mem_ready.1 hj
        have hno : ∀ e ∈ oj.after, Region.binds md e = true → e.on ≠ i := by
          intro e he hb heq
          have k1 := hall e he hb
          have k0 := (mem_ready.1 hr).1
          rw [heq] at k1
          by_cases hs : i < listed.size
          · simp [hs] at k0 k1; rw [k0] at k1; cases k1
          · rw [Array.getD_eq_getD_getElem?, Array.getElem?_eq_none (by omega)] at k1; cases k1
        have step := wpOp_putIf hoj (hap j oj hoj hji hun hno) (fun cs b => hsel i oi cs b hi) (fun cs b => hsel j oj cs b hoj) hQ hy (H.2 j (ready_mono hj hji))
        refine wpOp_mono (fun a' w' k => ⟨k.2.1, ih _ a' w' ?_ (ready_mono hr (Ne.symm hji)) k.1 ?_⟩) step
        · intro m om hom hmi hmu hmn
          refine hap m om hom hmi ?_ hmn
          by_cases hjm : j = m
          · subst hjm; exact hun
          · rwa [getD_set_ne true hjm] at hmu
        · rw [Array.setIfInBounds_comm _ _ hji]; exact k.2.2
theorem wpAnyG_takeP (ho : PreO Rl) {oi : Oper} {n : Nat} {listed : Array Bool} {a : Act} {w : World} (i : Nat) (hi : ops[i]? = some oi) (hs : Region.noSelect ops = true) (hf : Region.free md ops listed i = true)
    (hr : (Region.ready md ops listed).contains i = true) (hQ : ∀ v c a w, Q (.panic c) (a.put oi.dst v) w → Q (.panic c) a w)
    (h : ∃ v, YieldsIf P ops (fun _ => True) oi v a ∧ ∃ a', a.put oi.dst v = a' ∧ wpAnyG P md Rl last ops Q n (listed.setIfInBounds i true) a' w) : wpAnyG P md Rl last ops Q (n + 1) listed a w := by
  obtain ⟨v, hy, _, rfl, h⟩ := h
  exact wpAnyG_firstP ho hi (Region.noSelect_spec hs) (hQ v) n listed a w (Region.free_spec hi hf) (by simpa using hr) hy h

theorem wpAnyG_take (ho : PreO Rl) {oi : Oper} {n : Nat} {listed : Array Bool} {a : Act} {w : World} (i : Nat) (hi : ops[i]? = some oi) (hl : waitsG md ops last i = true) (hs : Region.noSelect ops = true) (hf : Region.free md ops listed i = true)
    (hr : (Region.ready md ops listed).contains i = true) (hQ : ∀ v c a w, Q (.panic c) (a.put oi.dst v) w → Q (.panic c) a w)
    (h : ∃ v, YieldsIf P ops (Rl w) oi v a ∧ ∃ a', a.put oi.dst v = a' ∧ wpAnyG P md Rl last ops Q n (listed.setIfInBounds i true) a' w) : wpAnyG P md Rl last ops Q (n + 1) listed a w := by
  obtain ⟨v, hy, _, rfl, h⟩ := h
  exact wpAnyG_first ho hi hl (Region.noSelect_spec hs) (hQ v) n listed a w (Region.free_spec hi hf) (by simpa using hr) hy h

theorem wpAnyG_only {oi : Oper} {n : Nat} {listed : Array Bool} {a : Act} {w : World} (i : Nat) (hi : ops[i]? = some oi) (hr : Region.ready md ops listed = [i]) (hw : Region.wanted oi (yielded ops a.tmps) = true)
    (h : ∀ K : Act → World → Prop, (∀ a' w', (i ≠ last → Rl w w') ∧ wpAnyG P md Rl last ops Q n (listed.setIfInBounds i true) a' w' → K a' w') → oi.wp P a w K Q) : wpAnyG P md Rl last ops Q (n + 1) listed a w := by
  refine ⟨(fun h0 => by rw [hr] at h0; cases h0), fun j hj => ?_⟩
  rw [hr] at hj
  obtain rfl := List.mem_singleton.1 hj
  unfold wpOp
  simp only [hi, hw, if_true]
  exact .inl (h _ fun _ _ k => k)

theorem wpAnyG_done {listed : Array Bool} {a : Act} {w : World} (hr : Region.ready md ops listed = []) (h : Q .normal a w) : ∀ n, wpAnyG P md Rl last ops Q n listed a w
  | 0 => ⟨hr, h⟩
  | n + 1 => ⟨fun _ => h, fun i hi => by rw [hr] at hi; cases hi⟩
theorem wp_region_G {id : Nat} {a : Act} {w : World} (Rl : World → World → Prop) (last : Nat) (hm : P.follows .mixedOrders = true) (h : wpAnyG P .any Rl last ops Q ops.size (Array.replicate ops.size false) a w.drew) : (Code.region id ops true).wp P Q a w :=
  wp_region_any hm (wpAny_of_G _ _ _ _ h)
end

end Go.Proofs.Ytjeiclfdhdcfnaa
