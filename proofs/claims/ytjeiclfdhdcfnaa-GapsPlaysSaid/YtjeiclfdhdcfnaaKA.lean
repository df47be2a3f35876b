/- Several texts in one: Base, Region, RegionB, RegionT, RegionK, Two, Slices, Strings, Bytes, Flat, Open. -/
import Derived.Test.YtjeiclfdhdcfnaaRows
import Derived.WalkKit
import Derived.ProofKit
import Derived.OpenShut
import Derived.Below
import Derived.WalkSmall
import Derived.Outline
import Derived.RegionTactic
import Derived.BigQuiet
import Derived.Deep.QuietTactic
import Derived.OrdersHeld
import Derived.OwnWalk
import Derived.Laws.AppendOwnNone
import Derived.Laws.BytesString
import Derived.Laws.CopyOwn
import Derived.Laws.RangeAny
import Derived.Laws.BitsAllLaws
import Derived.Lib.LazyBuf
import Derived.Deep.Slices
import Derived.ChangeSame

/- Small helpers: facts kept from the walk, worlds below, results. -/
namespace Go.Proofs.Ytjeiclfdhdcfnaa
open Go.ChangeShapes Go.WideShapes Go.ChangeAt Go.RowKit

theorem hid {p : Prop} (h : p) : Go.RowKit.Hid p := h
theorem ret_int {k : IntKind} {a b : Int} (h : a = b) : Ending.returned (.int k a) = .returned (.int k b) := by rw [h]
theorem ret_bool {a b : Bool} (h : a = b) : Ending.returned (.bool a) = .returned (.bool b) := by rw [h]
theorem balloc {B : Nat} {a w : World} (h : Below B a w) (hB : B ≤ a.heap.size) (o : Obj) : Below B a (w.alloc o) := h.alloc (Nat.le_trans hB h.size) o
theorem bdrewN {B : Nat} {a w : World} (h : Below B a w) (k : Nat) : Below B a (w.drewN k) := below_drewN h k
theorem bthen {a b c : World} (h : Below a.heap.size a b) (k : Below b.heap.size b c) : Below a.heap.size a c := h.trans (k.mono h.size)
theorem bquiet {a b : World} (h : ∃ k, b = a.drewN k) : Below a.heap.size a b := by obtain ⟨k, rfl⟩ := h; exact below_drewN (Below.refl _ _) k

theorem cell_new (w : World) (b : Nat) (hb : b = w.heap.size) (c0 : Value) (T : TypeId) : (w.alloc (.cells #[c0] T)).cell? ⟨b, 0, none⟩ = some c0 := by subst hb; simp
theorem cell_new2 (w : World) (b : Nat) (hb : b = w.heap.size) (c0 c1 : Value) (T : TypeId) : (w.alloc (.cells #[c0, c1] T)).cell? ⟨b, 0, none⟩ = some c0 ∧ (w.alloc (.cells #[c0, c1] T)).cell? ⟨b, 1, none⟩ = some c1 := by subst hb; simp

/-- What is read of a slice of integers: its address and its elements. -/
def Rd (k : IntKind) (w : World) (a : Option Addr) (zs : List Int) : Prop := ∀ i, i < zs.length → ∃ b off, a = some ⟨b, off, none⟩ ∧ w.cell? ⟨b, off + i, none⟩ = some (.int k (zs.getD i 0))
theorem Rd.below {k : IntKind} {w w' : World} {a : Option Addr} {zs : List Int} (h : Rd k w a zs) (hb : Below w.heap.size w w') : Rd k w' a zs := fun i hi => by
  obtain ⟨b, off, ha, hc⟩ := h i hi
  exact ⟨b, off, ha, (hb.cell (World.block_lt_of_cell? w _ hc)).trans hc⟩
theorem Rd.drewN {k : IntKind} {w : World} {a : Option Addr} {zs : List Int} (h : Rd k w a zs) (n : Nat) : Rd k (w.drewN n) a zs := h
theorem Rd.nil (k : IntKind) (w : World) (a : Option Addr) : Rd k w a [] := fun _ hi => absurd hi (Nat.not_lt_zero _)

/-- A slice of integers that came in: nil, or an address with as many readable cells as it has room. -/
def IsRow (k : IntKind) (w : World) (a : Option Addr) (len cap : Nat) (zs : List Int) : Prop :=
  (a = none ∧ len = 0 ∧ cap = 0 ∧ zs = []) ∨
  ∃ x, a = some x ∧ len ≤ cap ∧ cap ≤ maxLen ∧ zs.length = cap ∧ (∀ i, i < zs.length → w.cell? (x.add i) = some (.int k (zs.getD i 0))) ∧ ∀ n ∈ zs, (Lit.int k n).wf = true
theorem IsRow.rd {k : IntKind} {w : World} {a : Option Addr} {len cap : Nat} {zs : List Int} (h : IsRow k w a len cap zs) :
    len = (zs.take len).length ∧ len ≤ maxLen ∧ Rd k w a (zs.take len) ∧ ∀ n ∈ zs.take len, (Lit.int k n).wf = true := by
  rcases h with ⟨rfl, rfl, rfl, rfl⟩ | ⟨x, rfl, hl, hm, hz, hc, hw⟩
  · exact ⟨rfl, by simp, Rd.nil _ _ _, by simp⟩
  · have hlen : (zs.take len).length = len := by rw [List.length_take]; omega
    refine ⟨hlen.symm, by omega, fun i hi => ?_, fun n hn => hw n (List.mem_of_mem_take hn)⟩
    rw [hlen] at hi
    have h0 := hc i (by omega)
    have h00 := hc 0 (by omega)
    obtain ⟨b, off, spot⟩ := x
    have hspot : spot = none := by simpa [Addr.add] using World.cell?_spot h00
    subst hspot
    refine ⟨b, off, rfl, ?_⟩
    have e : (zs.take len).getD i 0 = zs.getD i 0 := by simp [hi]
    rw [e]
    by_cases hi0 : i = 0
    · subst hi0; simpa [Addr.add] using h0
    · simpa [Addr.add, hi0] using h0

theorem IsRow.capNil {k : IntKind} {w : World} {a : Option Addr} {len cap : Nat} {zs : List Int} (h : IsRow k w a len cap zs) : a = none → cap = 0 := by
  rcases h with ⟨_, _, h, _⟩ | ⟨x, rfl, _⟩
  · exact fun _ => h
  · intro e; cases e

end Go.Proofs.Ytjeiclfdhdcfnaa

/- A statement whose order is open, and in which calls make memory: whoever only reads may be taken first, wherever memory that was there stays as it was. -/
namespace Go.Proofs.Ytjeiclfdhdcfnaa
open Go.RowKit

/-- What was there is there; there may be more. -/
def After (w w' : World) : Prop := Below w.heap.size w w'
theorem After.refl (w : World) : After w w := Below.refl _ _
theorem After.cellB {w w' : World} (h : After w w') {p : Addr} {v : Value} (hc : w.cell? p = some v) : w'.cell? p = some v := (Below.cell h (World.block_lt_of_cell? w _ hc)).trans hc
theorem After.trans {a b c : World} (h : After a b) (k : After b c) : After a c := bthen h k

section
variable {P : Program} {ops : Array Oper} {Q : Exit → Act → World → Prop} {md : Region.Mode}

/-- Whatever comes up next, and so on; what was there stays. -/
def wpAnyR (P : Program) (md : Region.Mode) (ops : Array Oper) (Q : Exit → Act → World → Prop) : Nat → Array Bool → Act → World → Prop
  | 0, listed, a, w => Region.ready md ops listed = [] ∧ Q .normal a w
  | n + 1, listed, a, w => (Region.ready md ops listed = [] → Q .normal a w) ∧
      ∀ i ∈ Region.ready md ops listed, wpOp P ops Q i (fun a' w' => After w w' ∧ wpAnyR P md ops Q n (listed.setIfInBounds i true) a' w') a w

theorem wpAny_of_R : ∀ (n : Nat) (listed : Array Bool) (a : Act) (w : World), wpAnyR P md ops Q n listed a w → wpAny P md ops Q n listed a w
  | 0, _, _, _, h => h
  | n + 1, _, _, _, h => ⟨h.1, fun i hi => wpOp_mono (fun a' w' k => wpAny_of_R n _ a' w' k.2) (h.2 i hi)⟩

theorem YieldsIf.later {o : Oper} {v : Value} {a : Act} {w w' : World} (h : YieldsIf P ops (After w) o v a) (hw : After w w') : YieldsIf P ops (After w') o v a :=
  h.imp (fun ⟨h1, h2⟩ => ⟨h1, fun u hu => h2 u (hw.trans hu)⟩) id

theorem wpAnyR_first {i : Nat} {oi : Oper} {v : Value} (hi : ops[i]? = some oi) (hsel : ∀ (j : Nat) (o : Oper) cs b, ops[j]? = some o → o.op ≠ .select cs b)
    (hQ : ∀ c a w, Q (.panic c) (a.put oi.dst v) w → Q (.panic c) a w) (n : Nat) : ∀ (listed : Array Bool) (a : Act) (w : World),
      (∀ j oj, ops[j]? = some oj → j ≠ i → listed.getD j true = false → (∀ e ∈ oj.after, Region.binds md e = true → e.on ≠ i) → oi.apart ops oj = true) →
      i ∈ Region.ready md ops listed → YieldsIf P ops (After w) oi v a →
      wpAnyR P md ops Q n (listed.setIfInBounds i true) (a.put oi.dst v) w → wpAnyR P md ops Q (n + 1) listed a w := by
  induction n with
  | zero =>
    intro listed a w _ hr hy H
    constructor
    · intro h; rw [h] at hr; cases hr
    · intro j hj
      by_cases hji : j = i
      · subst hji; exact hy.wpOp hi (After.refl w) ⟨After.refl w, H⟩
      · have := ready_mono hj hji
        rw [H.1] at this; cases this
  | succ n ih =>
    intro listed a w hap hr hy H
    constructor
    · intro h; rw [h] at hr; cases hr
    · intro j hj
      by_cases hji : j = i
      · subst hji; exact hy.wpOp hi (After.refl w) ⟨After.refl w, H⟩
      · obtain ⟨hun, oj, hoj, hall⟩ := mem_ready.1 hj
        have hno : ∀ e ∈ oj.after, Region.binds md e = true → e.on ≠ i := by
          intro e he hb heq
          have k1 := hall e he hb
          have k0 := (mem_ready.1 hr).1
          rw [heq] at k1
          by_cases hs : i < listed.size
          · simp [hs] at k0 k1; rw [k0] at k1; cases k1
          · rw [Array.getD_eq_getD_getElem?, Array.getElem?_eq_none (by omega)] at k1; cases k1
        have step := wpOp_putIf hoj (hap j oj hoj hji hun hno) (fun cs b => hsel i oi cs b hi) (fun cs b => hsel j oj cs b hoj) hQ hy (H.2 j (ready_mono hj hji))
        refine wpOp_mono (fun a' w' k => ⟨k.2.1, ih _ a' w' ?_ (ready_mono hr (Ne.symm hji)) (YieldsIf.later k.1 k.2.1) ?_⟩) step
        · intro m om hom hmi hmu hmn
          refine hap m om hom hmi ?_ hmn
          by_cases hjm : j = m
          · subst hjm; exact hun
          · rwa [getD_set_ne true hjm] at hmu
        · rw [Array.setIfInBounds_comm _ _ hji]; exact k.2.2

/-- Take number i first: it only reads, and reads the same however much comes ahead of it. -/
theorem wpAnyR_take {oi : Oper} {n : Nat} {listed : Array Bool} {a : Act} {w : World} (i : Nat) (hi : ops[i]? = some oi) (hs : Region.noSelect ops = true) (hf : Region.free md ops listed i = true)
    (hr : (Region.ready md ops listed).contains i = true) (hQ : ∀ v c a w, Q (.panic c) (a.put oi.dst v) w → Q (.panic c) a w)
    (h : ∃ v, YieldsIf P ops (After w) oi v a ∧ ∃ a', a.put oi.dst v = a' ∧ wpAnyR P md ops Q n (listed.setIfInBounds i true) a' w) : wpAnyR P md ops Q (n + 1) listed a w := by
  obtain ⟨v, hy, _, rfl, h⟩ := h
  exact wpAnyR_first hi (Region.noSelect_spec hs) (hQ v) n listed a w (Region.free_spec hi hf) (by simpa using hr) hy h

/-- Number i alone may come up. -/
theorem wpAnyR_only {oi : Oper} {n : Nat} {listed : Array Bool} {a : Act} {w : World} (i : Nat) (hi : ops[i]? = some oi) (hr : Region.ready md ops listed = [i]) (hw : Region.wanted oi (yielded ops a.tmps) = true)
    (h : ∀ K : Act → World → Prop, (∀ a' w', After w w' ∧ wpAnyR P md ops Q n (listed.setIfInBounds i true) a' w' → K a' w') → oi.wp P a w K Q) : wpAnyR P md ops Q (n + 1) listed a w := by
  refine ⟨(fun h0 => by rw [hr] at h0; cases h0), fun j hj => ?_⟩
  rw [hr] at hj
  obtain rfl := List.mem_singleton.1 hj
  unfold wpOp
  simp only [hi, hw, if_true]
  exact .inl (h _ fun _ _ k => k)

theorem wpAnyR_done {listed : Array Bool} {a : Act} {w : World} (hr : Region.ready md ops listed = []) (h : Q .normal a w) : ∀ n, wpAnyR P md ops Q n listed a w
  | 0 => ⟨hr, h⟩
  | n + 1 => ⟨fun _ => h, fun i hi => by rw [hr] at hi; cases hi⟩

theorem wp_region_R {id : Nat} {a : Act} {w : World} (hm : P.follows .mixedOrders = true) (h : wpAnyR P .any ops Q ops.size (Array.replicate ops.size false) a w.drew) : (Code.region id ops true).wp P Q a w :=
  wp_region_any hm (wpAny_of_R _ _ _ _ h)
end

end Go.Proofs.Ytjeiclfdhdcfnaa

/- As XRegion, where calls may also write blocks from number B on: what was there below B stays. -/
namespace Go.Proofs.Ytjeiclfdhdcfnaa
open Go.RowKit
/-- All blocks below B are as they were. -/
def Aft (B : Nat) (w w' : World) : Prop := Below B w w'
theorem Aft.cellB {B : Nat} {w w' : World} (h : Aft B w w') {p : Addr} {v : Value} (hp : p.block < B) (hc : w.cell? p = some v) : w'.cell? p = some v := (Below.cell h hp).trans hc

section
variable {P : Program} {ops : Array Oper} {Q : Exit → Act → World → Prop} {md : Region.Mode} {B : Nat}

/-- Whatever comes up next, and so on; what was there stays. -/
def wpAnyB (P : Program) (md : Region.Mode) (B : Nat) (ops : Array Oper) (Q : Exit → Act → World → Prop) : Nat → Array Bool → Act → World → Prop
  | 0, listed, a, w => Region.ready md ops listed = [] ∧ Q .normal a w
  | n + 1, listed, a, w => (Region.ready md ops listed = [] → Q .normal a w) ∧
      ∀ i ∈ Region.ready md ops listed, wpOp P ops Q i (fun a' w' => Aft B w w' ∧ wpAnyB P md B ops Q n (listed.setIfInBounds i true) a' w') a w

theorem wpAny_of_B : ∀ (n : Nat) (listed : Array Bool) (a : Act) (w : World), wpAnyB P md B ops Q n listed a w → wpAny P md ops Q n listed a w
  | 0, _, _, _, h => h
  | n + 1, _, _, _, h => ⟨h.1, fun i hi => wpOp_mono (fun a' w' k => wpAny_of_B n _ a' w' k.2) (h.2 i hi)⟩

theorem YieldsIf.laterB {o : Oper} {v : Value} {a : Act} {w w' : World} (h : YieldsIf P ops (Aft B w) o v a) (hw : Aft B w w') : YieldsIf P ops (Aft B w') o v a :=
  h.imp (fun ⟨h1, h2⟩ => ⟨h1, fun u hu => h2 u (Below.trans hw hu)⟩) id

theorem wpAnyB_first {i : Nat} {oi : Oper} {v : Value} (hi : ops[i]? = some oi) (hsel : ∀ (j : Nat) (o : Oper) cs b, ops[j]? = some o → o.op ≠ .select cs b)
    (hQ : ∀ c a w, Q (.panic c) (a.put oi.dst v) w → Q (.panic c) a w) (n : Nat) : ∀ (listed : Array Bool) (a : Act) (w : World),
      (∀ j oj, ops[j]? = some oj → j ≠ i → listed.getD j true = false → (∀ e ∈ oj.after, Region.binds md e = true → e.on ≠ i) → oi.apart ops oj = true) →
      i ∈ Region.ready md ops listed → YieldsIf P ops (Aft B w) oi v a →
      wpAnyB P md B ops Q n (listed.setIfInBounds i true) (a.put oi.dst v) w → wpAnyB P md B ops Q (n + 1) listed a w := by
  induction n with
  | zero =>
    intro listed a w _ hr hy H
    constructor
    · intro h; rw [h] at hr; cases hr
    · intro j hj
      by_cases hji : j = i
      · subst hji; exact hy.wpOp hi ((Below.refl B) w) ⟨(Below.refl B) w, H⟩
      · have := ready_mono hj hji
        rw [H.1] at this; cases this
  | succ n ih =>
    intro listed a w hap hr hy H
    constructor
    · intro h; rw [h] at hr; cases hr
    · intro j hj
      by_cases hji : j = i
      · subst hji; exact hy.wpOp hi ((Below.refl B) w) ⟨(Below.refl B) w, H⟩
      · obtain ⟨hun, oj, hoj, hall⟩ := mem_ready.1 hj
        have hno : ∀ e ∈ oj.after, Region.binds md e = true → e.on ≠ i := by
          intro e he hb heq
          have k1 := hall e he hb
          have k0 := (mem_ready.1 hr).1
          rw [heq] at k1
          by_cases hs : i < listed.size
          · simp [hs] at k0 k1; rw [k0] at k1; cases k1
          · rw [Array.getD_eq_getD_getElem?, Array.getElem?_eq_none (by omega)] at k1; cases k1
        have step := wpOp_putIf hoj (hap j oj hoj hji hun hno) (fun cs b => hsel i oi cs b hi) (fun cs b => hsel j oj cs b hoj) hQ hy (H.2 j (ready_mono hj hji))
        refine wpOp_mono (fun a' w' k => ⟨k.2.1, ih _ a' w' ?_ (ready_mono hr (Ne.symm hji)) (YieldsIf.laterB k.1 k.2.1) ?_⟩) step
        · intro m om hom hmi hmu hmn
          refine hap m om hom hmi ?_ hmn
          by_cases hjm : j = m
          · subst hjm; exact hun
          · rwa [getD_set_ne true hjm] at hmu
        · rw [Array.setIfInBounds_comm _ _ hji]; exact k.2.2

/-- Take number i first: it only reads, and reads the same however much comes ahead of it. -/
theorem wpAnyB_take {oi : Oper} {n : Nat} {listed : Array Bool} {a : Act} {w : World} (i : Nat) (hi : ops[i]? = some oi) (hs : Region.noSelect ops = true) (hf : Region.free md ops listed i = true)
    (hr : (Region.ready md ops listed).contains i = true) (hQ : ∀ v c a w, Q (.panic c) (a.put oi.dst v) w → Q (.panic c) a w)
    (h : ∃ v, YieldsIf P ops (Aft B w) oi v a ∧ ∃ a', a.put oi.dst v = a' ∧ wpAnyB P md B ops Q n (listed.setIfInBounds i true) a' w) : wpAnyB P md B ops Q (n + 1) listed a w := by
  obtain ⟨v, hy, _, rfl, h⟩ := h
  exact wpAnyB_first hi (Region.noSelect_spec hs) (hQ v) n listed a w (Region.free_spec hi hf) (by simpa using hr) hy h

/-- Number i alone may come up. -/
theorem wpAnyB_only {oi : Oper} {n : Nat} {listed : Array Bool} {a : Act} {w : World} (i : Nat) (hi : ops[i]? = some oi) (hr : Region.ready md ops listed = [i]) (hw : Region.wanted oi (yielded ops a.tmps) = true)
    (h : ∀ K : Act → World → Prop, (∀ a' w', Aft B w w' ∧ wpAnyB P md B ops Q n (listed.setIfInBounds i true) a' w' → K a' w') → oi.wp P a w K Q) : wpAnyB P md B ops Q (n + 1) listed a w := by
  refine ⟨(fun h0 => by rw [hr] at h0; cases h0), fun j hj => ?_⟩
  rw [hr] at hj
  obtain rfl := List.mem_singleton.1 hj
  unfold wpOp
  simp only [hi, hw, if_true]
  exact .inl (h _ fun _ _ k => k)

theorem wpAnyB_done {listed : Array Bool} {a : Act} {w : World} (hr : Region.ready md ops listed = []) (h : Q .normal a w) : ∀ n, wpAnyB P md B ops Q n listed a w
  | 0 => ⟨hr, h⟩
  | n + 1 => ⟨fun _ => h, fun i hi => by rw [hr] at hi; cases hi⟩

theorem wp_region_B {id : Nat} {a : Act} {w : World} (hm : P.follows .mixedOrders = true) (h : wpAnyB P .any B ops Q ops.size (Array.replicate ops.size false) a w.drew) : (Code.region id ops true).wp P Q a w :=
  wp_region_any hm (wpAny_of_B _ _ _ _ h)
end

end Go.Proofs.Ytjeiclfdhdcfnaa

/- As XRegion, over any relation of the worlds, which the very last operation (it waits for all others) need not keep: p.f = append(p.f, x). -/
namespace Go.Proofs.Ytjeiclfdhdcfnaa
open Go.RowKit
set_option maxRecDepth 100000

/-- All that was there, but one block, is as it was. -/
structure RX (X : Option Nat) (w w' : World) : Prop where
  size : w.heap.size ≤ w'.heap.size
  block : ∀ k, k < w.heap.size → some k ≠ X → w'.heap[k]? = w.heap[k]?
theorem RX.refl (X : Option Nat) (w : World) : RX X w w := ⟨Nat.le_refl _, fun _ _ _ => rfl⟩
theorem RX.trans {X : Option Nat} {a b c : World} (h : RX X a b) (k : RX X b c) : RX X a c := ⟨Nat.le_trans h.size k.size, fun m h1 h2 => (k.block m (Nat.lt_of_lt_of_le h1 h.size) h2).trans (h.block m h1 h2)⟩
theorem RX.held {X : Option Nat} {w w' : World} (h : RX X w w') {g : Nat} {o : Obj} (hg : w.heap[g]? = some o) (hne : some g ≠ X) : w'.heap[g]? = some o := (h.block g (Array.getElem?_eq_some_iff.1 hg).1 hne).trans hg
theorem RX.cell {X : Option Nat} {w w' : World} (h : RX X w w') {p : Addr} {v : Value} (hc : w.cell? p = some v) (hne : some p.block ≠ X) : w'.cell? p = some v := (World.cell?_of_block (w := w) (h.block p.block (World.block_lt_of_cell? w _ hc) hne)).trans hc

section
variable {P : Program} {ops : Array Oper} {Q : Exit → Act → World → Prop} {md : Region.Mode} {X : Option Nat} {last : Nat}

def wpAnyT (P : Program) (md : Region.Mode) (X : Option Nat) (last : Nat) (ops : Array Oper) (Q : Exit → Act → World → Prop) : Nat → Array Bool → Act → World → Prop
  | 0, listed, a, w => Region.ready md ops listed = [] ∧ Q .normal a w
  | n + 1, listed, a, w => (Region.ready md ops listed = [] → Q .normal a w) ∧
      ∀ i ∈ Region.ready md ops listed, wpOp P ops Q i (fun a' w' => (i ≠ last → RX X w w') ∧ wpAnyT P md X last ops Q n (listed.setIfInBounds i true) a' w') a w

theorem wpAny_of_T : ∀ (n : Nat) (listed : Array Bool) (a : Act) (w : World), wpAnyT P md X last ops Q n listed a w → wpAny P md ops Q n listed a w
  | 0, _, _, _, h => h
  | n + 1, _, _, _, h => ⟨h.1, fun i hi => wpOp_mono (fun a' w' k => wpAny_of_T n _ a' w' k.2) (h.2 i hi)⟩

theorem YieldsIf.laterT {o : Oper} {v : Value} {a : Act} {w w' : World} (h : YieldsIf P ops (RX X w) o v a) (hw : RX X w w') : YieldsIf P ops (RX X w') o v a :=
  h.imp (fun ⟨h1, h2⟩ => ⟨h1, fun u hu => h2 u (RX.trans hw hu)⟩) id

/-- The last operation waits for number i. -/
def waitsB (md : Region.Mode) (ops : Array Oper) (last i : Nat) : Bool := match ops[last]? with | some o => o.after.any fun e => Region.binds md e && e.on == i | none => false
theorem waits_spec {i : Nat} (h : waitsB md ops last i = true) : ∃ ol, ops[last]? = some ol ∧ ∃ e ∈ ol.after, Region.binds md e = true ∧ e.on = i := by
  unfold waitsB at h
  cases hl : ops[last]? with
  | none => rw [hl] at h; cases h
  | some ol =>
    rw [hl] at h
    simp only [Array.any_eq_true, Bool.and_eq_true, beq_iff_eq] at h
    obtain ⟨k, hk, h1, h2⟩ := h
    exact ⟨ol, rfl, ol.after[k], Array.getElem_mem hk, h1, h2⟩

theorem wpAnyT_first {i : Nat} {oi : Oper} {v : Value} (hi : ops[i]? = some oi) (hl : waitsB md ops last i = true) (hsel : ∀ (j : Nat) (o : Oper) cs b, ops[j]? = some o → o.op ≠ .select cs b)
    (hQ : ∀ c a w, Q (.panic c) (a.put oi.dst v) w → Q (.panic c) a w) (n : Nat) : ∀ (listed : Array Bool) (a : Act) (w : World),
      (∀ j oj, ops[j]? = some oj → j ≠ i → listed.getD j true = false → (∀ e ∈ oj.after, Region.binds md e = true → e.on ≠ i) → oi.apart ops oj = true) →
      i ∈ Region.ready md ops listed → YieldsIf P ops (RX X w) oi v a →
      wpAnyT P md X last ops Q n (listed.setIfInBounds i true) (a.put oi.dst v) w → wpAnyT P md X last ops Q (n + 1) listed a w := by
  obtain ⟨ol, hol, e0, he0, hb0, hon0⟩ := waits_spec hl
  induction n with
  | zero =>
    intro listed a w _ hr hy H
    constructor
    · intro h; rw [h] at hr; cases hr
    · intro j hj
      by_cases hji : j = i
      · subst hji; exact hy.wpOp hi (RX.refl X w) ⟨fun _ => RX.refl X w, H⟩
      · have := ready_mono hj hji
        rw [H.1] at this; cases this
  | succ n ih =>
    intro listed a w hap hr hy H
    constructor
    · intro h; rw [h] at hr; cases hr
    · intro j hj
      by_cases hji : j = i
      · subst hji; exact hy.wpOp hi (RX.refl X w) ⟨fun _ => RX.refl X w, H⟩
      · obtain ⟨hun, oj, hoj, hall⟩ := mem_ready.1 hj
        have hno : ∀ e ∈ oj.after, Region.binds md e = true → e.on ≠ i := by
          intro e he hb heq
          have k1 := hall e he hb
          have k0 := (mem_ready.1 hr).1
          rw [heq] at k1
          by_cases hs : i < listed.size
          · simp [hs] at k0 k1; rw [k0] at k1; cases k1
          · rw [Array.getD_eq_getD_getElem?, Array.getElem?_eq_none (by omega)] at k1; cases k1
        have hjl : j ≠ last := by
          intro e
          subst e
          rw [hol] at hoj; cases hoj
          exact hno e0 he0 hb0 hon0
        have step := wpOp_putIf hoj (hap j oj hoj hji hun hno) (fun cs b => hsel i oi cs b hi) (fun cs b => hsel j oj cs b hoj) hQ hy (H.2 j (ready_mono hj hji))
        refine wpOp_mono (fun a' w' k => ⟨k.2.1, ih _ a' w' ?_ (ready_mono hr (Ne.symm hji)) (YieldsIf.laterT k.1 (k.2.1 hjl)) ?_⟩) step
        · intro m om hom hmi hmu hmn
          refine hap m om hom hmi ?_ hmn
          by_cases hjm : j = m
          · subst hjm; exact hun
          · rwa [getD_set_ne true hjm] at hmu
        · rw [Array.setIfInBounds_comm _ _ hji]; exact k.2.2

/-- As wpAnyT_first, of what yields the same in every world. -/
theorem wpAnyT_firstP {i : Nat} {oi : Oper} {v : Value} (hi : ops[i]? = some oi) (hsel : ∀ (j : Nat) (o : Oper) cs b, ops[j]? = some o → o.op ≠ .select cs b)
    (hQ : ∀ c a w, Q (.panic c) (a.put oi.dst v) w → Q (.panic c) a w) (n : Nat) : ∀ (listed : Array Bool) (a : Act) (w : World),
      (∀ j oj, ops[j]? = some oj → j ≠ i → listed.getD j true = false → (∀ e ∈ oj.after, Region.binds md e = true → e.on ≠ i) → oi.apart ops oj = true) →
      i ∈ Region.ready md ops listed → YieldsIf P ops (fun _ => True) oi v a →
      wpAnyT P md X last ops Q n (listed.setIfInBounds i true) (a.put oi.dst v) w → wpAnyT P md X last ops Q (n + 1) listed a w := by
  induction n with
  | zero =>
    intro listed a w _ hr hy H
    constructor
    · intro h; rw [h] at hr; cases hr
    · intro j hj
      by_cases hji : j = i
      · subst hji; exact hy.wpOp hi trivial ⟨fun _ => RX.refl X w, H⟩
      · have := ready_mono hj hji
        rw [H.1] at this; cases this
  | succ n ih =>
    intro listed a w hap hr hy H
    constructor
    · intro h; rw [h] at hr; cases hr
    · intro j hj
      by_cases hji : j = i
      · subst hji; exact hy.wpOp hi trivial ⟨fun _ => RX.refl X w, H⟩
      · obtain ⟨hun, oj, hoj, hall⟩ := mem_ready.1 hj
        have hno : ∀ e ∈ oj.after, Region.binds md e = true → e.on ≠ i := by
          intro e he hb heq
          have k1 := hall e he hb
          have k0 := (mem_ready.1 hr).1
          rw [heq] at k1
          by_cases hs : i < listed.size
          · simp [hs] at k0 k1; rw [k0] at k1; cases k1
          · rw [Array.getD_eq_getD_getElem?, Array.getElem?_eq_none (by omega)] at k1; cases k1
        have step := wpOp_putIf hoj (hap j oj hoj hji hun hno) (fun cs b => hsel i oi cs b hi) (fun cs b => hsel j oj cs b hoj) hQ hy (H.2 j (ready_mono hj hji))
        refine wpOp_mono (fun a' w' k => ⟨k.2.1, ih _ a' w' ?_ (ready_mono hr (Ne.symm hji)) k.1 ?_⟩) step
        · intro m om hom hmi hmu hmn
          refine hap m om hom hmi ?_ hmn
          by_cases hjm : j = m
          · subst hjm; exact hun
          · rwa [getD_set_ne true hjm] at hmu
        · rw [Array.setIfInBounds_comm _ _ hji]; exact k.2.2
theorem wpAnyT_takeP {oi : Oper} {n : Nat} {listed : Array Bool} {a : Act} {w : World} (i : Nat) (hi : ops[i]? = some oi) (hs : Region.noSelect ops = true) (hf : Region.free md ops listed i = true)
    (hr : (Region.ready md ops listed).contains i = true) (hQ : ∀ v c a w, Q (.panic c) (a.put oi.dst v) w → Q (.panic c) a w)
    (h : ∃ v, YieldsIf P ops (fun _ => True) oi v a ∧ ∃ a', a.put oi.dst v = a' ∧ wpAnyT P md X last ops Q n (listed.setIfInBounds i true) a' w) : wpAnyT P md X last ops Q (n + 1) listed a w := by
  obtain ⟨v, hy, _, rfl, h⟩ := h
  exact wpAnyT_firstP hi (Region.noSelect_spec hs) (hQ v) n listed a w (Region.free_spec hi hf) (by simpa using hr) hy h

theorem wpAnyT_take {oi : Oper} {n : Nat} {listed : Array Bool} {a : Act} {w : World} (i : Nat) (hi : ops[i]? = some oi) (hl : waitsB md ops last i = true) (hs : Region.noSelect ops = true) (hf : Region.free md ops listed i = true)
    (hr : (Region.ready md ops listed).contains i = true) (hQ : ∀ v c a w, Q (.panic c) (a.put oi.dst v) w → Q (.panic c) a w)
    (h : ∃ v, YieldsIf P ops (RX X w) oi v a ∧ ∃ a', a.put oi.dst v = a' ∧ wpAnyT P md X last ops Q n (listed.setIfInBounds i true) a' w) : wpAnyT P md X last ops Q (n + 1) listed a w := by
  obtain ⟨v, hy, _, rfl, h⟩ := h
  exact wpAnyT_first hi hl (Region.noSelect_spec hs) (hQ v) n listed a w (Region.free_spec hi hf) (by simpa using hr) hy h

theorem wpAnyT_only {oi : Oper} {n : Nat} {listed : Array Bool} {a : Act} {w : World} (i : Nat) (hi : ops[i]? = some oi) (hr : Region.ready md ops listed = [i]) (hw : Region.wanted oi (yielded ops a.tmps) = true)
    (h : ∀ K : Act → World → Prop, (∀ a' w', (i ≠ last → RX X w w') ∧ wpAnyT P md X last ops Q n (listed.setIfInBounds i true) a' w' → K a' w') → oi.wp P a w K Q) : wpAnyT P md X last ops Q (n + 1) listed a w := by
  refine ⟨(fun h0 => by rw [hr] at h0; cases h0), fun j hj => ?_⟩
  rw [hr] at hj
  obtain rfl := List.mem_singleton.1 hj
  unfold wpOp
  simp only [hi, hw, if_true]
  exact .inl (h _ fun _ _ k => k)

theorem wpAnyT_done {listed : Array Bool} {a : Act} {w : World} (hr : Region.ready md ops listed = []) (h : Q .normal a w) : ∀ n, wpAnyT P md X last ops Q n listed a w
  | 0 => ⟨hr, h⟩
  | n + 1 => ⟨fun _ => h, fun i hi => by rw [hr] at hi; cases hi⟩
theorem wp_region_T {id : Nat} {a : Act} {w : World} (X : Option Nat) (last : Nat) (hm : P.follows .mixedOrders = true) (h : wpAnyT P .any X last ops Q ops.size (Array.replicate ops.size false) a w.drew) : (Code.region id ops true).wp P Q a w :=
  wp_region_any hm (wpAny_of_T _ _ _ _ h)
end

end Go.Proofs.Ytjeiclfdhdcfnaa

/- As XRegion, where some blocks, and those from number N on, may also be written. -/
namespace Go.Proofs.Ytjeiclfdhdcfnaa
open Go.RowKit
/-- All blocks below N but those of X are as they were. -/
structure Kp (N : Nat) (X : List Nat) (w w' : World) : Prop where
  os : w'.os = w.os
  tape : w'.tape = w.tape
  output : w'.output = w.output
  size : w.heap.size ≤ w'.heap.size
  block : ∀ k, k < N → k ∉ X → w'.heap[k]? = w.heap[k]?
theorem Kp.refl (N : Nat) (X : List Nat) (w : World) : Kp N X w w := ⟨rfl, rfl, rfl, Nat.le_refl _, fun _ _ _ => rfl⟩
theorem Kp.trans {N : Nat} {X : List Nat} {a b c : World} (h : Kp N X a b) (k : Kp N X b c) : Kp N X a c := ⟨k.os.trans h.os, k.tape.trans h.tape, k.output.trans h.output, Nat.le_trans h.size k.size, fun m h1 h2 => (k.block m h1 h2).trans (h.block m h1 h2)⟩
theorem Kp.of {N : Nat} {X : List Nat} {w w' : World} (h : Below w.heap.size w w') (hN : N ≤ w.heap.size) : Kp N X w w' := ⟨h.os, h.tape, h.output, h.size, fun k hk _ => h.block k (by omega)⟩
theorem Kp.cellB {N : Nat} {X : List Nat} {w w' : World} (h : Kp N X w w') {p : Addr} {v : Value} (hp : p.block < N) (hx : p.block ∉ X) (hc : w.cell? p = some v) : w'.cell? p = some v := (World.cell?_of_block (w := w) (h.block p.block hp hx)).trans hc
theorem After.frozenB {w w' : World} (h : After w w') {p : Addr} {v : Value} (hc : w.cell? p = some v) (hf : w.frozen? p = false) : w'.frozen? p = false := (Below.frozen h (World.block_lt_of_cell? w _ hc)).trans hf
theorem aalloc (w : World) (o : Obj) : After w (w.alloc o) := (Below.refl _ w).alloc (Nat.le_refl _) o
theorem adrewN (w : World) (n : Nat) : After w (w.drewN n) := below_drewN (Below.refl _ w) n
theorem Kp.setCell {N : Nat} {X : List Nat} (w : World) (p : Addr) (v : Value) (hp : p.block ∈ X ∨ N ≤ p.block) : Kp N X w (w.setCell p v) := ⟨rfl, rfl, rfl, by simp, fun k h1 h2 => Below.heap_setCell w p v k (fun e => by subst e; rcases hp with h | h; exact h2 h; omega)⟩

section
variable {P : Program} {ops : Array Oper} {Q : Exit → Act → World → Prop} {md : Region.Mode} {N : Nat} {X : List Nat}

/-- Whatever comes up next, and so on; what was there stays. -/
def wpAnyK (P : Program) (md : Region.Mode) (N : Nat) (X : List Nat) (ops : Array Oper) (Q : Exit → Act → World → Prop) : Nat → Array Bool → Act → World → Prop
  | 0, listed, a, w => Region.ready md ops listed = [] ∧ Q .normal a w
  | n + 1, listed, a, w => (Region.ready md ops listed = [] → Q .normal a w) ∧
      ∀ i ∈ Region.ready md ops listed, wpOp P ops Q i (fun a' w' => Kp N X w w' ∧ wpAnyK P md N X ops Q n (listed.setIfInBounds i true) a' w') a w

theorem wpAny_of_K : ∀ (n : Nat) (listed : Array Bool) (a : Act) (w : World), wpAnyK P md N X ops Q n listed a w → wpAny P md ops Q n listed a w
  | 0, _, _, _, h => h
  | n + 1, _, _, _, h => ⟨h.1, fun i hi => wpOp_mono (fun a' w' k => wpAny_of_K n _ a' w' k.2) (h.2 i hi)⟩

theorem YieldsIf.laterK {o : Oper} {v : Value} {a : Act} {w w' : World} (h : YieldsIf P ops (Kp N X w) o v a) (hw : Kp N X w w') : YieldsIf P ops (Kp N X w') o v a :=
  h.imp (fun ⟨h1, h2⟩ => ⟨h1, fun u hu => h2 u (Kp.trans hw hu)⟩) id

theorem wpAnyK_first {i : Nat} {oi : Oper} {v : Value} (hi : ops[i]? = some oi) (hsel : ∀ (j : Nat) (o : Oper) cs b, ops[j]? = some o → o.op ≠ .select cs b)
    (hQ : ∀ c a w, Q (.panic c) (a.put oi.dst v) w → Q (.panic c) a w) (n : Nat) : ∀ (listed : Array Bool) (a : Act) (w : World),
      (∀ j oj, ops[j]? = some oj → j ≠ i → listed.getD j true = false → (∀ e ∈ oj.after, Region.binds md e = true → e.on ≠ i) → oi.apart ops oj = true) →
      i ∈ Region.ready md ops listed → YieldsIf P ops (Kp N X w) oi v a →
      wpAnyK P md N X ops Q n (listed.setIfInBounds i true) (a.put oi.dst v) w → wpAnyK P md N X ops Q (n + 1) listed a w := by
  induction n with
  | zero =>
    intro listed a w _ hr hy H
    constructor
    · intro h; rw [h] at hr; cases hr
    · intro j hj
      by_cases hji : j = i
      · subst hji; exact hy.wpOp hi (Kp.refl N X w) ⟨Kp.refl N X w, H⟩
      · have := ready_mono hj hji
        rw [H.1] at this; cases this
  | succ n ih =>
    intro listed a w hap hr hy H
    constructor
    · intro h; rw [h] at hr; cases hr
    · intro j hj
      by_cases hji : j = i
      · subst hji; exact hy.wpOp hi (Kp.refl N X w) ⟨Kp.refl N X w, H⟩
      · obtain ⟨hun, oj, hoj, hall⟩ := mem_ready.1 hj
        have hno : ∀ e ∈ oj.after, Region.binds md e = true → e.on ≠ i := by
          intro e he hb heq
          have k1 := hall e he hb
          have k0 := (mem_ready.1 hr).1
          rw [heq] at k1
          by_cases hs : i < listed.size
          · simp [hs] at k0 k1; rw [k0] at k1; cases k1
          · rw [Array.getD_eq_getD_getElem?, Array.getElem?_eq_none (by omega)] at k1; cases k1
        have step := wpOp_putIf hoj (hap j oj hoj hji hun hno) (fun cs b => hsel i oi cs b hi) (fun cs b => hsel j oj cs b hoj) hQ hy (H.2 j (ready_mono hj hji))
        refine wpOp_mono (fun a' w' k => ⟨k.2.1, ih _ a' w' ?_ (ready_mono hr (Ne.symm hji)) (YieldsIf.laterK k.1 k.2.1) ?_⟩) step
        · intro m om hom hmi hmu hmn
          refine hap m om hom hmi ?_ hmn
          by_cases hjm : j = m
          · subst hjm; exact hun
          · rwa [getD_set_ne true hjm] at hmu
        · rw [Array.setIfInBounds_comm _ _ hji]; exact k.2.2

/-- Take number i first: it only reads, and reads the same however much comes ahead of it. -/
theorem wpAnyK_take {oi : Oper} {n : Nat} {listed : Array Bool} {a : Act} {w : World} (i : Nat) (hi : ops[i]? = some oi) (hs : Region.noSelect ops = true) (hf : Region.free md ops listed i = true)
    (hr : (Region.ready md ops listed).contains i = true) (hQ : ∀ v c a w, Q (.panic c) (a.put oi.dst v) w → Q (.panic c) a w)
    (h : ∃ v, YieldsIf P ops (Kp N X w) oi v a ∧ ∃ a', a.put oi.dst v = a' ∧ wpAnyK P md N X ops Q n (listed.setIfInBounds i true) a' w) : wpAnyK P md N X ops Q (n + 1) listed a w := by
  obtain ⟨v, hy, _, rfl, h⟩ := h
  exact wpAnyK_first hi (Region.noSelect_spec hs) (hQ v) n listed a w (Region.free_spec hi hf) (by simpa using hr) hy h

/-- Number i alone may come up. -/
theorem wpAnyK_only {oi : Oper} {n : Nat} {listed : Array Bool} {a : Act} {w : World} (i : Nat) (hi : ops[i]? = some oi) (hr : Region.ready md ops listed = [i]) (hw : Region.wanted oi (yielded ops a.tmps) = true)
    (h : ∀ K : Act → World → Prop, (∀ a' w', Kp N X w w' ∧ wpAnyK P md N X ops Q n (listed.setIfInBounds i true) a' w' → K a' w') → oi.wp P a w K Q) : wpAnyK P md N X ops Q (n + 1) listed a w := by
  refine ⟨(fun h0 => by rw [hr] at h0; cases h0), fun j hj => ?_⟩
  rw [hr] at hj
  obtain rfl := List.mem_singleton.1 hj
  unfold wpOp
  simp only [hi, hw, if_true]
  exact .inl (h _ fun _ _ k => k)

/-- Numbers i and j may come up: either one first. -/
theorem wpAnyK_two {oi oj : Oper} {n : Nat} {listed : Array Bool} {a : Act} {w : World} (i j : Nat) (hi : ops[i]? = some oi) (hj : ops[j]? = some oj) (hr : Region.ready md ops listed = [i, j]) (hwi : Region.wanted oi (yielded ops a.tmps) = true) (hwj : Region.wanted oj (yielded ops a.tmps) = true)
    (h1 : ∀ K : Act → World → Prop, (∀ a' w', Kp N X w w' ∧ wpAnyK P md N X ops Q n (listed.setIfInBounds i true) a' w' → K a' w') → oi.wp P a w K Q)
    (h2 : ∀ K : Act → World → Prop, (∀ a' w', Kp N X w w' ∧ wpAnyK P md N X ops Q n (listed.setIfInBounds j true) a' w' → K a' w') → oj.wp P a w K Q) : wpAnyK P md N X ops Q (n + 1) listed a w := by
  refine ⟨(fun h0 => by rw [hr] at h0; cases h0), fun m hm => ?_⟩
  rw [hr] at hm
  rcases List.mem_cons.1 hm with rfl | hm
  · unfold wpOp
    simp only [hi, hwi, if_true]
    exact .inl (h1 _ fun _ _ k => k)
  · obtain rfl := List.mem_singleton.1 hm
    unfold wpOp
    simp only [hj, hwj, if_true]
    exact .inl (h2 _ fun _ _ k => k)

theorem wpAnyK_done {listed : Array Bool} {a : Act} {w : World} (hr : Region.ready md ops listed = []) (h : Q .normal a w) : ∀ n, wpAnyK P md N X ops Q n listed a w
  | 0 => ⟨hr, h⟩
  | n + 1 => ⟨fun _ => h, fun i hi => by rw [hr] at hi; cases hi⟩

theorem wp_region_K {id : Nat} {a : Act} {w : World} (hm : P.follows .mixedOrders = true) (h : wpAnyK P .any N X ops Q ops.size (Array.replicate ops.size false) a w.drew) : (Code.region id ops true).wp P Q a w :=
  wp_region_any hm (wpAny_of_K _ _ _ _ h)
end

end Go.Proofs.Ytjeiclfdhdcfnaa

/- Two operations of a statement may come up: both orders. -/
namespace Go.Proofs.Ytjeiclfdhdcfnaa
open Go.ChangeShapes Go.WideShapes Go.ChangeAt Go.RowKit
set_option linter.unusedVariables false

section
variable {P : Program} {ops : Array Oper} {Q : Exit → Act → World → Prop} {md : Region.Mode} {X : Option Nat} {last : Nat}
theorem wpAnyT_pair {oi oj : Oper} {n : Nat} {listed : Array Bool} {a : Act} {w : World} (i j : Nat) (hi : ops[i]? = some oi) (hj : ops[j]? = some oj) (hr : Region.ready md ops listed = [i, j]) (hwi : Region.wanted oi (yielded ops a.tmps) = true) (hwj : Region.wanted oj (yielded ops a.tmps) = true)
    (h1 : ∀ K : Act → World → Prop, (∀ a' w', (i ≠ last → RX X w w') ∧ wpAnyT P md X last ops Q n (listed.setIfInBounds i true) a' w' → K a' w') → oi.wp P a w K Q)
    (h2 : ∀ K : Act → World → Prop, (∀ a' w', (j ≠ last → RX X w w') ∧ wpAnyT P md X last ops Q n (listed.setIfInBounds j true) a' w' → K a' w') → oj.wp P a w K Q) : wpAnyT P md X last ops Q (n + 1) listed a w := by
  refine ⟨(fun h0 => by rw [hr] at h0; cases h0), fun m hm => ?_⟩
  rw [hr] at hm
  rcases List.mem_cons.1 hm with rfl | hm
  · unfold wpOp
    simp only [hi, hwi, if_true]
    exact .inl (h1 _ fun _ _ k => k)
  · obtain rfl := List.mem_singleton.1 hm
    unfold wpOp
    simp only [hj, hwj, if_true]
    exact .inl (h2 _ fun _ _ k => k)
end

end Go.Proofs.Ytjeiclfdhdcfnaa

/- Slices of integers that a call makes for itself: what they hold, appending to them, also where an operation is guarded. -/
namespace Go.Proofs.Ytjeiclfdhdcfnaa
open Go.ChangeShapes Go.WideShapes Go.ChangeAt Go.RowKit

/-- A slice type t of integers of kind k, an element b bytes wide. -/
def IntsOf (P : Program) (t E : TypeId) (k : IntKind) (b : Nat) : Prop := P.underlying t = some (.slice E) ∧ (P.info? E).map (fun i => (i.zero, i.size, i.bytes)) = some (some (.int k 0), 1, b)

/-- The value v is a slice of the call's own, in blocks from base on, that holds zs. -/
def Own (k : IntKind) (E : TypeId) (w : World) (base : Nat) (v : Value) (zs : List Int) : Prop := w.ownsRow base E 1 v zs.length (zs.map (Value.int k))

theorem Own.below {k : IntKind} {E : TypeId} {w w' : World} {base : Nat} {v : Value} {zs : List Int} (h : Own k E w base v zs) (hb : Below w.heap.size w w') : Own k E w' base v zs := by
  refine ⟨h.1, ?_⟩
  rcases h.2 with h2 | ⟨g, cap, cur, hv, hg, hh, r⟩
  · exact .inl h2
  · refine .inr ⟨g, cap, cur, hv, hg, ?_, r⟩
    have hlt : g < w.heap.size := by
      rcases Nat.lt_or_ge g w.heap.size with hl | hl
      · exact hl
      · rw [Array.getElem?_eq_none hl] at hh; cases hh
    rw [hb.block g hlt]; exact hh

theorem Own.drewN {k : IntKind} {E : TypeId} {w : World} {base : Nat} {v : Value} {zs : List Int} (h : Own k E w base v zs) (n : Nat) : Own k E (w.drewN n) base v zs := h
theorem Own.alloc {k : IntKind} {E : TypeId} {w : World} {base : Nat} {v : Value} {zs : List Int} (h : Own k E w base v zs) (o : Obj) : Own k E (w.alloc o) base v zs :=
  h.below ((Below.refl _ _).alloc (Nat.le_refl _) o)

/-- A slice of the call's own is read like any other. -/
theorem Own.rd {k : IntKind} {E : TypeId} {w : World} {base : Nat} {v : Value} {zs : List Int} (h : Own k E w base v zs) :
    ∃ a cap, v = .slice a zs.length cap ∧ Rd k w a zs ∧ (a = none → cap = 0) ∧ zs.length ≤ maxLen := by
  rcases h.2 with ⟨hv, hn⟩ | ⟨g, cap, cur, hv, hg, hh, h1, h2, h3, h4⟩
  · refine ⟨none, 0, by rw [hn]; exact hv, fun i hi => by omega, fun _ => rfl, by omega⟩
  · refine ⟨_, cap, hv, fun i hi => ⟨g, 0, rfl, ?_⟩, (fun e => by cases e), by omega⟩
    have hc := World.ownsRow.cellAt (w := w) (base := base) (e := E) (size := 1) (g := g) (n := zs.length) (cap := cap) (xs := zs.map (Value.int k)) (by rw [← hv]; exact h) i (by omega)
    rw [Nat.zero_add, hc]
    simp [hi]

theorem Own.block {k : IntKind} {E : TypeId} {w : World} {base : Nat} {v : Value} {zs : List Int} (h : Own k E w base v zs) : ∀ g, v.ownBlock = some g → base ≤ g := by
  intro g hg
  rcases h.2 with ⟨hv, _⟩ | ⟨g', cap, cur, hv, hb, _⟩
  · subst hv; cases hg
  · subst hv; simp [Value.ownBlock] at hg; omega

/-- A new slice that is written out. -/
theorem Own.lit (k : IntKind) (E : TypeId) (w : World) (zs : List Int) (base : Nat) (hb : base ≤ w.heap.size) (hm : zs.length ≤ maxLen) (cs : Array Value) (hcs : cs = (zs.map (Value.int k)).toArray) :
    Own k E (w.alloc (.cells cs E)) base (.slice (some ⟨w.heap.size, 0, none⟩) zs.length zs.length) zs := by
  subst hcs
  have := World.ownsRow_lit (base := base) (e := E) (size := 1) w (zs.map (Value.int k)).toArray zs.length hb hm (by simp)
  simpa [Own] using this

/-- Behind an append to a slice of the call's own. -/
theorem Own.grew {k : IntKind} {E : TypeId} {w w' : World} {base B : Nat} {v : Value} {zs : List Int} {a : World} (h : Own k E w base v zs) (hg : w.grownBy w' v.ownBlock) (hb : Below B a w) (hB : B ≤ base) (hw : B ≤ w.heap.size) : Below B a w' :=
  hb.grown hg hw fun g e => Nat.le_trans hB (h.block g e)

theorem wpList_app {P : Program} (w : World) {ops : Array Oper} {rest : List Oper} {o : Oper} {a : Act} {Q : Exit → Act → World → Prop} (hw : Region.wanted o (yielded ops a.tmps) = true) (s x : Operand) (t : TypeId)
    (ho : o.op = .call { callee := .builtin .append, args := #[s, x], argTypes := #[t, t] })
    (base : Nat) (E : TypeId) (k : IntKind) (b : Nat) (hT : IntsOf P t E k b)
    (v : Value) (zs : List Int) (hs : a.eval s = v) (hown : Own k E w base v zs)
    (ad : Option Addr) (c : Nat) (ys : List Int) (hx : a.eval x = .slice ad ys.length c) (hr : Rd k w ad ys) (hn : ad = none → c = 0)
    (hlen : zs.length + ys.length ≤ 140737488355328 / b) (hb0 : 0 < b) (hbase : base ≤ w.heap.size)
    (h : ∀ v' w', Own k E w' base v' (zs ++ ys) → w.grownBy w' v.ownBlock → wpList P ops Q rest (a.put o.dst v') w') : wpList P ops Q (o :: rest) a w := by
  obtain ⟨ht, hi⟩ := hT
  obtain ⟨i, hi1, hi2⟩ : ∃ i, P.info? E = some i ∧ (i.zero, i.size, i.bytes) = (some (.int k 0), 1, b) := by
    cases hP : P.info? E with
    | none => rw [hP] at hi; cases hi
    | some i => rw [hP] at hi; exact ⟨i, rfl, by simpa using hi⟩
  have hz : i.zero = some (.int k 0) := congrArg Prod.fst hi2
  have hsz : i.size = 1 := congrArg (fun p => p.2.1) hi2
  have hby : i.bytes = b := congrArg (fun p => p.2.2) hi2
  have hle : zs.length + ys.length ≤ 140737488355328 := Nat.le_trans hlen (Nat.div_le_self _ _)
  have hmul : (zs.length + ys.length) * b ≤ 140737488355328 := (Nat.le_div_iff_mul_le hb0).1 hlen
  refine BigFrame.wpList_want hw fun K hK => ?_
  cases ad with
  | none =>
    have hy : ys = [] := by
      cases ys with
      | nil => rfl
      | cons y r => obtain ⟨_, _, e, _⟩ := hr 0 (by simp); cases e
    subst hy
    obtain rfl := hn rfl
    have hrun := run_append_owned_none (P := P) w base t o.type E i 1 ht hi1 v zs.length (zs.map (Value.int k)) hown
    unfold Oper.wp execOp
    simp only [ho, resolve, invoke, builtin, Sem.run_bind, Sem.run_pure, Result.andThen_ok, List.map_toArray, List.map_cons, List.map_nil, hs, hx, hrun, List.length_nil]
    exact hK _ _ (h v w (by simpa using hown) ⟨rfl, rfl, rfl, Nat.le_refl _, fun _ _ _ => rfl⟩)
  | some ad =>
    refine wp_append_own w s x t ho base E i (.int k 0) 1 b ht hi1 hz hsz hby rfl (by decide) v zs.length (zs.map (Value.int k)) hs hown ad ys.length c (ys.map (Value.int k)) hx (by simp) ?_ (by simp [Value.oneCell']) (by unfold maxLen; omega) hmul hbase ?_
    · intro j u hj
      have hjl : j < ys.length := by
        rcases Nat.lt_or_ge j ys.length with hl | hl
        · exact hl
        · rw [List.getElem?_eq_none (by simpa using hl)] at hj; cases hj
      obtain ⟨bb, off, e, hc⟩ := hr j hjl
      cases e
      have hu : u = .int k (ys.getD j 0) := by simp [hjl] at hj; simp [hjl, hj]
      rw [hu]
      by_cases hj0 : j = 0
      · subst hj0; simpa [Addr.add] using hc
      · simpa [Addr.add, hj0] using hc
    · intro v' w' h2 h3 _
      refine hK _ _ (h v' w' ?_ h3)
      simpa [Own, List.map_append] using h2

/-- A slice value's three parts and what is read of it. -/
def Sl (k : IntKind) (w : World) (a : Option Addr) (len cap : Nat) (zs : List Int) : Prop := zs.length = len ∧ len ≤ cap ∧ cap ≤ maxLen ∧ (a = none → cap = 0) ∧ Rd k w a zs
theorem Sl.below {k : IntKind} {w w' : World} {a : Option Addr} {len cap : Nat} {zs : List Int} (h : Sl k w a len cap zs) (hb : Below w.heap.size w w') : Sl k w' a len cap zs := ⟨h.1, h.2.1, h.2.2.1, h.2.2.2.1, h.2.2.2.2.below hb⟩
theorem Sl.drewN {k : IntKind} {w : World} {a : Option Addr} {len cap : Nat} {zs : List Int} (h : Sl k w a len cap zs) (n : Nat) : Sl k (w.drewN n) a len cap zs := h
theorem Sl.drop {k : IntKind} {w : World} {a : Option Addr} {len cap : Nat} {zs : List Int} (h : Sl k w a len cap zs) (m : Nat) (hm : m ≤ len) : Sl k w (Option.map (fun x => x.add m) a) (len - m) (cap - m) (zs.drop m) := by
  obtain ⟨h1, h2, h3, h4, h5⟩ := h
  refine ⟨by rw [List.length_drop, h1], by omega, by omega, ?_, ?_⟩
  · intro e; cases a with
    | none => have := h4 rfl; omega
    | some x => cases e
  · intro i hi
    rw [List.length_drop] at hi
    obtain ⟨b, off, rfl, hc⟩ := h5 (i + m) (by omega)
    by_cases hm0 : m = 0
    · subst hm0; exact ⟨b, off, by simp [Addr.add], by simpa using hc⟩
    · refine ⟨b, off + m, by simp [Addr.add, hm0], ?_⟩
      rw [show off + m + i = off + (i + m) from by omega, hc]
      simp [Nat.add_comm]
theorem Sl.take {k : IntKind} {w : World} {a : Option Addr} {len cap : Nat} {zs : List Int} (h : Sl k w a len cap zs) (m : Nat) (hm : m ≤ len) : Sl k w a m cap (zs.take m) := by
  obtain ⟨h1, h2, h3, h4, h5⟩ := h
  refine ⟨by rw [List.length_take]; omega, by omega, h3, h4, fun i hi => ?_⟩
  rw [List.length_take] at hi
  obtain ⟨b, off, ha, hc⟩ := h5 i (by omega)
  refine ⟨b, off, ha, ?_⟩
  rw [hc]; simp [show i < m from by omega]
theorem Sl.end {k : IntKind} {w : World} {a : Option Addr} {len cap : Nat} {zs : List Int} (h : Sl k w a len cap zs) (m : Nat) (hm : m ≤ len) (hc : cap = m) : Sl k w a (len - m) 0 (zs.drop m) := by
  obtain ⟨h1, h2, h3, h4, h5⟩ := h
  have : zs.drop m = [] := List.drop_of_length_le (by omega)
  rw [this]
  exact ⟨by simp; omega, by omega, by omega, fun _ => rfl, Rd.nil _ _ _⟩
theorem IsRow.sl {k : IntKind} {w : World} {a : Option Addr} {len cap : Nat} {zs : List Int} (h : IsRow k w a len cap zs) : Sl k w a len cap (zs.take len) ∧ ∀ n ∈ zs.take len, (Lit.int k n).wf = true := by
  obtain ⟨h1, h2, h3, h4⟩ := h.rd
  refine ⟨⟨h1.symm, ?_, ?_, h.capNil, h3⟩, h4⟩
  · rcases h with ⟨_, rfl, rfl, _⟩ | ⟨x, rfl, hl, _⟩
    · exact Nat.le_refl _
    · exact hl
  · rcases h with ⟨_, rfl, rfl, _⟩ | ⟨x, rfl, hl, hm, _⟩
    · simp
    · exact hm
theorem Own.sl {k : IntKind} {E : TypeId} {w : World} {base : Nat} {v : Value} {zs : List Int} (h : Own k E w base v zs) : ∃ a cap, v = .slice a zs.length cap ∧ Sl k w a zs.length cap zs := by
  obtain ⟨a, cap, hv, hr, hn, hm⟩ := h.rd
  refine ⟨a, cap, hv, rfl, ?_, ?_, hn, hr⟩
  · rcases h.2 with ⟨hv2, hz⟩ | ⟨g, c, cur, hv2, _, _, hh, _⟩
    · rw [hv] at hv2; simp at hv2; omega
    · rw [hv] at hv2; simp at hv2; omega
  · rcases h.2 with ⟨hv2, hz⟩ | ⟨g, c, cur, hv2, _, _, _, hh, _⟩
    · rw [hv] at hv2; simp at hv2; omega
    · rw [hv] at hv2; simp at hv2; omega

theorem rd_one (w : World) (k : IntKind) (x : Int) (E : TypeId) : Rd k (w.alloc (.cells #[.int k x] E)) (some ⟨w.heap.size, 0, none⟩) [x] := by
  intro i hi
  obtain rfl : i = 0 := by simp at hi; omega
  exact ⟨_, _, rfl, cell_new _ _ rfl _ _⟩

/-- One more element, behind its own new cell. -/
theorem wpList_app1 {P : Program} (w aw : World) {ops : Array Oper} {rest : List Oper} {o : Oper} {a : Act} {Q : Exit → Act → World → Prop} (hw : Region.wanted o (yielded ops a.tmps) = true) (s x : Operand) (t : TypeId)
    (ho : o.op = .call { callee := .builtin .append, args := #[s, x], argTypes := #[t, t] })
    (B base : Nat) (E : TypeId) (k : IntKind) (b : Nat) (hT : IntsOf P t E k b)
    (v : Value) (zs : List Int) (hs : a.eval s = v) (hown : Own k E w base v zs)
    (y : Int) (hx : a.eval x = .slice (some ⟨w.heap.size, 0, none⟩) 1 1)
    (hlen : zs.length + 1 ≤ 140737488355328 / b) (hb0 : 0 < b) (hbel : Below B aw w) (hB : B ≤ base) (hbase : base ≤ w.heap.size)
    (h : ∀ a' cap' w', Own k E w' base (.slice a' (zs.length + 1) cap') (zs ++ [y]) → Below B aw w' → wpList P ops Q rest (a.put o.dst (.slice a' (zs.length + 1) cap')) w') : wpList P ops Q (o :: rest) a (w.alloc (.cells #[.int k y] E)) := by
  refine wpList_app _ hw s x t ho base E k b hT v zs hs (hown.alloc _) (some ⟨w.heap.size, 0, none⟩) 1 [y] hx (rd_one _ _ _ _) (by intro h; cases h) hlen hb0 (by simp; omega) ?_
  intro v' w' h1 h2
  obtain ⟨a', cap', hv, -⟩ := h1.sl
  rw [List.length_append, List.length_singleton] at hv
  subst hv
  exact h a' cap' w' h1 ((hown.alloc _).grew h2 (hbel.alloc (by omega) _) hB (by simp; omega))

/-- All elements of a slice. -/
theorem wpList_appS {P : Program} (w aw : World) {ops : Array Oper} {rest : List Oper} {o : Oper} {a : Act} {Q : Exit → Act → World → Prop} (hw : Region.wanted o (yielded ops a.tmps) = true) (s x : Operand) (t : TypeId)
    (ho : o.op = .call { callee := .builtin .append, args := #[s, x], argTypes := #[t, t] })
    (B base : Nat) (E : TypeId) (k : IntKind) (b : Nat) (hT : IntsOf P t E k b)
    (v : Value) (zs : List Int) (hs : a.eval s = v) (hown : Own k E w base v zs)
    (ad : Option Addr) (len cap : Nat) (ys : List Int) (hx : a.eval x = .slice ad len cap) (hsl : Sl k w ad len cap ys)
    (hlen : zs.length + len ≤ 140737488355328 / b) (hb0 : 0 < b) (hbel : Below B aw w) (hB : B ≤ base) (hbase : base ≤ w.heap.size)
    (h : ∀ a' cap' w', Own k E w' base (.slice a' (zs.length + len) cap') (zs ++ ys) → Below B aw w' → wpList P ops Q rest (a.put o.dst (.slice a' (zs.length + len) cap')) w') : wpList P ops Q (o :: rest) a w := by
  obtain ⟨rfl, h2, h3, h4, h5⟩ := hsl
  refine wpList_app _ hw s x t ho base E k b hT v zs hs hown ad cap ys hx h5 h4 hlen hb0 hbase ?_
  intro v' w' h1 h2
  obtain ⟨a', cap', hv, -⟩ := h1.sl
  rw [List.length_append] at hv
  subst hv
  exact h a' cap' w' h1 (hown.grew h2 hbel hB (by omega))

theorem Own.nil (k : IntKind) (E : TypeId) (w : World) (base : Nat) : Own k E w base (.slice none 0 0) [] := ⟨rfl, .inl ⟨rfl, rfl⟩⟩
theorem Own.base {k : IntKind} {E : TypeId} {w : World} {base base' : Nat} {v : Value} {zs : List Int} (h : Own k E w base v zs) (hb : base' ≤ base) : Own k E w base' v zs := by
  refine ⟨h.1, ?_⟩
  rcases h.2 with h | ⟨g, c, cur, hv, hg, r⟩
  · exact .inl h
  · exact .inr ⟨g, c, cur, hv, by omega, r⟩

/-- The text of bytes. -/
def textOf (zs : List Int) : ByteArray := zs.foldl (fun r n => r.push (UInt8.ofNat n.toNat)) ByteArray.empty

theorem Sl.text {P : Program} {w : World} {a : Option Addr} {len cap : Nat} {zs : List Int} (h : Sl .u8 w a len cap zs) (src dst e : TypeId)
    (hs : P.underlying src = some (.slice e)) (he : P.underlying e = some (.int .u8)) (hd : P.underlying dst = some .string) :
    (convert src dst (.slice a len cap)).run P w = .ok (.string (textOf zs)) w := by
  rw [run_convert_bytes_string w src dst e a len cap hs he hd]
  obtain ⟨rfl, h2, h3, h4, h5⟩ := h
  cases a with
  | none =>
    have : zs = [] := by
      cases zs with
      | nil => rfl
      | cons z r => obtain ⟨_, _, e, _⟩ := h5 0 (by simp); cases e
    subst this
    obtain rfl := h4 rfl
    simp [Conv.bytesToString, textOf, Sem.run_pure]
  | some ad =>
    refine run_bytesToString w ad zs.length cap zs ?_
    have hc := run_loadCells_list (P := P) w ad (zs.map (Value.int .u8)) (fun j v hj => by
      have hjl : j < zs.length := by
        rcases Nat.lt_or_ge j zs.length with hl | hl
        · exact hl
        · rw [List.getElem?_eq_none (by simpa using hl)] at hj; cases hj
      obtain ⟨b, off, e, hc⟩ := h5 j hjl
      cases e
      have hv : v = .int .u8 (zs.getD j 0) := by simp [hjl] at hj; simp [hjl, hj]
      rw [hv]
      by_cases hj0 : j = 0
      · subst hj0; simpa [Addr.add] using hc
      · simpa [Addr.add, hj0] using hc)
    simpa using hc

theorem Own.textR {P : Program} {w : World} {base : Nat} {E : TypeId} {a : Option Addr} {cap : Nat} {zs : List Int} (h : Own .u8 E w base (.slice a zs.length cap) zs) (src dst e : TypeId)
    (hs : P.underlying src = some (.slice e)) (he : P.underlying e = some (.int .u8)) (hd : P.underlying dst = some .string) :
    ∀ w', After w w' → (convert src dst (.slice a zs.length cap)).run P w' = .ok (.string (textOf zs)) w' := by
  intro w' hw
  obtain ⟨a', cap', hv, hsl⟩ := h.sl
  cases hv
  exact (hsl.below hw).text src dst e hs he hd

/-- The text of a slice's bytes, as an operation. -/
theorem wpList_text {P : Program} (w : World) {ops : Array Oper} {rest : List Oper} {o : Oper} {a : Act} {Q : Exit → Act → World → Prop} (hw : Region.wanted o (yielded ops a.tmps) = true) (x : Operand) (src dst e : TypeId)
    (ho : o.op = .convert src dst x) (hs : P.underlying src = some (.slice e)) (he : P.underlying e = some (.int .u8)) (hd : P.underlying dst = some .string)
    (ad : Option Addr) (len cap : Nat) (zs : List Int) (hx : a.eval x = .slice ad len cap) (hsl : Sl .u8 w ad len cap zs)
    (h : wpList P ops Q rest (a.put o.dst (.string (textOf zs))) w) : wpList P ops Q (o :: rest) a w := by
  refine BigFrame.wpList_want hw fun K hK => ?_
  have hr := hsl.text (P := P) src dst e hs he hd
  unfold Oper.wp execOp
  simp only [ho, hx, Sem.run_bind, hr, Result.andThen_ok, Sem.run_pure]
  exact hK _ _ h

/-- Block g holds just these integers, and may be written. -/
def Row (k : IntKind) (E : TypeId) (w : World) (g : Nat) (zs : List Int) : Prop := w.heap[g]? = some (.cells (zs.map (Value.int k)).toArray E (0, 0))
theorem Row.lt {k : IntKind} {E : TypeId} {w : World} {g : Nat} {zs : List Int} (h : Row k E w g zs) : g < w.heap.size := by
  rcases Nat.lt_or_ge g w.heap.size with hl | hl
  · exact hl
  · unfold Row at h; rw [Array.getElem?_eq_none hl] at h; cases h
theorem Row.below {k : IntKind} {E : TypeId} {w w' : World} {g : Nat} {zs : List Int} (h : Row k E w g zs) (hb : Below w.heap.size w w') : Row k E w' g zs := by
  have hl := h.lt
  unfold Row at *; rw [hb.block g hl]; exact h
theorem Row.drewN {k : IntKind} {E : TypeId} {w : World} {g : Nat} {zs : List Int} (h : Row k E w g zs) (n : Nat) : Row k E (w.drewN n) g zs := h
theorem Row.own {k : IntKind} {E : TypeId} {w : World} {g : Nat} {zs : List Int} (h : Row k E w g zs) (base : Nat) (hb : base ≤ g) (hm : zs.length ≤ maxLen) : Own k E w base (.slice (some ⟨g, 0, none⟩) zs.length zs.length) zs :=
  ⟨by simp, .inr ⟨g, zs.length, _, rfl, hb, h, Nat.le_refl _, hm, by simp, by rw [Nat.mul_one]; simpa using List.take_of_length_le (l := zs.map (Value.int k)) (by simp)⟩⟩
theorem Row.sl {k : IntKind} {E : TypeId} {w : World} {g : Nat} {zs : List Int} (h : Row k E w g zs) (hm : zs.length ≤ maxLen) : Sl k w (some ⟨g, 0, none⟩) zs.length zs.length zs := by
  obtain ⟨a, cap, hv, hs⟩ := (h.own 0 (Nat.zero_le _) hm).sl
  cases hv; exact hs
theorem Row.cellAt {k : IntKind} {E : TypeId} {w : World} {g : Nat} {zs : List Int} (h : Row k E w g zs) (j : Nat) (hj : j < zs.length) : w.cell? ⟨g, j, none⟩ = some (.int k (zs.getD j 0)) := by
  rw [cell_of_row w g j _ E (0, 0) h]; simp [hj]
theorem Row.free {k : IntKind} {E : TypeId} {w : World} {g : Nat} {zs : List Int} (h : Row k E w g zs) (j : Nat) : w.frozen? ⟨g, j, none⟩ = false := frozen_of_row w g j _ E h
theorem Row.set {k : IntKind} {E : TypeId} {w : World} {g : Nat} {zs : List Int} (h : Row k E w g zs) (j : Nat) (x : Int) : Row k E (w.setCell ⟨g, j, none⟩ (.int k x)) g (zs.set j x) := by
  have := heap_setCell_same w g j _ E (.int k x) h
  unfold Row; rw [this]
  congr 2
  simp [List.map_set]

theorem wpList_make {P : Program} (w aw : World) {ops : Array Oper} {rest : List Oper} {o : Oper} {a : Act} {Q : Exit → Act → World → Prop} (hg : o.guard = none) (l c : Operand) (t : TypeId) (hop : o.op = Op.makeSlice t l c)
    (B : Nat) (E : TypeId) (k : IntKind) (b : Nat) (hT : IntsOf P t E k b) (n : Nat) (hl : a.eval l = .int .i64 (n : Int)) (hc : a.eval c = .int .i64 (n : Int)) (hn : b * n ≤ 281474976710656) (hm : n ≤ maxLen) (hbel : Below B aw w) (hB : B ≤ w.heap.size)
    (h : ∀ w', Row k E w' w.heap.size (List.replicate n 0) → Below B aw w' → wpList P ops Q rest (a.put o.dst (.slice (some ⟨w.heap.size, 0, none⟩) n n)) w') : wpList P ops Q (o :: rest) a w := by
  obtain ⟨ht, hi⟩ := hT
  obtain ⟨i, hi1, hz, hsz, hby⟩ := info_parts hi
  refine wpList_make_full w hg l c t hop w.heap.size E i (.int k 0) 1 ht hi1 hz hsz .i64 .i64 n n n hl hc rfl rfl (by rw [hby]; exact hn) hm (Nat.le_refl _) ?_
  intro w' h1 h2
  refine h w' ?_ (hbel.grown h2 hB (fun k e => by cases e))
  rcases h1.2 with ⟨h, _⟩ | ⟨g, cap, cur, hv, hg, hh, hnc, hcm, hcs, htk⟩
  · cases h
  · simp only [Value.slice.injEq, Option.some.injEq, Addr.mk.injEq, and_true, true_and] at hv
    obtain ⟨rfl, rfl⟩ := hv
    unfold Row
    rw [hh]
    congr 2
    have e1 : cur.toList.take (n * 1) = cur.toList := List.take_of_length_le (by rw [Array.length_toList, hcs]; exact Nat.le_refl _)
    rw [e1] at htk
    rw [← Array.toArray_toList (xs := cur), htk, show (Value.int k 0).cells = #[Value.int k 0] from rfl, toList_madeCells_one]
    simp

/-- ys laid over zs from a place on. -/
def laid (zs : List Int) (off : Nat) (ys : List Int) : List Int := zs.take off ++ (ys ++ zs.drop (off + ys.length))
theorem wpList_copyI {P : Program} (w aw : World) {ops : Array Oper} {rest : List Oper} {o : Oper} {a : Act} {Q : Exit → Act → World → Prop} (hgd : o.guard = none) (d s : Operand) (t : TypeId)
    (ho : o.op = .call { callee := .builtin .copy, args := #[d, s], argTypes := #[t, t] }) (B : Nat) (E : TypeId) (k : IntKind) (b : Nat) (hT : IntsOf P t E k b)
    (g off dLen dCap : Nat) (zs : List Int) (hrow : Row k E w g zs) (hd : a.eval d = .slice (some ⟨g, off, none⟩) dLen dCap) (hfit : off + dLen ≤ zs.length)
    (ad : Option Addr) (len cap : Nat) (ys : List Int) (hs : a.eval s = .slice ad len cap) (hsl : Sl k w ad len cap ys) (hbel : Below B aw w) (hB : B ≤ g)
    (h : ∀ w', Row k E w' g (laid zs off (ys.take dLen)) → Below B aw w' → wpList P ops Q rest (a.put o.dst (goInt (ys.take dLen).length)) w') : wpList P ops Q (o :: rest) a w := by
  obtain ⟨ht, hi⟩ := hT
  obtain ⟨i, hi1, hz, hsz, hby⟩ := info_parts hi
  obtain ⟨rfl, h2, h3, h4, h5⟩ := hsl
  have hlen : (ys.take dLen).length = Nat.min ys.length dLen := by rw [List.length_take, Nat.min_comm]
  have hmin : Nat.min ys.length dLen ≤ dLen := Nat.min_le_right _ _
  refine wpList_copy_splice hgd d s t t ho E ht (by rw [hi1]; simp [hsz]) (some ⟨g, off, none⟩) ad dLen dCap ys.length cap hd hs g off (zs.map (Value.int k)) E hrow ((ys.take dLen).map (Value.int k)) (by simpa using hlen) ?_ (by simp; omega) (by intro v hv; obtain ⟨x, _, rfl⟩ := List.mem_map.1 hv; rfl) B aw hbel hB ?_
  · intro hpos
    refine ⟨rfl, ?_⟩
    have hp : 0 < ys.length := by simp at hpos; omega
    obtain ⟨b0, o0, ha0, _⟩ := h5 0 hp
    refine ⟨_, ha0, fun j v hj => ?_⟩
    have hjl : j < (ys.take dLen).length := by
      rcases Nat.lt_or_ge j (ys.take dLen).length with hl | hl
      · exact hl
      · rw [List.getElem?_eq_none (by simpa using hl)] at hj; cases hj
    have hjy : j < ys.length := by rw [List.length_take] at hjl; omega
    have hjd : j < dLen := by rw [List.length_take] at hjl; omega
    obtain ⟨b1, o1, ha1, hc⟩ := h5 j hjy
    rw [ha0] at ha1; cases ha1
    have hv : v = .int k (ys.getD j 0) := by
      simp [hjd, hjy] at hj; simp [hjy, hj]
    rw [hv]
    by_cases hj0 : j = 0
    · subst hj0; simpa [Addr.add] using hc
    · simpa [Addr.add, hj0] using hc
  · intro w' h1 h2
    rw [List.length_map]
    refine h w' ?_ h2
    have h1' := h1.out
    unfold Row; rw [h1']
    congr 2
    simp [splice, laid, List.map_take, List.map_drop]

theorem sl_two (w : World) (x y : Int) (E : TypeId) : Sl .u8 (w.alloc (.cells #[.int .u8 x, .int .u8 y] E)) (some ⟨w.heap.size, 0, none⟩) 2 2 [x, y] := by
  refine ⟨rfl, Nat.le_refl _, by unfold maxLen; omega, (by intro h; cases h), fun i hi => ?_⟩
  have hi2 : i = 0 ∨ i = 1 := by simp at hi; omega
  rcases hi2 with rfl | rfl
  · exact ⟨_, _, rfl, (cell_new2 _ _ rfl _ _ _).1⟩
  · exact ⟨_, _, rfl, (cell_new2 _ _ rfl _ _ _).2⟩

theorem textOf_go (zs : List Int) : ∀ r : ByteArray, (zs.foldl (fun r n => r.push (UInt8.ofNat n.toNat)) r).data.toList = r.data.toList ++ zs.map (fun n => UInt8.ofNat n.toNat) := by
  induction zs with
  | nil => intro r; simp
  | cons z s ih => intro r; rw [List.foldl_cons, ih]; simp [ByteArray.push]
theorem textOf_data (zs : List Int) : (textOf zs).data.toList = zs.map (fun n => UInt8.ofNat n.toNat) := by
  unfold textOf; rw [textOf_go]; simp
theorem map_bytes_inj : ∀ (a b : List Int), (∀ n ∈ a, 0 ≤ n ∧ n ≤ 255) → (∀ n ∈ b, 0 ≤ n ∧ n ≤ 255) → a.map (fun n => UInt8.ofNat n.toNat) = b.map (fun n => UInt8.ofNat n.toNat) → a = b
  | [], [], _, _, _ => rfl
  | [], _ :: _, _, _, h => by simp at h
  | _ :: _, [], _, _, h => by simp at h
  | x :: a, y :: b, ha, hb, h => by
    simp only [List.map_cons, List.cons.injEq] at h
    obtain ⟨h1, h2⟩ := h
    have hx := ha x (by simp)
    have hy := hb y (by simp)
    have e := congrArg UInt8.toNat h1
    rw [UInt8.toNat_ofNat', UInt8.toNat_ofNat', Nat.mod_eq_of_lt (by omega), Nat.mod_eq_of_lt (by omega)] at e
    rw [map_bytes_inj a b (fun n hn => ha n (by simp [hn])) (fun n hn => hb n (by simp [hn])) h2, show x = y from by omega]
theorem textOf_inj (a b : List Int) (ha : ∀ n ∈ a, 0 ≤ n ∧ n ≤ 255) (hb : ∀ n ∈ b, 0 ≤ n ∧ n ≤ 255) (h : textOf a = textOf b) : a = b :=
  map_bytes_inj a b ha hb (by rw [← textOf_data, ← textOf_data, h])
theorem text_ne (a b : List Int) (ha : ∀ n ∈ a, 0 ≤ n ∧ n ≤ 255) (hb : ∀ n ∈ b, 0 ≤ n ∧ n ≤ 255) (h : a ≠ b) : ((textOf a).toList == (textOf b).toList) = false := by
  rw [ByteArray.toList_eq, ByteArray.toList_eq, textOf_data, textOf_data, beq_eq_false_iff_ne]
  exact fun hh => h (map_bytes_inj a b ha hb hh)
theorem text_eq (a b : List Int) (h : a = b) : ((textOf a).toList == (textOf b).toList) = true := by subst h; simp

end Go.Proofs.Ytjeiclfdhdcfnaa

/- Strings: their bytes as a list, ranges over them in any world. -/
namespace Go.Proofs.Ytjeiclfdhdcfnaa
open Go.ChangeShapes Go.WideShapes Go.ChangeAt Go.RowKit
set_option maxRecDepth 100000
set_option linter.unusedVariables false

/-- The bytes of a string. -/
def sb (s : ByteArray) : List Nat := s.data.toList.map UInt8.toNat
theorem sb_len (s : ByteArray) : (sb s).length = s.size := by simp [sb]
theorem sb_get (s : ByteArray) (i : Nat) (h : i < s.size) : (sb s).getD i 0 = (s[i]'h).toNat := by
  have h2 : i < (sb s).length := by rw [sb_len]; exact h
  rw [List.getD_eq_getElem?_getD, List.getElem?_eq_getElem h2]
  simp [sb]
  rfl
theorem sb_drop (s : ByteArray) (i : Nat) (h : i < s.size) : (sb s).drop i = (s[i]'h).toNat :: (sb s).drop (i + 1) := by
  have h2 : i < (sb s).length := by rw [sb_len]; exact h
  rw [List.drop_eq_getElem_cons h2]
  congr 1
  have := sb_get s i h
  rw [List.getD_eq_getElem?_getD, List.getElem?_eq_getElem h2] at this
  exact this
theorem sb_end (s : ByteArray) (i : Nat) (h : ¬ i < s.size) : (sb s).drop i = [] := List.drop_eq_nil_of_le (by rw [sb_len]; omega)
theorem sb_lt (s : ByteArray) : ∀ x ∈ sb s, x < 256 := by
  intro x hx
  simp only [sb, List.mem_map] at hx
  obtain ⟨u, -, rfl⟩ := hx
  exact u.toNat_lt
theorem sb_inj {s t : ByteArray} (h : sb s = sb t) : s = t := by
  have h2 : s.data.toList = t.data.toList := by
    unfold sb at h
    exact List.map_inj_right (fun a b e => UInt8.toNat_inj.1 e) |>.1 h
  cases s; cases t
  simp at h2 ⊢
  exact h2

def itAt (w : World) (b : Nat) (s : ByteArray) (pos : Nat) : World := { w with heap := w.heap.setIfInBounds b (.stringIter s pos) }
/-- Block b stands at pos in s. -/
def Iter (w : World) (b : Nat) (s : ByteArray) (pos : Nat) : Prop := w.heap[b]? = some (.stringIter s pos)
theorem Iter.lt {w : World} {b : Nat} {s : ByteArray} {pos : Nat} (h : Iter w b s pos) : b < w.heap.size := by
  unfold Iter at h
  rcases Nat.lt_or_ge b w.heap.size with h2 | h2
  · exact h2
  · rw [Array.getElem?_eq_none h2] at h; cases h
theorem Iter.made (w : World) (s : ByteArray) : Iter (w.iter s 0) w.heap.size s 0 := World.iter_heap w s 0
theorem Iter.below {w w' : World} {b : Nat} {s : ByteArray} {pos : Nat} (h : Iter w b s pos) (hb : Below w.heap.size w w') : Iter w' b s pos := (hb.block b h.lt).trans h
theorem Iter.seen {w : World} {b : Nat} {s : ByteArray} {pos : Nat} (h : Iter w b s pos) (p : Nat) : Iter (itAt w b s p) b s p := by
  have := h.lt
  unfold Iter itAt
  simp [this]
theorem Iter.pos {w : World} {b : Nat} {s : ByteArray} {pos : Nat} (h : Iter w b s pos) : w.iterPos b = pos := by
  unfold Iter at h; unfold World.iterPos; rw [h]
theorem Iter.next {P : Program} {w : World} {b : Nat} {s : ByteArray} {pos : Nat} (h : Iter w b s pos) (hp : pos < s.size) (ty : TypeId) :
    (Instr.next (.pointer (some ⟨b, 0, none⟩)) true ty).run P w = .ok (.tuple #[.bool true, .int .i64 pos, .int .i32 (Utf8.decode s pos).1]) (itAt w b s (pos + (Utf8.decode s pos).2)) := by
  unfold Iter at h
  simp only [Instr.next, getObj, setObj, Sem.run_bind, Sem.run, h, Result.andThen, hp, if_true]
  simp [goInt, itAt]
theorem Iter.stop {P : Program} {w : World} {b : Nat} {s : ByteArray} {pos : Nat} (h : Iter w b s pos) (hp : ¬ pos < s.size) (ty : TypeId) :
    (Instr.next (.pointer (some ⟨b, 0, none⟩)) true ty).run P w = .ok (.tuple #[.bool false]) w := by
  unfold Iter at h
  simp [Instr.next, getObj, Sem.run, h, hp]
theorem bseen {B : Nat} {a w : World} (h : Below B a w) {b : Nat} (hb : B ≤ b) (s : ByteArray) (p : Nat) : Below B a (itAt w b s p) :=
  h.trans ⟨rfl, rfl, rfl, by simp [itAt], fun k hk => by
    unfold itAt
    simp only [Array.getElem?_setIfInBounds]
    rw [if_neg (by omega)]⟩
theorem biter {B : Nat} {a w : World} (h : Below B a w) (hB : B ≤ a.heap.size) (s : ByteArray) (p : Nat) : Below B a (w.iter s p) := balloc h hB _

end Go.Proofs.Ytjeiclfdhdcfnaa

/- Slices of bytes: what calls hand back; a library function that copies one. -/
namespace Go.Proofs.Ytjeiclfdhdcfnaa
open Go.ChangeShapes Go.WideShapes Go.ChangeAt Go.RowKit
set_option linter.unusedVariables false

theorem bytesOf : IntsOf Try.prog 42 5 .u8 1 := ⟨Try.underlying42, by kernel_rfl⟩
theorem sl_nil (k : IntKind) (w : World) : Sl k w none 0 0 [] := ⟨rfl, by omega, by unfold maxLen; omega, fun _ => rfl, Rd.nil _ _ _⟩
theorem sl_lit (k : IntKind) (E : TypeId) (w : World) (zs : List Int) (hm : zs.length ≤ maxLen) (cs : Array Value) (hcs : cs = (zs.map (Value.int k)).toArray) (n : Nat) (hn : zs.length = n) : Sl k (w.alloc (.cells cs E)) (some ⟨w.heap.size, 0, none⟩) n n zs := by
  subst hn
  obtain ⟨a, cap, hv, hs⟩ := (Own.lit k E w zs w.heap.size (Nat.le_refl _) hm cs hcs).sl
  cases hv
  exact hs
/-- A slice of bytes in new memory that holds L. -/
def BytesOk (w : World) (L : List Int) (e : Ending) (w' : World) : Prop := ∃ a cap, e = .returned (.slice a L.length cap) ∧ Own .u8 5 w' w.heap.size (.slice a L.length cap) L ∧ After w w'
/-- Such a slice, and whether there is one. -/
def OpenOk (w : World) (r : Option (List Int)) (e : Ending) (w' : World) : Prop := ∃ a cap, e = .returned (.tuple #[.slice a (r.getD []).length cap, .bool r.isSome]) ∧ Own .u8 5 w' w.heap.size (.slice a (r.getD []).length cap) (r.getD []) ∧ After w w'
theorem Own.slf {k : IntKind} {E : TypeId} {w : World} {base : Nat} {a : Option Addr} {n cap : Nat} {zs : List Int} (h : Own k E w base (.slice a n cap) zs) : Sl k w a n cap zs := by
  obtain ⟨a', cap', hv, hs⟩ := h.sl
  cases hv; exact hs
theorem byte_wf {n : Int} (h1 : 0 ≤ n) (h2 : n ≤ 255) : (Lit.int .u8 n).wf = true := by
  have h3 : IntKind.u8.min = 0 := rfl
  have h4 : IntKind.u8.max = 255 := rfl
  simp [Lit.wf, h3, h4]; exact ⟨h1, h2⟩
theorem bytes_bd {zs : List Int} (h : ∀ n ∈ zs, (Lit.int .u8 n).wf = true) : ∀ n ∈ zs, 0 ≤ n ∧ n ≤ 255 := fun n hn => by have := bounds_u8 (h n hn); omega
theorem bytes_wf {zs : List Int} (h : ∀ n ∈ zs, 0 ≤ n ∧ n ≤ 255) : ∀ n ∈ zs, (Lit.int .u8 n).wf = true := fun n hn => byte_wf (h n hn).1 (h n hn).2

/-- A cell of one's own slice is written. -/
theorem Own.set {k : IntKind} {E : TypeId} {w : World} {base : Nat} {a : Option Addr} {n cap : Nat} {zs : List Int} (h : Own k E w base (.slice a n cap) zs) (i : Nat) (hi : i < zs.length) :
    ∃ g, a = some ⟨g, 0, none⟩ ∧ base ≤ g ∧ w.cell? ⟨g, i, none⟩ = some (.int k (zs.getD i 0)) ∧ w.frozen? ⟨g, i, none⟩ = false ∧ ∀ x, Own k E (w.setCell ⟨g, i, none⟩ (.int k x)) base (.slice a n cap) (zs.set i x) := by
  rcases h.2 with ⟨h1, h2⟩ | ⟨g, c, cur, h1, h2, h3, h4, h5, h6, h7⟩
  · omega
  · cases h1
    rw [Nat.mul_one] at h6 h7
    have hc : i < cur.size := by omega
    have e1 : cur[i]? = some (.int k (zs.getD i 0)) := by
      have e2 := congrArg (fun l => l[i]?) h7
      simp only [List.getElem?_take_of_lt hi, Array.getElem?_toList, List.getElem?_map] at e2
      rw [e2]; simp [hi]
    refine ⟨g, rfl, h2, ?_, frozen_of_row w g i cur E h3, fun x => ?_⟩
    · rw [cell_of_row w g i cur E (0, 0) h3]; exact e1
    · refine ⟨by simp, .inr ⟨g, _, cur.setIfInBounds i (.int k x), by rw [List.length_set], h2, heap_setCell_same w g i cur E _ h3, by rw [List.length_set]; exact h4, h5, by simp; omega, ?_⟩⟩
      rw [List.length_set, Nat.mul_one, Array.toList_setIfInBounds, List.map_set, List.take_set, h7]

end Go.Proofs.Ytjeiclfdhdcfnaa

/- Arguments that are slices of structs: opened at every index. -/
namespace Go.Proofs.Ytjeiclfdhdcfnaa
open Go.ChangeShapes Go.WideShapes Go.RowKit
set_option linter.unusedVariables false

section
variable {H : Type} {enc : TypeId × Value → H} {P : Program} {w : World} {base : Nat} {spare : Nat → Bool} {held : Bool}
/-- The fields of e are of one cell each, in order. -/
def flatB (P : Program) (e : TypeId) (fs : Array Field) : Prop := P.underlying e = some (.struct fs) ∧ P.cellsOf e = fs.size ∧ ∀ (j : Nat) (f : Field), fs[j]? = some f → f.offset = j ∧ P.cellsOf f.type = 1

/-- A struct of one-cell fields, from its cells. -/
theorem open_flat {e : TypeId} {fs : Array Field} {fuel : Nat} {cs : List Value} {x : DataW H × List MemPlace} (hf : flatB P e fs) (h : DataW.trod enc P w base spare held fuel e cs = some x) :
    cs.length = fs.size ∧ ∃ n, ∀ (j : Nat) (f : Field), fs[j]? = some f → ∃ v y, cs[j]? = some v ∧ DataW.trod enc P w base spare held n f.type [v] = some y := by
  obtain ⟨he, hc, ho⟩ := hf
  obtain ⟨xs, n, _, _, hl, hx, hg⟩ := DataW.trod_struct he h
  refine ⟨hl.trans hc, n, fun j f hj => ?_⟩
  have hjs : j < fs.size := (Array.getElem?_eq_some_iff.1 hj).1
  obtain ⟨o, c⟩ := ho j f hj
  have h1 := hg j f hj
  rw [o, c] at h1
  have hjc : j < cs.length := by omega
  have hjx : j < xs.length := by omega
  refine ⟨cs[j], xs[j], List.getElem?_eq_getElem hjc, ?_⟩
  rw [List.getElem?_eq_getElem hjx] at h1
  rw [← h1]
  congr 1
  rw [List.drop_eq_getElem_cons hjc]
  rfl

/-- A slice of structs of one-cell fields, opened: each field's cell, and what it reads as. -/
theorem open_flats {t e : TypeId} {fs : Array Field} {fuel : Nat} {cs : List Value} {x : DataW H × List MemPlace} (ht : P.underlying t = some (.slice e)) (hf : flatB P e fs) (h : DataW.trod enc P w base spare held fuel t cs = some x) :
    cs = [.slice none 0 0] ∨ ∃ (a : Addr) (len cap n : Nat), cs = [.slice (some a) len cap] ∧ len ≤ cap ∧ cap ≤ maxLen ∧
      ∀ i, i < len → ∀ (j : Nat) (f : Field), fs[j]? = some f → ∃ v y, w.cell? (a.add (i * fs.size + j)) = some v ∧ DataW.trod enc P w base spare held n f.type [v] = some y := by
  rcases Go.Deep.open_slice ht h with ⟨h0, _⟩ | ⟨a, len, cap, m, n, D, Pl, rfl, hb, hl, hm, hmm, rfl, hx⟩
  · exact .inl h0
  right
  have hlm : len ≤ m := by rw [hmm]; split <;> omega
  have key : ∀ i, i < len → ∃ k, ∀ (j : Nat) (f : Field), fs[j]? = some f → ∃ v y, w.cell? (a.add (i * fs.size + j)) = some v ∧ DataW.trod enc P w base spare held k f.type [v] = some y := fun i hi => by
    obtain ⟨cs', h1, h2⟩ := hx i (by omega)
    rw [hf.2.1] at h1
    obtain ⟨_, hlen, hcell⟩ := World.cells?_some h1
    obtain ⟨_, k, hk⟩ := open_flat hf h2
    refine ⟨k, fun j f hj => ?_⟩
    obtain ⟨v, y, hv, hy⟩ := hk j f hj
    refine ⟨v, y, ?_, hy⟩
    have := hcell j (Array.getElem?_eq_some_iff.1 hj).1
    rw [Go.Deep.add_add] at this
    rw [this]; exact hv
  obtain ⟨k, hk⟩ := Go.Deep.fuel_lt (q := fun i k => ∀ (j : Nat) (f : Field), fs[j]? = some f → ∃ v y, w.cell? (a.add (i * fs.size + j)) = some v ∧ DataW.trod enc P w base spare held k f.type [v] = some y)
    (fun i b c hbc hq j f hj => by obtain ⟨v, y, h1, h2⟩ := hq j f hj; exact ⟨v, y, h1, DataW.trod_le hbc h2⟩) key
  exact ⟨a, len, cap, k, rfl, hl, hm, hk⟩
end
/-- A slice of structs of m cells each: element i's cell j holds V i j. -/
def Flat (w : World) (a : Option Addr) (len cap m : Nat) (V : Nat → Nat → Value) : Prop :=
  len ≤ cap ∧ cap ≤ maxLen ∧ (a = none → cap = 0) ∧ ∀ i, i < len → ∀ j, j < m → ∃ b off, a = some ⟨b, off, none⟩ ∧ w.cell? ⟨b, off + (i * m + j), none⟩ = some (V i j)
theorem Flat.below {w w' : World} {a : Option Addr} {len cap m : Nat} {V : Nat → Nat → Value} (h : Flat w a len cap m V) (hb : Below w.heap.size w w') : Flat w' a len cap m V :=
  ⟨h.1, h.2.1, h.2.2.1, fun i hi j hj => by
    obtain ⟨b, off, e, hc⟩ := h.2.2.2 i hi j hj
    exact ⟨b, off, e, (Below.cell hb (World.block_lt_of_cell? w _ hc)).trans hc⟩⟩

section
variable {H : Type} {enc : TypeId × Value → H} {P : Program} {w : World} {base : Nat} {spare : Nat → Bool} {held : Bool}
theorem cell_plain0 {w : World} {x : Addr} {v : Value} (h : w.cell? x = some v) : ∃ b off, x = ⟨b, off, none⟩ := by
  obtain ⟨b, off, s⟩ := x
  cases s with
  | none => exact ⟨b, off, rfl⟩
  | some s =>
    exfalso
    simp [World.cell?] at h
    split at h <;> simp at h
theorem add_at (b off k : Nat) : (⟨b, off, none⟩ : Addr).add k = ⟨b, off + k, none⟩ := by
  unfold Addr.add; split
  · rename_i h; subst h; rfl
  · rfl
open Classical in
theorem flat_open {t e : TypeId} {fs : Array Field} {fuel : Nat} {a : Option Addr} {len cap : Nat} {x : DataW H × List MemPlace} (ht : P.underlying t = some (.slice e)) (hf : flatB P e fs) (h : DataW.trod enc P w base spare held fuel t [.slice a len cap] = some x) :
    ∃ V : Nat → Nat → Value, Flat w a len cap fs.size V ∧ ∀ i, i < len → ∀ (j : Nat) (f : Field), fs[j]? = some f → ∃ n y, DataW.trod enc P w base spare held n f.type [V i j] = some y := by
  rcases open_flats ht hf h with h0 | ⟨x, l, c, n, hcs, hl, hm, hk⟩
  · simp at h0
    obtain ⟨rfl, rfl, rfl⟩ := h0
    exact ⟨fun _ _ => undef, ⟨Nat.le_refl _, by unfold maxLen; omega, fun _ => rfl, fun i hi => by omega⟩, fun i hi => by omega⟩
  · simp at hcs
    obtain ⟨rfl, rfl, rfl⟩ := hcs
    refine ⟨fun i j => (w.cell? (x.add (i * fs.size + j))).getD undef, ⟨hl, hm, fun h => (by cases h), fun i hi j hj => ?_⟩, fun i hi j f hj => ?_⟩
    · obtain ⟨v, y, hv, _⟩ := hk i hi j fs[j] (Array.getElem?_eq_getElem hj)
      obtain ⟨v0, y0, hv0, _⟩ := hk 0 (by omega) 0 fs[0] (Array.getElem?_eq_getElem (by omega))
      rw [Nat.zero_mul] at hv0
      obtain ⟨b, off, rfl⟩ := cell_plain0 (x := x) hv0
      rw [add_at] at hv
      exact ⟨b, off, rfl, by dsimp only; rw [add_at, hv]; rfl⟩
    · obtain ⟨v, y, hv, hy⟩ := hk i hi j f hj
      exact ⟨n, y, by dsimp only; rw [hv]; exact hy⟩
theorem typ_int {t : TypeId} {k : IntKind} {n : Nat} {v : Value} {y : DataW H × List MemPlace} (hu : P.underlying t = some (.int k)) (h : DataW.trod enc P w base spare held n t [v] = some y) : ∃ m, v = .int k m ∧ (Lit.int k m).wf = true := by
  obtain ⟨m, e, _, hw⟩ := DataW.trod_int hu h
  simp at e
  exact ⟨m, e, hw⟩
theorem typ_bool {t : TypeId} {n : Nat} {v : Value} {y : DataW H × List MemPlace} (hu : P.underlying t = some .bool) (h : DataW.trod enc P w base spare held n t [v] = some y) : ∃ b, v = .bool b := by
  obtain ⟨b, e, _⟩ := DataW.trod_bool hu h
  simp at e
  exact ⟨b, e⟩
theorem typ_ints {t e : TypeId} {k : IntKind} {n : Nat} {v : Value} {y : DataW H × List MemPlace} (ht : P.underlying t = some (.slice e)) (he : P.underlying e = some (.int k)) (hc : P.cellsOf e = 1) (h : DataW.trod enc P w base (fun _ => true) held n t [v] = some y) :
    ∃ (a : Option Addr) (l c : Nat) (zs : List Int), v = .slice a l c ∧ IsRow k w a l c zs := by
  rcases open_ints ht he hc h with ⟨hcs, _⟩ | ⟨x, l, c, zs, hcs, _, hl, hm, hz, _, hcell, hwz⟩
  · simp at hcs; exact ⟨none, 0, 0, [], hcs, .inl ⟨rfl, rfl, rfl, rfl⟩⟩
  · simp at hcs; exact ⟨some x, l, c, zs, hcs, .inr ⟨x, rfl, hl, hm, by simpa using hz, hcell, hwz⟩⟩
/-- A struct of one-cell fields, as an argument. -/
theorem agg_open {r : Reach} {b0 : Nat} {t : TypeId} {fs : Array Field} {v : Value} {d : DataW H} {p : List MemPlace} (hf : flatB P t fs) (hv : Value.okWide P w r b0 t v) (h : DataW.Trod enc P w base spare held t v d p) :
    ∃ l : List Value, v = .agg l.toArray ∧ l.length = fs.size ∧ ∀ (j : Nat) (f : Field), fs[j]? = some f → ∃ c n y, l[j]? = some c ∧ DataW.trod enc P w base spare held n f.type [c] = some y := by
  obtain ⟨cs, rfl, hsz⟩ := okWide_struct hf.1 hv
  obtain ⟨fuel, hg⟩ := h
  obtain ⟨hl, n, hk⟩ := open_flat hf hg
  refine ⟨cs.toList, by simp, hl, fun j f hj => ?_⟩
  obtain ⟨c, y, hc, hy⟩ := hk j f hj
  exact ⟨c, n, y, hc, hy⟩
theorem typ_string {t : TypeId} {n : Nat} {v : Value} {y : DataW H × List MemPlace} (hu : P.underlying t = some .string) (h : DataW.trod enc P w base spare held n t [v] = some y) : ∃ s, v = .string s ∧ s.size ≤ maxLen := by
  obtain ⟨s, e, _, hw⟩ := DataW.trod_string hu h
  simp at e
  exact ⟨s, e, hw⟩
end

theorem list_of1 {l : List Value} (h : l.length = 1) : ∃ x0, l = [x0] := by
  match l, h with
  | [x0], _ => exact ⟨_, rfl⟩
theorem list_of2 {l : List Value} (h : l.length = 2) : ∃ x0 x1, l = [x0, x1] := by
  match l, h with
  | [x0, x1], _ => exact ⟨_, _, rfl⟩
theorem list_of3 {l : List Value} (h : l.length = 3) : ∃ x0 x1 x2, l = [x0, x1, x2] := by
  match l, h with
  | [x0, x1, x2], _ => exact ⟨_, _, _, rfl⟩
theorem list_of4 {l : List Value} (h : l.length = 4) : ∃ x0 x1 x2 x3, l = [x0, x1, x2, x3] := by
  match l, h with
  | [x0, x1, x2, x3], _ => exact ⟨_, _, _, _, rfl⟩
theorem list_of5 {l : List Value} (h : l.length = 5) : ∃ x0 x1 x2 x3 x4, l = [x0, x1, x2, x3, x4] := by
  match l, h with
  | [x0, x1, x2, x3, x4], _ => exact ⟨_, _, _, _, _, rfl⟩
theorem list_of6 {l : List Value} (h : l.length = 6) : ∃ x0 x1 x2 x3 x4 x5, l = [x0, x1, x2, x3, x4, x5] := by
  match l, h with
  | [x0, x1, x2, x3, x4, x5], _ => exact ⟨_, _, _, _, _, _, rfl⟩
theorem list_of7 {l : List Value} (h : l.length = 7) : ∃ x0 x1 x2 x3 x4 x5 x6, l = [x0, x1, x2, x3, x4, x5, x6] := by
  match l, h with
  | [x0, x1, x2, x3, x4, x5, x6], _ => exact ⟨_, _, _, _, _, _, _, rfl⟩
theorem list_of8 {l : List Value} (h : l.length = 8) : ∃ x0 x1 x2 x3 x4 x5 x6 x7, l = [x0, x1, x2, x3, x4, x5, x6, x7] := by
  match l, h with
  | [x0, x1, x2, x3, x4, x5, x6, x7], _ => exact ⟨_, _, _, _, _, _, _, _, rfl⟩

end Go.Proofs.Ytjeiclfdhdcfnaa

/- Arguments of any plain type, opened to the bottom: what cells read as a type. -/
namespace Go.Proofs.Ytjeiclfdhdcfnaa
open Go.ChangeShapes Go.WideShapes Go.RowKit
set_option linter.unusedVariables false

/-- The cells cs read as type t, n levels deep. -/
def Reads (P : Program) (w : World) : Nat → TypeId → List Value → Prop
  | 0, _, _ => True
  | n + 1, t, cs => match P.underlying t with
    | some (.int k) => ∃ m, cs = [.int k m] ∧ (Lit.int k m).wf = true
    | some .bool => ∃ b, cs = [.bool b]
    | some .string => ∃ s, cs = [.string s] ∧ s.size ≤ maxLen
    | some (.slice e) => ∃ (a : Option Addr) (l c : Nat), cs = [.slice a l c] ∧ l ≤ c ∧ c ≤ maxLen ∧ (a = none → c = 0) ∧
        ∃ V : Nat → Nat → Value, (0 < P.cellsOf e → ∀ i, i < l → ∀ j, j < P.cellsOf e → ∃ b off, a = some ⟨b, off, none⟩ ∧ w.cell? ⟨b, off + (i * P.cellsOf e + j), none⟩ = some (V i j)) ∧
        ∀ i, i < l → Reads P w n e ((List.range (P.cellsOf e)).map (V i))
    | some (.struct fs) => cs.length = P.cellsOf t ∧ ∀ (j : Nat) (f : Field), fs[j]? = some f → Reads P w n f.type ((cs.drop f.offset).take (P.cellsOf f.type))
    | some (.array m e) => cs.length = P.cellsOf t ∧ ∀ i, i < m → Reads P w n e ((cs.drop (i * P.cellsOf e)).take (P.cellsOf e))
    | _ => True

section
variable {H : Type} {enc : TypeId × Value → H} {P : Program} {w : World} {base : Nat} {spare : Nat → Bool} {held : Bool}

open Classical in
theorem reads_of : ∀ (n : Nat) (t : TypeId) (fuel : Nat) (cs : List Value) (x : DataW H × List MemPlace), DataW.trod enc P w base spare held fuel t cs = some x → Reads P w n t cs
  | 0, _, _, _, _, _ => trivial
  | n + 1, t, fuel, cs, x, h => by
    unfold Reads
    split
    · rename_i k hu
      obtain ⟨m, e, _, hw⟩ := DataW.trod_int hu h
      exact ⟨m, e, hw⟩
    · rename_i hu
      obtain ⟨b, e, _⟩ := DataW.trod_bool hu h
      exact ⟨b, e⟩
    · rename_i hu
      obtain ⟨s, e, _, hw⟩ := DataW.trod_string hu h
      exact ⟨s, e, hw⟩
    · rename_i e hu
      rcases Go.Deep.open_slice hu h with ⟨h0, _⟩ | ⟨a, len, cap, m, k, D, Pl, rfl, hb, hl, hm, hmm, rfl, hx⟩
      · exact ⟨none, 0, 0, h0, Nat.le_refl _, by unfold maxLen; omega, fun _ => rfl, fun _ _ => undef, fun _ i hi => by omega, fun i hi => by omega⟩
      · have hlm : len ≤ m := by rw [hmm]; split <;> omega
        refine ⟨some a, len, cap, rfl, hl, hm, fun h => (by cases h), fun i j => (w.cell? (a.add (i * P.cellsOf e + j))).getD undef, fun hc i hi j hj => ?_, fun i hi => ?_⟩
        · obtain ⟨cs', h1, h2⟩ := hx i (by omega)
          obtain ⟨_, hlen, hcell⟩ := World.cells?_some h1
          have hv := hcell j hj
          rw [Go.Deep.add_add, List.getElem?_eq_getElem (by omega)] at hv
          obtain ⟨cs0, h10, h20⟩ := hx 0 (by omega)
          obtain ⟨_, hlen0, hcell0⟩ := World.cells?_some h10
          have hv0 := hcell0 0 hc
          rw [Go.Deep.add_add, List.getElem?_eq_getElem (by omega), Nat.zero_mul] at hv0
          obtain ⟨b, off, rfl⟩ := cell_plain0 (x := a) (by simpa [Addr.add] using hv0)
          rw [add_at] at hv
          exact ⟨b, off, rfl, by dsimp only; rw [add_at, hv]; rfl⟩
        · obtain ⟨cs', h1, h2⟩ := hx i (by omega)
          obtain ⟨_, hlen, hcell⟩ := World.cells?_some h1
          have e1 : (List.range (P.cellsOf e)).map (fun j => (w.cell? (a.add (i * P.cellsOf e + j))).getD undef) = cs' := by
            refine List.ext_getElem (by simp [hlen]) fun j hj1 hj2 => ?_
            have hv := hcell j (by simpa using hj1)
            rw [Go.Deep.add_add, List.getElem?_eq_getElem hj2] at hv
            simp [hv]
          rw [e1]
          exact reads_of n _ _ _ _ h2
    · rename_i fs hu
      obtain ⟨xs, k, _, _, hl, hx, hg⟩ := DataW.trod_struct hu h
      refine ⟨hl, fun j f hj => ?_⟩
      have h1 := hg j f hj
      have hjs : j < fs.size := (Array.getElem?_eq_some_iff.1 hj).1
      rw [List.getElem?_eq_getElem (by omega)] at h1
      exact reads_of n _ _ _ _ h1
    · rename_i m e hu
      obtain ⟨xs, k, _, _, hl, hx, hg⟩ := DataW.trod_array hu h
      refine ⟨hl, fun i hi => ?_⟩
      have h1 := hg i hi
      rw [List.getElem?_eq_getElem (by omega)] at h1
      exact reads_of n _ _ _ _ h1
    · trivial
theorem reads_int {t : TypeId} {k : IntKind} {n : Nat} {v : Value} (hu : P.underlying t = some (.int k)) (h : Reads P w (n + 1) t [v]) : ∃ m, v = .int k m ∧ (Lit.int k m).wf = true := by
  unfold Reads at h; rw [hu] at h
  obtain ⟨m, e, hw⟩ := h
  simp at e
  exact ⟨m, e, hw⟩
theorem reads_bool {t : TypeId} {n : Nat} {v : Value} (hu : P.underlying t = some .bool) (h : Reads P w (n + 1) t [v]) : ∃ b, v = .bool b := by
  unfold Reads at h; rw [hu] at h
  obtain ⟨b, e⟩ := h
  simp at e
  exact ⟨b, e⟩
theorem reads_string {t : TypeId} {n : Nat} {v : Value} (hu : P.underlying t = some .string) (h : Reads P w (n + 1) t [v]) : ∃ s, v = .string s ∧ s.size ≤ maxLen := by
  unfold Reads at h; rw [hu] at h
  obtain ⟨s, e, hw⟩ := h
  simp at e
  exact ⟨s, e, hw⟩
theorem reads_slice {t e : TypeId} {n m : Nat} {v : Value} (hu : P.underlying t = some (.slice e)) (hm : P.cellsOf e = m) (hm0 : 0 < m) (h : Reads P w (n + 1) t [v]) :
    ∃ (a : Option Addr) (l c : Nat) (V : Nat → Nat → Value), v = .slice a l c ∧ Flat w a l c m V ∧ ∀ i, i < l → Reads P w n e ((List.range m).map (V i)) := by
  unfold Reads at h; rw [hu] at h
  subst hm
  obtain ⟨a, l, c, e, h1, h2, h3, V, h4, h5⟩ := h
  simp at e
  exact ⟨a, l, c, V, e, ⟨h1, h2, h3, fun i hi j hj => h4 hm0 i hi j hj⟩, h5⟩
theorem reads_ints {t e : TypeId} {k : IntKind} {n : Nat} {v : Value} (hu : P.underlying t = some (.slice e)) (he : P.underlying e = some (.int k)) (hm : P.cellsOf e = 1) (h : Reads P w (n + 2) t [v]) :
    ∃ (a : Option Addr) (l c : Nat) (zs : List Int), v = .slice a l c ∧ Sl k w a l c zs ∧ ∀ x ∈ zs, (Lit.int k x).wf = true := by
  obtain ⟨a, l, c, V, e, ⟨h1, h2, h3, h4⟩, h5⟩ := reads_slice hu hm (by omega) h
  have key : ∀ i, i < l → ∃ m, V i 0 = .int k m ∧ (Lit.int k m).wf = true := fun i hi => reads_int he (h5 i hi)
  refine ⟨a, l, c, (List.range l).map fun i => match V i 0 with | .int _ m => m | _ => 0, e, ⟨by simp, h1, h2, h3, fun i hi => ?_⟩, fun x hx => ?_⟩
  · have hi : i < l := by simpa using hi
    obtain ⟨b, off, ha, hc⟩ := h4 i hi 0 (by omega)
    obtain ⟨m, hm, _⟩ := key i hi
    refine ⟨b, off, ha, ?_⟩
    rw [Nat.mul_one, Nat.add_zero] at hc
    rw [hc, hm]
    simp [hi, hm]
  · obtain ⟨i, hi, rfl⟩ := List.mem_map.1 hx
    obtain ⟨m, hm, hw⟩ := key i (by simpa using hi)
    rw [hm]; exact hw
theorem reads_fld {t : TypeId} {fs : Array Field} {n : Nat} {cs : List Value} (hu : P.underlying t = some (.struct fs)) (h : Reads P w (n + 1) t cs) (j : Nat) (f : Field) (hj : fs[j]? = some f) {l : List Value} (hl : (cs.drop f.offset).take (P.cellsOf f.type) = l) : Reads P w n f.type l := by
  unfold Reads at h; rw [hu] at h
  subst hl
  exact h.2 j f hj
theorem reads_elt {t e : TypeId} {m : Nat} {n : Nat} {cs : List Value} (hu : P.underlying t = some (.array m e)) (h : Reads P w (n + 1) t cs) (i : Nat) (hi : i < m) {l : List Value} (hl : (cs.drop (i * P.cellsOf e)).take (P.cellsOf e) = l) : Reads P w n e l := by
  unfold Reads at h; rw [hu] at h
  subst hl
  exact h.2 i hi
theorem reads_agg {r : Reach} {b0 : Nat} {t : TypeId} {fs : Array Field} {v : Value} {d : DataW H} {p : List MemPlace} (hf : P.underlying t = some (.struct fs)) (hv : Value.okWide P w r b0 t v) (h : DataW.Trod enc P w base spare held t v d p) (n : Nat) :
    ∃ l : List Value, v = .agg l.toArray ∧ l.length = P.cellsOf t ∧ Reads P w n t l := by
  obtain ⟨cs, rfl, hsz⟩ := okWide_struct hf hv
  obtain ⟨fuel, hg⟩ := h
  obtain ⟨xs, k, _, _, hl, _, _⟩ := DataW.trod_struct hf hg
  exact ⟨cs.toList, by simp, hl, reads_of n _ _ _ _ hg⟩
theorem reads_sl {r : Reach} {b0 : Nat} {t e : TypeId} {v : Value} {d : DataW H} {p : List MemPlace} (hf : P.underlying t = some (.slice e)) (hv : Value.okWide P w r b0 t v) (h : DataW.Trod enc P w base spare held t v d p) (n : Nat) : Reads P w n t [v] := by
  obtain ⟨a, l, c, rfl⟩ := okWide_slice hf hv
  obtain ⟨fuel, hg⟩ := h
  exact reads_of n _ _ _ _ hg
end
/-- A struct of many integers of one kind. -/
theorem ints_of {k : IntKind} {n : Nat} {l : List Value} (h : l.length = n) (hx : ∀ i, i < n → ∃ m, l[i]? = some (.int k m) ∧ (Lit.int k m).wf = true) : ∃ zs : List Int, l = zs.map (Value.int k) ∧ zs.length = n ∧ ∀ x ∈ zs, (Lit.int k x).wf = true := by
  refine ⟨l.map fun | .int _ m => m | _ => 0, ?_, by simp [h], fun x hx2 => ?_⟩
  · refine List.ext_getElem (by simp) fun i h1 h2 => ?_
    obtain ⟨m, hm, _⟩ := hx i (by omega)
    rw [List.getElem?_eq_getElem h1] at hm
    simp at hm
    simp [hm]
  · obtain ⟨v, hv, rfl⟩ := List.mem_map.1 hx2
    obtain ⟨i, hi, rfl⟩ := List.getElem_of_mem hv
    obtain ⟨m, hm, hw⟩ := hx i (by omega)
    rw [List.getElem?_eq_getElem hi] at hm
    simp at hm
    rw [hm]; exact hw

end Go.Proofs.Ytjeiclfdhdcfnaa
