/- Several texts in one: Seg, Store, Store2, Ops, Cells, Range, Range2, Kept. -/
import Derived.Test.YtjeiclfdhdcfnaaKA
import Derived.Laws.Rows
import Derived.Laws.AppendOwn
import Derived.RangeFuncNested
import Derived.RangeFuncBound
import Derived.RangeFuncCalls
import Derived.RangeFuncLeaves
import Derived.RangeFuncBox
import Derived.Shelf.Abstract
import Derived.Shelf.RegionOpen
import Derived.WalkKit
import Derived.OwnWalkIn
import Derived.TacticsInMore
import Derived.LoopNIn
import Derived.LoopIn
import Derived.Maps.AppendAt
import Derived.OrdersIn

/- A statement whose order is open: each operation is told alone; then whatever order is picked, all holds. -/
namespace Go.Proofs.Ytjeiclfdhdcfnaa
set_option linter.unusedVariables false
open Go.RowKit

/-- What an operation of a statement whose order is open leaves: q: it reads; c: it may make memory; al: a new block; s: a store that fills such a block. Numbers name operations whose new blocks are meant. -/
inductive Ent
  | q0 (v : Value) | q1 (i : Nat) (f : Nat → Value) | q2 (i j : Nat) (f : Nat → Nat → Value)
  | c0 (v : Value) | c1 (i : Nat) (f : Nat → Value) | c2 (i j : Nat) (f : Nat → Nat → Value)
  | al (z : (Nat → Value) × Obj) (k : Nat)
  | s0 (i : Nat) (o : Obj) | s1 (i j : Nat) (f : Nat → Obj) | s2 (i j k : Nat) (f : Nat → Nat → Obj)
  | ef (b : Nat) (pv : Option Nat) (v : Value) (o : Obj)

inductive Sh
  | q (ds : List Nat) | al (k : Nat) | st (i : Nat) (ds : List Nat) | ef (b : Nat) (pv : Option Nat)

def Ent.sh : Ent → Sh
  | .q0 _ => .q [] | .q1 i _ => .q [i] | .q2 i j _ => .q [i, j]
  | .c0 _ => .q [] | .c1 i _ => .q [i] | .c2 i j _ => .q [i, j]
  | .al _ k => .al k
  | .s0 i _ => .st i [] | .s1 i j _ => .st i [j] | .s2 i j k _ => .st i [j, k]
  | .ef b pv _ _ => .ef b pv

def Sh.own : Sh → Bool | .al _ => true | _ => false
def Sh.deps : Sh → List Nat | .q ds => ds | .al _ => [] | .st _ ds => ds | .ef _ _ => []

def Ent.val (th : Nat → Nat) (me : Nat) : Ent → Value
  | .q0 v => v | .q1 i f => f (th i) | .q2 i j f => f (th i) (th j)
  | .c0 v => v | .c1 i f => f (th i) | .c2 i j f => f (th i) (th j)
  | .al z _ => z.1 (th me)
  | .ef _ _ v _ => v
  | _ => undef

/-- What a store leaves in its block. -/
def Ent.obj (th : Nat → Nat) : Ent → Obj
  | .s0 _ o => o | .s1 _ j f => f (th j) | .s2 _ j k f => f (th j) (th k)
  | .al z _ => z.2
  | _ => default

theorem Ent.val_congr {th th' : Nat → Nat} {me : Nat} {e : Ent} (h : ∀ d ∈ e.sh.deps, th d = th' d) (hm : e.sh.own = true → th me = th' me) : e.val th me = e.val th' me := by
  cases e <;> simp_all [Ent.val, Ent.sh, Sh.deps, Sh.own]
theorem Ent.obj_congr {th th' : Nat → Nat} {e : Ent} (h : ∀ d ∈ e.sh.deps, th d = th' d) : e.obj th = e.obj th' := by
  cases e <;> simp_all [Ent.obj, Ent.sh, Sh.deps]

/-- What one operation comes to. -/
def vp (P : Program) (R : Value → World → Prop) : Result Next → Prop
  | .ok (.value v) w' => R v w'
  | .ok .skip w' => R undef w'
  | .ok (.enter f args) w' => Calls P f args w' fun e w'' => ∃ v, e = .returned v ∧ R v w''
  | _ => False

def Seg.dir (ops : Array Oper) (k : Nat) : List Nat :=
  match ops[k]? with
  | some o => (o.after.toList.filter (Region.binds .any)).map (·.on)
  | none => []
def Seg.anc (ops : Array Oper) : Nat → List Nat → List Nat
  | 0, acc => acc
  | k + 1, acc => Seg.anc ops k (if acc.contains k then Seg.dir ops k ++ acc else acc)
def Seg.ancs (ops : Array Oper) (i : Nat) : List Nat := Seg.anc ops i (Seg.dir ops i)

theorem Seg.anc_sound {ops : Array Oper} {p : Nat → Prop} (hc : ∀ k, p k → ∀ j ∈ Seg.dir ops k, p j) : ∀ (n : Nat) (acc : List Nat), (∀ j ∈ acc, p j) → ∀ j ∈ Seg.anc ops n acc, p j
  | 0, _, h => h
  | n + 1, acc, h => by
    unfold Seg.anc
    refine Seg.anc_sound hc n _ ?_
    split
    · rename_i hk
      intro j hj
      rcases List.mem_append.1 hj with hj | hj
      · exact hc n (h n (by simpa using hk)) j hj
      · exact h j hj
    · exact h

/-- The block of operation j at this point, if it is known what it holds there: t tells which operations came. -/
def Seg.known (E : List Ent) (l : Nat) (th : Nat → Nat) (t : Nat → Prop) (U : World) : Prop :=
  ∀ x z k, E[x]? = some (.al z k) → t (l + x) →
    ((t k → ∀ s, l ≤ k → E[k - l]? = some s → U.heap[th (l + x)]? = some (s.obj th)) ∧ (l + E.length ≤ k → U.heap[th (l + x)]? = some z.2)) ∧ th (l + x) < U.heap.size

/-- What was there is there, but for the blocks of X. -/
structure KeepX (X : List (Nat × Obj)) (w U : World) : Prop where
  os : U.os = w.os
  tape : U.tape = w.tape
  output : U.output = w.output
  size : w.heap.size ≤ U.heap.size
  block : ∀ k, k < w.heap.size → (∀ (b g : Nat) (o : Obj), X[b]? = some (g, o) → k ≠ g) → U.heap[k]? = w.heap[k]?
def Seg.base : List (Nat × Obj) → World → World → Prop
  | [], w, U => After w U
  | x :: X, w, U => KeepX (x :: X) w U
theorem Seg.base_iff {X : List (Nat × Obj)} {w U : World} : Seg.base X w U ↔ KeepX X w U := by
  cases X with
  | nil => exact ⟨fun h => ⟨h.os, h.tape, h.output, h.size, fun k hk _ => h.block k hk⟩, fun h => ⟨h.os, h.tape, h.output, h.size, fun k hk => h.block k hk (fun b g o hb => by simp at hb)⟩⟩
  | cons x X => exact Iff.rfl
/-- Block g was written, and there may be new blocks. -/
structure Eff (g : Nat) (w U : World) : Prop where
  os : U.os = w.os
  tape : U.tape = w.tape
  output : U.output = w.output
  size : w.heap.size ≤ U.heap.size
  block : ∀ k, k < w.heap.size → k ≠ g → U.heap[k]? = w.heap[k]?
def Ent.fin : Ent → Obj
  | .ef _ _ _ o => o
  | _ => default
/-- What an old block holds ahead of one that changes it. -/
def Seg.cont (E : List Ent) (X : List (Nat × Obj)) (l b : Nat) : Option Nat → Option Obj
  | none => (X[b]?).map (·.2)
  | some p => (E[p - l]?).map Ent.fin
/-- What the old blocks of X hold at operation i. -/
def Seg.knownX (ops : Array Oper) (E : List Ent) (X : List (Nat × Obj)) (l i : Nat) (U : World) : Prop :=
  ∀ (b g : Nat) (o0 : Obj), X[b]? = some (g, o0) →
    ((∀ (x : Nat) pv v o, E[x]? = some (.ef b pv v o) → i ∈ Seg.ancs ops (l + x)) → U.heap[g]? = some o0) ∧
    (∀ (x : Nat) pv v o, E[x]? = some (.ef b pv v o) → l + x ∈ Seg.ancs ops i → (∀ (y : Nat) v' o', E[y]? = some (.ef b (some (l + x)) v' o') → i ∈ Seg.ancs ops (l + y)) → U.heap[g]? = some o)
/-- What they hold in the end. -/
def Seg.endX (E : List Ent) (X : List (Nat × Obj)) (l : Nat) (U : World) : Prop :=
  ∀ (b g : Nat) (o0 : Obj), X[b]? = some (g, o0) →
    ((∀ (x : Nat) pv v o, E[x]? ≠ some (Ent.ef b pv v o)) → U.heap[g]? = some o0) ∧
    (∀ (x : Nat) pv v o, E[x]? = some (Ent.ef b pv v o) → (∀ (y : Nat) v' o', E[y]? ≠ some (Ent.ef b (some (l + x)) v' o')) → U.heap[g]? = some o)

def Seg.ctx (ops : Array Oper) (E : List Ent) (X : List (Nat × Obj)) (l : Nat) (w : World) (th : Nat → Nat) (i : Nat) (U : World) : Prop :=
  Seg.base X w U ∧ Seg.known E l th (fun j => j ∈ Seg.ancs ops i) U ∧ Seg.knownX ops E X l i U

/-- Only block p was written. -/
structure Only (p : Nat) (w w' : World) : Prop where
  os : w'.os = w.os
  tape : w'.tape = w.tape
  output : w'.output = w.output
  size : w'.heap.size = w.heap.size
  block : ∀ k, k ≠ p → w'.heap[k]? = w.heap[k]?

def Seg.tell (P : Program) (ops : Array Oper) (E : List Ent) (X : List (Nat × Obj)) (l : Nat) (w : World) (th : Nat → Nat) (i : Nat) (o : Oper) (a : Act) : Ent → Prop
  | .al z _ => Region.wanted o (yielded ops a.tmps) = true ∧ ∀ U, Seg.ctx ops E X l w th i U → vp P (fun v U' => ∃ p, v = z.1 p ∧ U.heap.size ≤ p ∧ p < U'.heap.size ∧ After U U' ∧ U'.heap[p]? = some z.2) ((execOp a.eval o).run P U)
  | .s0 j ob => Region.wanted o (yielded ops a.tmps) = true ∧ ∀ U z k, E[j - l]? = some (.al z k) → Seg.ctx ops E X l w th i U → U.heap[th j]? = some z.2 → vp P (fun v U' => v = undef ∧ Only (th j) U U' ∧ U'.heap[th j]? = some ob) ((execOp a.eval o).run P U)
  | .s1 j x f => Region.wanted o (yielded ops a.tmps) = true ∧ ∀ U z k, E[j - l]? = some (.al z k) → Seg.ctx ops E X l w th i U → U.heap[th j]? = some z.2 → vp P (fun v U' => v = undef ∧ Only (th j) U U' ∧ U'.heap[th j]? = some (f (th x))) ((execOp a.eval o).run P U)
  | .s2 j x y f => Region.wanted o (yielded ops a.tmps) = true ∧ ∀ U z k, E[j - l]? = some (.al z k) → Seg.ctx ops E X l w th i U → U.heap[th j]? = some z.2 → vp P (fun v U' => v = undef ∧ Only (th j) U U' ∧ U'.heap[th j]? = some (f (th x) (th y))) ((execOp a.eval o).run P U)
  | .ef b pv v ob => Region.wanted o (yielded ops a.tmps) = true ∧ ∀ U g o0 o', X[b]? = some (g, o0) → Seg.cont E X l b pv = some o' → Seg.ctx ops E X l w th i U → U.heap[g]? = some o' → vp P (fun v' U' => v' = v ∧ Eff g U U' ∧ U'.heap[g]? = some ob) ((execOp a.eval o).run P U)
  | e => (Region.wanted o (yielded ops a.tmps) = true ∧ ∀ U, Seg.ctx ops E X l w th i U → vp P (fun v U' => v = e.val th i ∧ After U U') ((execOp a.eval o).run P U)) ∨
      (Region.wanted o (yielded ops a.tmps) = false ∧ e.val th i = undef)

/-- The frame behind the operations from i on. -/
def Seg.puts (ops : Array Oper) (th : Nat → Nat) : List Ent → Nat → Act → Act
  | [], _, a => a
  | e :: E, i, a => Seg.puts ops th E (i + 1) (a.put ((ops[i]?).bind (·.dst)) (e.val th i))

def Seg.steps (P : Program) (ops : Array Oper) (E : List Ent) (X : List (Nat × Obj)) (l : Nat) (w : World) (th : Nat → Nat) (R : Act → Prop) : List Ent → Nat → Act → Prop
  | [], _, a => R a
  | e :: E', i, a => (∃ o, ops[i]? = some o ∧ Seg.tell P ops E X l w th i o a e) ∧ Seg.steps P ops E X l w th R E' (i + 1) (a.put ((ops[i]?).bind (·.dst)) (e.val th i))

def Seg.ok (ops : Array Oper) (S : List Sh) (l : Nat) : Bool :=
  Region.noSelect ops && decide (l + S.length ≤ ops.size) &&
  ((List.range (l + S.length)).all fun k => (Seg.dir ops k).all fun j => decide (j < k)) &&
  ((List.range S.length).all fun x =>
    match ops[l + x]?, S[x]? with
    | some o, some s =>
      ((List.range S.length).all fun y =>
        match ops[l + y]? with
        | none => false
        | some oj => match oj.dst with
          | none => true
          | some d => (!(o.looksAt ops).contains d || ((Seg.ancs ops (l + x)).contains (l + y) && decide (y < x)) || ((Seg.ancs ops (l + y)).contains (l + x) && decide (x < y))) && (x == y || o.dst != some d)) &&
      (s.deps.all fun d => (Seg.ancs ops (l + x)).contains d) &&
      (match s with
       | .q _ => true
       | .al k => decide (l + S.length ≤ k) || (decide (l ≤ k) && (match S[k - l]? with | some (.st i _) => i == l + x | _ => false))
       | .st i _ => (Seg.ancs ops (l + x)).contains i && decide (l ≤ i) && (match S[i - l]? with | some (.al k) => k == l + x | _ => false)
       | .ef b pv => (match pv with | some p => (Seg.ancs ops (l + x)).contains p && decide (l ≤ p) && (match S[p - l]? with | some (.ef b' _) => b' == b | _ => false) | none => true) &&
          (List.range S.length).all fun y => (x == y) || match S[y]? with
            | some (.ef b' pv') => b' != b || ((match pv with | none => (Seg.ancs ops (l + y)).contains (l + x) | some p => pv' != some p) &&
                ((Seg.ancs ops (l + y)).contains (l + x) || (List.range S.length).any fun z => match S[z]? with | some (.ef b'' (some p')) => b'' == b && p' == l + y && (z == x || (Seg.ancs ops (l + x)).contains (l + z)) | _ => false))
            | _ => true)
    | _, _ => false) &&
  ((List.range ops.size).all fun i => decide (i < l + S.length) || (List.range S.length).all fun y => (Seg.ancs ops i).contains (l + y))

structure Seg.Fine (ops : Array Oper) (E : List Ent) (l : Nat) : Prop where
  nosel : Region.noSelect ops = true
  size : l + E.length ≤ ops.size
  back : ∀ k, k < l + E.length → ∀ j ∈ Seg.dir ops k, j < k
  apart : ∀ x o, x < E.length → ops[l + x]? = some o → ∀ y oj d, y < E.length → ops[l + y]? = some oj → oj.dst = some d →
    (d ∈ o.looksAt ops → (l + y ∈ Seg.ancs ops (l + x) ∧ y < x) ∨ (l + x ∈ Seg.ancs ops (l + y) ∧ x < y)) ∧ (x ≠ y → o.dst ≠ some d)
  deps : ∀ x e, E[x]? = some e → ∀ d ∈ e.sh.deps, d ∈ Seg.ancs ops (l + x)
  al : ∀ x z k, E[x]? = some (.al z k) → l + E.length ≤ k ∨ (l ≤ k ∧ ∃ s ds, E[k - l]? = some s ∧ s.sh = .st (l + x) ds)
  st : ∀ x e j ds, E[x]? = some e → e.sh = .st j ds → j ∈ Seg.ancs ops (l + x) ∧ l ≤ j ∧ ∃ z, E[j - l]? = some (.al z (l + x))
  rest : ∀ i, l + E.length ≤ i → i < ops.size → ∀ y, y < E.length → l + y ∈ Seg.ancs ops i
  ef : ∀ x b pv v o, E[x]? = some (.ef b pv v o) →
    (∀ p, pv = some p → p ∈ Seg.ancs ops (l + x) ∧ l ≤ p ∧ ∃ pv' v' o', E[p - l]? = some (.ef b pv' v' o')) ∧
    (∀ y pv' v' o', E[y]? = some (.ef b pv' v' o') → x ≠ y → (pv = none → l + x ∈ Seg.ancs ops (l + y)) ∧ (∀ p, pv = some p → pv' ≠ some p) ∧
      (l + x ∈ Seg.ancs ops (l + y) ∨ ∃ z v'' o'', E[z]? = some (.ef b (some (l + y)) v'' o'') ∧ (z = x ∨ l + z ∈ Seg.ancs ops (l + x))))

theorem Ent.al_of_sh {e : Ent} {k : Nat} (h : e.sh = .al k) : ∃ z, e = .al z k := by
  cases e <;> simp [Ent.sh] at h
  subst h; exact ⟨_, rfl⟩

theorem Seg.fine {ops : Array Oper} {E : List Ent} {S : List Sh} {l : Nat} (hS : E.map Ent.sh = S) (h : Seg.ok ops S l = true) : Seg.Fine ops E l := by
  subst hS
  simp only [Seg.ok, Bool.and_eq_true, decide_eq_true_eq, List.length_map, List.all_eq_true, List.mem_range] at h
  obtain ⟨⟨⟨⟨h1, h2⟩, h3⟩, h4⟩, h5⟩ := h
  have get : ∀ x e, E[x]? = some e → ∃ o, ops[l + x]? = some o ∧
      (∀ y, y < E.length → (match ops[l + y]? with
        | none => false
        | some oj => match oj.dst with
          | none => true
          | some d => (!(o.looksAt ops).contains d || ((Seg.ancs ops (l + x)).contains (l + y) && decide (y < x)) || ((Seg.ancs ops (l + y)).contains (l + x) && decide (x < y))) && (x == y || o.dst != some d)) = true) ∧
      (∀ d ∈ e.sh.deps, (Seg.ancs ops (l + x)).contains d = true) ∧
      (match e.sh with
       | .q _ => true
       | .al k => decide (l + E.length ≤ k) || (decide (l ≤ k) && (match (E.map Ent.sh)[k - l]? with | some (.st i _) => i == l + x | _ => false))
       | .st i _ => (Seg.ancs ops (l + x)).contains i && decide (l ≤ i) && (match (E.map Ent.sh)[i - l]? with | some (.al k) => k == l + x | _ => false)
       | .ef b pv => (match pv with | some p => (Seg.ancs ops (l + x)).contains p && decide (l ≤ p) && (match (E.map Ent.sh)[p - l]? with | some (.ef b' _) => b' == b | _ => false) | none => true) &&
          (List.range E.length).all fun y => (x == y) || match (E.map Ent.sh)[y]? with
            | some (.ef b' pv') => b' != b || ((match pv with | none => (Seg.ancs ops (l + y)).contains (l + x) | some p => pv' != some p) &&
                ((Seg.ancs ops (l + y)).contains (l + x) || (List.range E.length).any fun z => match (E.map Ent.sh)[z]? with | some (.ef b'' (some p')) => b'' == b && p' == l + y && (z == x || (Seg.ancs ops (l + x)).contains (l + z)) | _ => false))
            | _ => true) = true := by
    intro x e he
    have hx : x < E.length := by
      rcases Nat.lt_or_ge x E.length with hl | hl
      · exact hl
      · rw [List.getElem?_eq_none hl] at he; cases he
    have := h4 x hx
    rw [List.getElem?_map, he] at this
    cases ho : ops[l + x]? with
    | none => rw [ho] at this; simp at this
    | some o =>
      rw [ho] at this
      simp only [Option.map_some, Bool.and_eq_true, List.all_eq_true, List.mem_range] at this
      obtain ⟨⟨a1, a2⟩, a3⟩ := this
      exact ⟨o, rfl, a1, a2, a3⟩
  refine ⟨h1, h2, h3, ?_, ?_, ?_, ?_, ?_, ?_⟩
  · intro x o hx ho y oj d hy hoj hd
    obtain ⟨o', ho', g, -⟩ := get x E[x] (by simp [hx])
    rw [ho] at ho'; cases ho'
    have := g y hy
    simp only [hoj, hd, Bool.and_eq_true, Bool.or_eq_true, Bool.not_eq_true', List.contains_eq_mem, decide_eq_true_eq, decide_eq_false_iff_not, beq_iff_eq, bne_iff_ne, ne_eq] at this
    exact ⟨fun hm => this.1.elim (fun h => h.elim (fun h => (h hm).elim) .inl) .inr, fun hne => this.2.resolve_left hne⟩
  · intro x e he d hd
    obtain ⟨o, -, -, g, -⟩ := get x e he
    simpa using g d hd
  · intro x z k he
    obtain ⟨o, -, -, -, g⟩ := get x _ he
    simp only [Ent.sh, Bool.or_eq_true, decide_eq_true_eq, Bool.and_eq_true] at g
    refine g.imp id fun ⟨g1, g2⟩ => ⟨g1, ?_⟩
    rw [List.getElem?_map] at g2
    cases hs : E[k - l]? with
    | none => rw [hs] at g2; simp at g2
    | some s =>
      rw [hs] at g2
      cases hsh : s.sh with
      | st i ds => simp [hsh] at g2; subst g2; exact ⟨s, ds, rfl, hsh⟩
      | q ds => simp [hsh] at g2
      | al k => simp [hsh] at g2
      | ef b pv => simp [hsh] at g2
  · intro x e j ds he hsh
    obtain ⟨o, -, -, -, g⟩ := get x e he
    simp only [hsh, Bool.and_eq_true, decide_eq_true_eq] at g
    obtain ⟨⟨g1, g2⟩, g3⟩ := g
    refine ⟨by simpa using g1, g2, ?_⟩
    rw [List.getElem?_map] at g3
    cases hs : E[j - l]? with
    | none => rw [hs] at g3; simp at g3
    | some s =>
      rw [hs] at g3
      cases hsh : s.sh with
      | al k => simp [hsh] at g3; subst g3; obtain ⟨z, rfl⟩ := Ent.al_of_sh hsh; exact ⟨z, rfl⟩
      | q ds => simp [hsh] at g3
      | st i ds => simp [hsh] at g3
      | ef b pv => simp [hsh] at g3
  · intro i hi hn y hy
    have := h5 i hn
    simp only [Bool.or_eq_true, decide_eq_true_eq, List.all_eq_true, List.mem_range] at this
    rcases this with h | h
    · omega
    · simpa using h y hy
  · intro x b pv v o he
    obtain ⟨o1, -, -, -, g⟩ := get x _ he
    simp only [Ent.sh, Bool.and_eq_true, List.all_eq_true, List.mem_range] at g
    obtain ⟨g1, g2⟩ := g
    have sh_ef : ∀ {e : Ent} {b : Nat} {pv : Option Nat}, e.sh = .ef b pv → ∃ v o, e = .ef b pv v o := by
      intro e b pv h
      cases e <;> simp [Ent.sh] at h
      obtain ⟨rfl, rfl⟩ := h; exact ⟨_, _, rfl⟩
    refine ⟨fun p hp => ?_, fun y pv' v' o' hy hne => ?_⟩
    · subst hp
      simp only [Bool.and_eq_true, decide_eq_true_eq] at g1
      obtain ⟨⟨k1, k2⟩, k3⟩ := g1
      refine ⟨by simpa using k1, k2, ?_⟩
      rw [List.getElem?_map] at k3
      cases hs : E[p - l]? with
      | none => rw [hs] at k3; simp at k3
      | some s =>
        rw [hs] at k3
        cases hsh : s.sh with
        | ef b' pv' =>
          simp [hsh] at k3; subst k3
          obtain ⟨v', o', rfl⟩ := sh_ef hsh
          exact ⟨_, _, _, rfl⟩
        | q ds => simp [hsh] at k3
        | st i ds => simp [hsh] at k3
        | al k => simp [hsh] at k3
    · have hyl : y < E.length := by
        rcases Nat.lt_or_ge y E.length with hl | hl
        · exact hl
        · rw [List.getElem?_eq_none hl] at hy; cases hy
      have k := g2 y hyl
      rw [List.getElem?_map, hy] at k
      simp only [Option.map_some, Ent.sh, Bool.or_eq_true, beq_iff_eq, Bool.and_eq_true, bne_iff_ne, ne_eq, not_true_eq_false, false_or, hne] at k
      obtain ⟨k1, k2⟩ := k
      refine ⟨fun hp => ?_, fun p hp => ?_, ?_⟩
      · subst hp; simpa using k1
      · subst hp; simpa using k1
      · rcases k2 with k2 | k2
        · exact .inl (by simpa using k2)
        · right
          rw [List.any_eq_true] at k2
          obtain ⟨z, hz, k3⟩ := k2
          rw [List.getElem?_map] at k3
          cases hs : E[z]? with
          | none => rw [hs] at k3; simp at k3
          | some s =>
            rw [hs] at k3
            cases hsh : s.sh with
            | ef b' pv'' =>
              cases pv'' with
              | none => simp [hsh] at k3
              | some p' =>
                simp [hsh] at k3
                obtain ⟨⟨rfl, rfl⟩, k4⟩ := k3
                obtain ⟨v'', o'', rfl⟩ := sh_ef hsh
                exact ⟨z, v'', o'', hs, k4⟩
            | q ds => simp [hsh] at k3
            | st i ds => simp [hsh] at k3
            | al k => simp [hsh] at k3

def Seg.upd (th : Nat → Nat) (i p : Nat) : Nat → Nat := fun j => if j = i then p else th j
theorem Seg.upd_ne {th : Nat → Nat} {i p j : Nat} (h : j ≠ i) : Seg.upd th i p j = th j := by simp [Seg.upd, h]
theorem Seg.upd_eq (th : Nat → Nat) (i p : Nat) : Seg.upd th i p i = p := by simp [Seg.upd]

def Seg.cnt : Nat → (Nat → Bool) → Nat
  | 0, _ => 0
  | n + 1, f => Seg.cnt n f + (if f n then 0 else 1)
theorem Seg.cnt_congr {f g : Nat → Bool} : ∀ n, (∀ j, j < n → f j = g j) → Seg.cnt n f = Seg.cnt n g
  | 0, _ => rfl
  | n + 1, h => by unfold Seg.cnt; rw [Seg.cnt_congr n (fun j hj => h j (by omega)), h n (by omega)]
theorem Seg.cnt_set {f g : Nat → Bool} {i : Nat} (hi : f i = false) (hg : g i = true) (hne : ∀ j, j ≠ i → g j = f j) : ∀ n, i < n → Seg.cnt n f = Seg.cnt n g + 1
  | 0, h => by omega
  | n + 1, h => by
    unfold Seg.cnt
    by_cases hn : n = i
    · subst hn
      rw [hi, hg, Seg.cnt_congr n (fun j hj => (hne j (by omega)).symm)]
      simp
    · rw [Seg.cnt_set hi hg hne n (by omega), hne n hn]; omega
theorem Seg.cnt_zero {f : Nat → Bool} : ∀ n, Seg.cnt n f = 0 → ∀ j, j < n → f j = true
  | 0, _, j, hj => by omega
  | n + 1, h, j, hj => by
    unfold Seg.cnt at h
    by_cases hn : j = n
    · subst hn
      cases hfj : f j with
      | true => rfl
      | false => rw [hfj] at h; simp at h
    · exact Seg.cnt_zero n (by omega) j (by omega)
theorem Seg.cnt_pre (m : Nat) : ∀ n, Seg.cnt n (fun j => decide (j < m)) = n - m
  | 0 => by simp [Seg.cnt]
  | n + 1 => by
    unfold Seg.cnt
    rw [Seg.cnt_pre m n]
    by_cases h : n < m
    · simp [h]; omega
    · simp [h]; omega

/-- Those below m came. -/
def Seg.marks (n m : Nat) : Array Bool := ((List.range n).map fun j => decide (j < m)).toArray
theorem Seg.marks_get (n m j : Nat) (b : Bool) : (Seg.marks n m).getD j b = if j < n then decide (j < m) else b := by
  unfold Seg.marks
  by_cases h : j < n <;> simp [h]

section
variable {P : Program} {ops : Array Oper} {Q : Exit → Act → World → Prop} {E : List Ent} {X : List (Nat × Obj)} {l : Nat} {w : World} {a : Act}

/-- What a frame holds when the operations p came. -/
def Seg.agree (ops : Array Oper) (E : List Ent) (l : Nat) (a : Act) (p : Nat → Prop) (th : Nat → Nat) (b : Act) : Prop :=
  b.defers = a.defers ∧ b.tmps.size = a.tmps.size ∧
  (∀ x e d, E[x]? = some e → p (l + x) → (ops[l + x]?).bind (·.dst) = some d → d < a.tmps.size → b.tmps[d]? = some (e.val th (l + x))) ∧
  (∀ t, (∀ x, x < E.length → p (l + x) → (ops[l + x]?).bind (·.dst) ≠ some t) → b.tmps[t]? = a.tmps[t]?)

theorem Seg.lt_of_get {x : Nat} {e : Ent} (h : E[x]? = some e) : x < E.length := by
  rcases Nat.lt_or_ge x E.length with hl | hl
  · exact hl
  · rw [List.getElem?_eq_none hl] at h; cases h

theorem Seg.Fine.dst_ne (hf : Seg.Fine ops E l) {x y d : Nat} (hx : x < E.length) (hy : y < E.length) (hne : x ≠ y) (h : (ops[l + y]?).bind (·.dst) = some d) : (ops[l + x]?).bind (·.dst) ≠ some d := by
  have hs := hf.size
  have hox : ops[l + x]? = some ops[l + x] := by rw [Array.getElem?_eq_getElem (by omega)]
  have hoy : ops[l + y]? = some ops[l + y] := by rw [Array.getElem?_eq_getElem (by omega)]
  rw [hoy] at h
  rw [hox]
  exact (hf.apart x _ hx hox y _ d hy hoy h).2 hne

theorem Seg.agree_put (hf : Seg.Fine ops E l) {p q : Nat → Prop} {th : Nat → Nat} {b : Act} (h : Seg.agree ops E l a p th b) {x : Nat} {e : Ent} (he : E[x]? = some e) (hq : ∀ y, y < E.length → (q (l + y) ↔ (p (l + y) ∨ y = x))) :
    Seg.agree ops E l a q th (b.put ((ops[l + x]?).bind (·.dst)) (e.val th (l + x))) := by
  obtain ⟨h1, h2, h3, h4⟩ := h
  have hx := Seg.lt_of_get he
  cases hd : (ops[l + x]?).bind (·.dst) with
  | none =>
    refine ⟨h1, h2, ?_, ?_⟩
    · intro y e' d hy hqy hdy hlt
      rcases (hq y (Seg.lt_of_get hy)).1 hqy with hp | rfl
      · exact h3 y e' d hy hp hdy hlt
      · rw [hd] at hdy; cases hdy
    · intro t ht
      exact h4 t fun y hy hp => ht y hy ((hq y hy).2 (.inl hp))
  | some d0 =>
    refine ⟨h1, by simp [Act.put, h2], ?_, ?_⟩
    · intro y e' d hy hqy hdy hlt
      by_cases hyx : y = x
      · subst hyx
        rw [he] at hy; cases hy
        rw [hd] at hdy; cases hdy
        simp only [Act.put]
        rw [Array.getElem?_setIfInBounds_self, if_pos (h2 ▸ hlt)]
      · have hp := ((hq y (Seg.lt_of_get hy)).1 hqy).resolve_right hyx
        have hne : d0 ≠ d := by
          intro hdd; subst hdd
          exact hf.dst_ne (Seg.lt_of_get hy) hx hyx hd hdy
        simp only [Act.put]
        rw [Array.getElem?_setIfInBounds_ne hne]
        exact h3 y e' d hy hp hdy hlt
    · intro t ht
      have hne : d0 ≠ t := fun hdt => ht x hx ((hq x hx).2 (.inr rfl)) (hdt ▸ hd)
      simp only [Act.put]
      rw [Array.getElem?_setIfInBounds_ne hne]
      exact h4 t fun y hy hp => ht y hy ((hq y hy).2 (.inl hp))

theorem Seg.agree_th {p : Nat → Prop} {th th' : Nat → Nat} {b : Act} (h : Seg.agree ops E l a p th b) (hv : ∀ x e, E[x]? = some e → p (l + x) → e.val th (l + x) = e.val th' (l + x)) : Seg.agree ops E l a p th' b :=
  ⟨h.1, h.2.1, fun x e d he hp hd hlt => by rw [h.2.2.1 x e d he hp hd hlt, hv x e he hp], h.2.2.2⟩

theorem Seg.agree_slot {p q : Nat → Prop} {th th' : Nat → Nat} {b b' : Act} (h : Seg.agree ops E l a p th b) (h' : Seg.agree ops E l a q th' b') (hv : ∀ x e, E[x]? = some e → p (l + x) → q (l + x) → e.val th (l + x) = e.val th' (l + x))
    (t : Nat) (ht : ∀ x, x < E.length → (ops[l + x]?).bind (·.dst) = some t → (p (l + x) ∧ q (l + x)) ∨ ((¬ p (l + x) ∧ ¬ q (l + x)) ∧ ∀ y, y < E.length → y ≠ x → (ops[l + y]?).bind (·.dst) ≠ some t)) : b.tmps[t]? = b'.tmps[t]? := by
  by_cases hlt : t < a.tmps.size
  · by_cases hx : ∃ x, x < E.length ∧ (ops[l + x]?).bind (·.dst) = some t
    · obtain ⟨x, hx, hd⟩ := hx
      rcases ht x hx hd with ⟨hp, hq⟩ | ⟨⟨hp, hq⟩, hne⟩
      case inr =>
        rw [h.2.2.2 t (fun y hy hpy => if hyx : y = x then (hp (hyx ▸ hpy)).elim else hne y hy hyx), h'.2.2.2 t (fun y hy hqy => if hyx : y = x then (hq (hyx ▸ hqy)).elim else hne y hy hyx)]
      have he : E[x]? = some E[x] := by simp [hx]
      rw [h.2.2.1 x _ t he hp hd hlt, h'.2.2.1 x _ t he hq hd hlt, hv x _ he hp hq]
    · have hno : ∀ x, x < E.length → (ops[l + x]?).bind (·.dst) ≠ some t := fun x hl hd => hx ⟨x, hl, hd⟩
      rw [h.2.2.2 t (fun x hl _ => hno x hl), h'.2.2.2 t (fun x hl _ => hno x hl)]
  · have h2 := h.2.1; have h2' := h'.2.1
    rw [Array.getElem?_eq_none (by omega), Array.getElem?_eq_none (by omega)]

theorem Seg.agree_unique {p q : Nat → Prop} {th th' : Nat → Nat} {b b' : Act} (h : Seg.agree ops E l a p th b) (h' : Seg.agree ops E l a q th' b') (hv : ∀ (x : Nat) (e : Ent), E[x]? = some e → e.val th (l + x) = e.val th' (l + x))
    (hp : ∀ x, x < E.length → p (l + x)) (hq : ∀ x, x < E.length → q (l + x)) : b = b' := by
  have ht : b.tmps = b'.tmps := Array.ext' (List.ext_getElem? fun t => by
    have := Seg.agree_slot h h' (fun x e he _ _ => hv x e he) t (fun x hx _ => .inl ⟨hp x hx, hq x hx⟩)
    simpa using this)
  have hd : b.defers = b'.defers := h.1.trans h'.1.symm
  cases b; cases b'; simp_all

theorem Seg.same {o : Oper} {b b' : Act} (hs : ∀ cs bl, o.op ≠ .select cs bl) (h : ∀ t ∈ o.looksAt ops, b.tmps[t]? = b'.tmps[t]?) :
    execOp b.eval o = execOp b'.eval o ∧ Region.wanted o (yielded ops b.tmps) = Region.wanted o (yielded ops b'.tmps) := by
  constructor
  · refine execOp_congr o hs fun x hx => ?_
    cases x with
    | tmp t =>
      have := h t (List.mem_append_left _ (List.mem_filterMap.2 ⟨.tmp t, by simpa using hx, rfl⟩))
      simp [Act.eval, this]
    | _ => rfl
  · unfold Region.wanted
    cases hg : o.guard with
    | none => rfl
    | some gw =>
      obtain ⟨g, want⟩ := gw
      have hy : yielded ops b.tmps g = yielded ops b'.tmps g := by
        unfold yielded
        cases ht : (ops[g]?).bind (·.dst) with
        | none => rfl
        | some t =>
          have := h t (by simp [Oper.looksAt, hg, ht])
          simp [this]
      simp only [hy]

theorem Seg.upon {o : Oper} {R : Value → World → Prop} {K : Act → World → Prop} {b : Act} {r : Result Next} (h : vp P R r) (hk : ∀ v w', R v w' → K (b.put o.dst v) w') : o.upon P b K Q r := by
  cases r with
  | ok n w' =>
    cases n <;> simp only [vp, Oper.upon] at h ⊢ <;> first | exact h.elim | exact hk _ _ h | skip
    exact Calls.mono h fun e w'' ⟨v, he, hv⟩ => by subst he; exact hk _ _ hv
  | halt x w' => exact h.elim

theorem KeepX.after {w U U' : World} (h : KeepX X w U) (hU : After U U') : KeepX X w U' :=
  ⟨hU.os.trans h.os, hU.tape.trans h.tape, hU.output.trans h.output, Nat.le_trans h.size hU.size, fun k hk hn => by
    rw [hU.block k (Nat.lt_of_lt_of_le hk h.size)]; exact h.block k hk hn⟩

/-- What the old blocks of X hold when those listed came. -/
def Seg.memX (E : List Ent) (X : List (Nat × Obj)) (l : Nat) (L : Nat → Bool) (U : World) : Prop :=
  ∀ (b g : Nat) (o0 : Obj), X[b]? = some (g, o0) →
    ((∀ (x : Nat) pv v o, E[x]? = some (Ent.ef b pv v o) → L (l + x) = false) → U.heap[g]? = some o0) ∧
    (∀ (x : Nat) pv v o, E[x]? = some (Ent.ef b pv v o) → L (l + x) = true → (∀ (y : Nat) v' o', E[y]? = some (Ent.ef b (some (l + x)) v' o') → L (l + y) = false) → U.heap[g]? = some o)
theorem Seg.memX_same {L L' : Nat → Bool} {U U' : World} (h : Seg.memX E X l L U) (hb : ∀ (b g : Nat) (o0 : Obj), X[b]? = some (g, o0) → U'.heap[g]? = U.heap[g]?) (hL : ∀ (x : Nat) b pv v o, E[x]? = some (Ent.ef b pv v o) → L' (l + x) = L (l + x)) : Seg.memX E X l L' U' := by
  intro b g o0 hx
  obtain ⟨h1, h2⟩ := h b g o0 hx
  rw [hb b g o0 hx]
  refine ⟨fun hn => h1 fun x pv v o he => by rw [← hL x b pv v o he]; exact hn x pv v o he, fun x pv v o he hl hn => h2 x pv v o he (by rw [← hL x b pv v o he]; exact hl) fun y v' o' hy => by rw [← hL y b _ v' o' hy]; exact hn y v' o' hy⟩

/-- What is known of the world when those listed came. -/
def Seg.mem (E : List Ent) (X : List (Nat × Obj)) (l : Nat) (w : World) (L : Nat → Bool) (th : Nat → Nat) (U : World) : Prop :=
  KeepX X w U ∧
  (∀ x z k, E[x]? = some (.al z k) → L (l + x) = true → w.heap.size ≤ th (l + x) ∧ th (l + x) < U.heap.size ∧
    (L k = true → ∀ s, l ≤ k → E[k - l]? = some s → U.heap[th (l + x)]? = some (s.obj th)) ∧ (L k = false → U.heap[th (l + x)]? = some z.2)) ∧
  (∀ x y z k z' k', E[x]? = some (.al z k) → E[y]? = some (.al z' k') → L (l + x) = true → L (l + y) = true → x ≠ y → th (l + x) ≠ th (l + y)) ∧
  Seg.memX E X l L U

theorem Seg.steps_mono {th : Nat → Nat} {R R' : Act → Prop} (hR : ∀ a, R a → R' a) : ∀ (E' : List Ent) (i : Nat) (b : Act), Seg.steps P ops E X l w th R E' i b → Seg.steps P ops E X l w th R' E' i b
  | [], _, b, h => hR b h
  | e :: E', i, b, h => ⟨h.1, Seg.steps_mono hR E' (i + 1) _ h.2⟩
theorem Seg.steps_get {th : Nat → Nat} {R : Act → Prop} (p0 : Nat → Prop) (hf : Seg.Fine ops E l) : ∀ (E' : List Ent) (x : Nat) (b : Act), (∀ y, E'[y]? = E[x + y]?) → Seg.agree ops E l a (fun j => j < l + x) th b → x + E'.length = E.length →
    Seg.steps P ops E X l w th R E' (l + x) b →
    (∀ y e, x ≤ y → E[y]? = some e → ∃ o b', ops[l + y]? = some o ∧ Seg.agree ops E l a (fun j => j < l + y) th b' ∧ Seg.tell P ops E X l w th (l + y) o b' e) ∧
    ∃ b', Seg.agree ops E l a (fun j => j < l + E.length) th b' ∧ R b'
  | [], x, b, hE, hag, hlen, h => by
    have hx : x = E.length := by simpa using hlen
    subst hx
    refine ⟨fun y e hy he => ?_, b, hag, h⟩
    have := Seg.lt_of_get he
    omega
  | e :: E', x, b, hE, hag, hlen, h => by
    obtain ⟨⟨o, ho, ht⟩, h2⟩ := h
    have he : E[x]? = some e := by have := hE 0; simpa using this.symm
    have hag' : Seg.agree ops E l a (fun j => j < l + (x + 1)) th (b.put ((ops[l + x]?).bind (·.dst)) (e.val th (l + x))) :=
      Seg.agree_put hf hag he (fun y _ => by omega)
    have ih := Seg.steps_get p0 hf E' (x + 1) _ (fun y => by have := hE (y + 1); rw [List.getElem?_cons_succ] at this; rw [this]; congr 1; omega) hag' (by simp at hlen; omega) h2
    refine ⟨fun y e' hy he' => ?_, ih.2⟩
    by_cases hyx : y = x
    · subst hyx
      rw [he] at he'; cases he'
      exact ⟨o, b, ho, hag, ht⟩
    · exact ih.1 y e' (by omega) he'

/-- A block's number, also where it is not there yet. -/
def Seg.full (L : Nat → Bool) (th : Nat → Nat) (B : Nat) : Nat → Nat := fun j => if L j = true then th j else B + j

theorem Seg.main (hf : Seg.Fine ops E l) {Rest : Act → World → Prop} (hXw : ∀ (b g : Nat) (o : Obj), X[b]? = some (g, o) → g < w.heap.size) (hXd : ∀ (b b' g : Nat) (o o' : Obj), X[b]? = some (g, o) → X[b']? = some (g, o') → b = b') (hXe : ∀ (x b : Nat) pv v o, E[x]? = some (Ent.ef b pv v o) → ∃ g o0, X[b]? = some (g, o0))
    (H : ∀ th : Nat → Nat, (∀ x z k, E[x]? = some (.al z k) → w.heap.size ≤ th (l + x)) → (∀ x y z k z' k', E[x]? = some (.al z k) → E[y]? = some (.al z' k') → x ≠ y → th (l + x) ≠ th (l + y)) →
      Seg.steps P ops E X l w th (fun a' => ∀ U, Seg.base X w U → Seg.known E l th (fun _ => True) U → Seg.endX E X l U → Rest a' U) E l a)
    (hrest : ∀ a' U, Rest a' U → wpAny P .any ops Q (ops.size - (l + E.length)) (Seg.marks ops.size (l + E.length)) a' U) :
    ∀ (fuel : Nat) (L : Array Bool) (th : Nat → Nat) (b : Act) (U : World), L.size = ops.size → (∀ j, j < l → L.getD j false = true) → (∀ j, l + E.length ≤ j → L.getD j false = false) →
      (∀ k, L.getD k false = true → ∀ j ∈ Seg.dir ops k, L.getD j false = true) → Seg.agree ops E l a (fun j => L.getD j false = true) th b → Seg.mem E X l w (fun j => L.getD j false) th U →
      fuel = Seg.cnt ops.size (fun j => L.getD j false) → wpAny P .any ops Q fuel L b U := by
  have hsz := hf.size
  have good : ∀ (L : Array Bool) (th : Nat → Nat) (U : World), Seg.mem E X l w (fun j => L.getD j false) th U →
      Seg.steps P ops E X l w (Seg.full (fun j => L.getD j false) th U.heap.size) (fun a' => ∀ V, Seg.base X w V → Seg.known E l (Seg.full (fun j => L.getD j false) th U.heap.size) (fun _ => True) V → Seg.endX E X l V → Rest a' V) E l a := by
    intro L th U hm
    have hwU := hm.1.size
    refine H _ ?_ ?_
    · intro x z k he
      unfold Seg.full
      split
      · rename_i hl; exact (hm.2.1 x z k he hl).1
      · omega
    · intro x y z k z' k' hx hy hne
      unfold Seg.full
      split <;> split <;> rename_i h1 h2
      · exact hm.2.2.1 x y z k z' k' hx hy h1 h2 hne
      · have := (hm.2.1 x z k hx h1).2.1; omega
      · have := (hm.2.1 y z' k' hy h2).2.1; omega
      · omega
  have start : ∀ th, Seg.agree ops E l a (fun j => j < l + 0) th a := fun th =>
    ⟨rfl, rfl, fun x e d _ hp => by omega, fun _ _ => rfl⟩
  have ancL : ∀ (L : Array Bool), (∀ k, L.getD k false = true → ∀ j ∈ Seg.dir ops k, L.getD j false = true) → ∀ i, (∀ j ∈ Seg.dir ops i, L.getD j false = true) → ∀ j ∈ Seg.ancs ops i, L.getD j false = true := by
    intro L hcl i hd
    exact Seg.anc_sound (p := fun j => L.getD j false = true) hcl i _ hd
  have valeq : ∀ (L : Array Bool) (th : Nat → Nat) (B : Nat), (∀ k, L.getD k false = true → ∀ j ∈ Seg.dir ops k, L.getD j false = true) → ∀ x e, E[x]? = some e → (∀ j ∈ Seg.dir ops (l + x), L.getD j false = true) → (e.sh.own = true → L.getD (l + x) false = true) →
      e.val th (l + x) = e.val (Seg.full (fun j => L.getD j false) th B) (l + x) := by
    intro L th B hcl x e he hd ho
    refine Ent.val_congr (fun d hdd => ?_) (fun hown => ?_)
    · have := ancL L hcl _ hd d (hf.deps x e he d hdd)
      simp only [Seg.full, this, if_true]
    · simp only [Seg.full, ho hown, if_true]
  have objeq : ∀ (L : Array Bool) (th : Nat → Nat) (B : Nat), (∀ k, L.getD k false = true → ∀ j ∈ Seg.dir ops k, L.getD j false = true) → ∀ x e, E[x]? = some e → (∀ j ∈ Seg.dir ops (l + x), L.getD j false = true) →
      e.obj th = e.obj (Seg.full (fun j => L.getD j false) th B) := by
    intro L th B hcl x e he hd
    refine Ent.obj_congr (fun d hdd => ?_)
    have := ancL L hcl _ hd d (hf.deps x e he d hdd)
    simp only [Seg.full, this, if_true]
  have knownOf : ∀ (L : Array Bool) (th : Nat → Nat) (U : World) (t : Nat → Prop), (∀ k, L.getD k false = true → ∀ j ∈ Seg.dir ops k, L.getD j false = true) → (∀ j, l + E.length ≤ j → L.getD j false = false) → Seg.mem E X l w (fun j => L.getD j false) th U →
      (∀ j, j < l + E.length → t j → L.getD j false = true) → Seg.known E l (Seg.full (fun j => L.getD j false) th U.heap.size) t U := by
    intro L th U t hcl hhi hm ht x z k he hx
    have hxl := Seg.lt_of_get he
    have hLx := ht _ (by omega) hx
    obtain ⟨m1, m2, m3, m4⟩ := hm.2.1 x z k he hLx
    have hfx : Seg.full (fun j => L.getD j false) th U.heap.size (l + x) = th (l + x) := by simp only [Seg.full, hLx, if_true]
    rw [hfx]
    refine ⟨⟨fun hk s hlk hs => ?_, fun hk => m4 (hhi k hk)⟩, m2⟩
    have hkl := Seg.lt_of_get hs
    have hLk := ht k (by omega) hk
    have e1 := objeq L th U.heap.size hcl (k - l) s hs (by rw [show l + (k - l) = k from by omega]; exact hcl k hLk)
    rw [← e1]
    exact m3 hLk s hlk hs
  have fin : ∀ (n : Nat) (L : Array Bool) (th : Nat → Nat) (b : Act) (U : World), L.size = ops.size → (∀ j, j < l → L.getD j false = true) → (∀ j, l + E.length ≤ j → L.getD j false = false) →
      (∀ k, L.getD k false = true → ∀ j ∈ Seg.dir ops k, L.getD j false = true) → Seg.agree ops E l a (fun j => L.getD j false = true) th b → Seg.mem E X l w (fun j => L.getD j false) th U →
      n = Seg.cnt ops.size (fun j => L.getD j false) → (∀ j, l ≤ j → j < l + E.length → L.getD j false = true) → wpAny P .any ops Q n L b U := by
    intro n L th b U hs hlo hhi hcl hag hm hc hall
    have hL : ∀ j, L.getD j false = decide (j < l + E.length) := by
      intro j
      rcases Nat.lt_or_ge j l with h1 | h1
      · rw [hlo j h1]; symm; simp; omega
      · rcases Nat.lt_or_ge j (l + E.length) with h2 | h2
        · rw [hall j h1 h2]; symm; simpa using h2
        · rw [hhi j h2]; symm; simp; omega
    have hmk : L = Seg.marks ops.size (l + E.length) := by
      refine Array.ext (by simp [Seg.marks, hs]) fun j h1 h2 => ?_
      have g1 := hL j
      have g2 := Seg.marks_get ops.size (l + E.length) j false
      rw [if_pos (by omega)] at g2
      rw [← g2] at g1
      simpa [h1, h2] using g1
    have hn : n = ops.size - (l + E.length) := by
      rw [hc, Seg.cnt_congr (g := fun j => decide (j < l + E.length)) _ (fun j _ => hL j), Seg.cnt_pre]
    rw [hn, hmk]
    obtain ⟨-, b', hb', hR⟩ := Seg.steps_get (fun _ => True) hf E 0 a (fun y => by simp) (start _) (by simp) (good L th U hm)
    have hbb : b = b' := by
      refine Seg.agree_unique hag hb' (fun x e he => ?_) (fun x hx => hall _ (by omega) (by omega)) (fun x hx => by omega)
      have hxl := Seg.lt_of_get he
      have hLx := hall (l + x) (by omega) (by omega)
      exact valeq L th _ hcl x e he (hcl _ hLx) (fun _ => hLx)
    rw [hbb]
    refine hrest _ _ (hR U (Seg.base_iff.2 hm.1) (knownOf L th U _ hcl hhi hm fun j hj _ => ?_) fun b g o0 hx => ?_)
    · rw [hL]; simpa using hj
    · obtain ⟨x1, x2⟩ := hm.2.2.2 b g o0 hx
      refine ⟨fun hn => x1 fun x pv v o he => (hn x pv v o he).elim, fun x pv v o he hn => x2 x pv v o he ?_ fun y v' o' hy => (hn y v' o' hy).elim⟩
      have := Seg.lt_of_get he
      exact hall _ (by omega) (by omega)
  intro fuel
  induction fuel with
  | zero =>
    intro L th b U hs hlo hhi hcl hag hm hc
    refine fin 0 L th b U hs hlo hhi hcl hag hm hc fun j h1 h2 => ?_
    exact Seg.cnt_zero ops.size hc.symm j (by omega)
  | succ fuel ih =>
    intro L th b U hs hlo hhi hcl hag hm hc
    by_cases hall : ∀ j, l ≤ j → j < l + E.length → L.getD j false = true
    · exact fin _ L th b U hs hlo hhi hcl hag hm hc hall
    have gd : ∀ j, j < ops.size → L.getD j true = L.getD j false := fun j hj => by
      have : j < L.size := by omega
      simp [this]
    refine ⟨fun hr => (hall ?_).elim, fun i hi => ?_⟩
    · have key : ∀ n j, j < n → j < l + E.length → L.getD j false = true := by
        intro n
        induction n with
        | zero => intro j hj; omega
        | succ n ihn =>
          intro j hj hjm
          by_cases hjn : j < n
          · exact ihn j hjn hjm
          · cases hLj : L.getD j false with
            | true => rfl
            | false =>
              have hjo : j < ops.size := by omega
              have hin : j ∈ Region.ready .any ops L := by
                rw [mem_ready]
                refine ⟨by rw [gd j hjo]; exact hLj, ops[j], by simp [hjo], fun e he hb => ?_⟩
                have hd : e.on ∈ Seg.dir ops j := by
                  unfold Seg.dir
                  rw [Array.getElem?_eq_getElem hjo]
                  exact List.mem_map.2 ⟨e, List.mem_filter.2 ⟨by simpa using he, hb⟩, rfl⟩
                have hlt := hf.back j hjm _ hd
                exact ihn e.on (by omega) (by omega)
              rw [hr] at hin; cases hin
      exact fun j _ hj => key (j + 1) j (by omega) hj
    · obtain ⟨hun, o, ho, haft⟩ := mem_ready.1 hi
      have hio : i < ops.size := by
        rcases Nat.lt_or_ge i ops.size with hl | hl
        · exact hl
        · rw [Array.getElem?_eq_none hl] at ho; cases ho
      have hLi : L.getD i false = false := by rw [← gd i hio]; exact hun
      have hdir : ∀ j ∈ Seg.dir ops i, L.getD j false = true := by
        intro j hj
        unfold Seg.dir at hj
        rw [ho] at hj
        obtain ⟨e, he, rfl⟩ := List.mem_map.1 hj
        obtain ⟨he, hb⟩ := List.mem_filter.1 he
        exact haft e (by simpa using he) hb
      have hanc := ancL L hcl i hdir
      have hil : l ≤ i := by
        rcases Nat.lt_or_ge i l with h | h
        · rw [hlo i h] at hLi; cases hLi
        · exact h
      have him : i < l + E.length := by
        rcases Nat.lt_or_ge i (l + E.length) with h | h
        · exact h
        · exact (hall fun j h1 h2 => by
            have := hf.rest i h hio (j - l) (by omega)
            rw [show l + (j - l) = j from by omega] at this
            exact hanc j this).elim
      obtain ⟨x, rfl⟩ : ∃ x, i = l + x := ⟨i - l, by omega⟩
      have hx : x < E.length := by omega
      obtain ⟨e, he⟩ : ∃ e, E[x]? = some e := ⟨E[x], by simp [hx]⟩
      obtain ⟨o', b', ho', hb', ht⟩ := (Seg.steps_get (fun _ => True) hf E 0 a (fun y => by simp) (start _) (by simp) (good L th U hm)).1 x e (Nat.zero_le _) he
      rw [ho] at ho'; cases ho'
      have hlook : ∀ t ∈ o.looksAt ops, b.tmps[t]? = b'.tmps[t]? := by
        intro t htl
        refine Seg.agree_slot hag hb' (fun y e' he' hp hq => valeq L th _ hcl y e' he' (hcl _ hp) (fun _ => hp)) t fun y hy hd => ?_
        have hoy : ops[l + y]? = some ops[l + y] := by rw [Array.getElem?_eq_getElem (by omega)]
        rw [hoy] at hd
        rcases (hf.apart x o hx ho y _ t hy hoy hd).1 htl with this | this
        · exact .inl ⟨hanc _ this.1, by omega⟩
        · refine .inr ⟨⟨fun hLy => ?_, by omega⟩, fun y' hy' hne' => hf.dst_ne hy' hy hne' (by rw [hoy]; exact hd)⟩
          have := ancL L hcl _ (hcl _ hLy) _ this.1
          rw [hLi] at this; cases this
      obtain ⟨hex, hwt⟩ := Seg.same (Region.noSelect_spec hf.nosel (l + x) o · · ho) hlook
      have hdst : (ops[l + x]?).bind (·.dst) = o.dst := by rw [ho]; rfl
      have hL' : ∀ j, (L.setIfInBounds (l + x) true).getD j false = (if j = l + x then true else L.getD j false) := by
        intro j
        by_cases hj : j = l + x
        · subst hj
          rw [if_pos rfl, Array.getD_eq_getD_getElem?, Array.getElem?_setIfInBounds_self, if_pos (by omega)]; rfl
        · rw [if_neg hj, getD_set_ne false (Ne.symm hj)]
      have hnext : ∀ th' v U', Seg.agree ops E l a (fun j => L.getD j false = true) th' b → v = e.val th' (l + x) → Seg.mem E X l w (fun j => (L.setIfInBounds (l + x) true).getD j false) th' U' →
          wpAny P .any ops Q fuel (L.setIfInBounds (l + x) true) (b.put o.dst v) U' := by
        intro th' v U' hag' hv hm'
        subst hv
        refine ih _ th' _ U' (by simp [hs]) (fun j hj => ?_) (fun j hj => ?_) (fun k hk j hj => ?_) ?_ hm' ?_
        · rw [hL', if_neg (by omega)]; exact hlo j hj
        · rw [hL', if_neg (by omega)]; exact hhi j hj
        · rw [hL']
          by_cases hjx : j = l + x
          · rw [if_pos hjx]
          · rw [if_neg hjx]
            rw [hL'] at hk
            by_cases hkx : k = l + x
            · subst hkx; exact hdir j hj
            · rw [if_neg hkx] at hk; exact hcl k hk j hj
        · rw [← hdst]
          refine Seg.agree_put hf hag' he fun y _ => ?_
          rw [hL']
          by_cases hyx : y = x
          · subst hyx; simp
          · rw [if_neg (by omega)]; simp [hyx]
        · have := Seg.cnt_set (f := fun j => L.getD j false) (g := fun j => (L.setIfInBounds (l + x) true).getD j false) hLi (by simp only [hL', if_true]) (fun j hj => by simp only [hL', if_neg hj]) ops.size hio
          omega
      have hctx : Seg.ctx ops E X l w (Seg.full (fun j => L.getD j false) th U.heap.size) (l + x) U :=
        ⟨Seg.base_iff.2 hm.1, knownOf L th U _ hcl hhi hm fun j _ hj => hanc j hj, fun b g o0 hx => by
          obtain ⟨x1, x2⟩ := hm.2.2.2 b g o0 hx
          have no : ∀ (y : Nat) (e' : Ent), E[y]? = some e' → l + x ∈ Seg.ancs ops (l + y) → L.getD (l + y) false = false := by
            intro y e' hy hin
            cases hLy : L.getD (l + y) false with
            | false => rfl
            | true =>
              have := ancL L hcl _ (hcl _ hLy) _ hin
              rw [hLi] at this; cases this
          exact ⟨fun hn => x1 fun y pv v o hy => no y _ hy (hn y pv v o hy), fun y pv v o hy hin hn => x2 y pv v o hy (hanc _ hin) fun z v' o' hz => no z _ hz (hn z v' o' hz)⟩⟩
      have hgs : ∀ (b g : Nat) (o0 : Obj), X[b]? = some (g, o0) → g < U.heap.size := fun b g o0 hx => Nat.lt_of_lt_of_le (hXw b g o0 hx) hm.1.size
      -- a world in which nothing that was there changed
      have memAfter : ∀ U', After U U' → e.sh.own = false → (∀ j ds, e.sh ≠ .st j ds) → (∀ b pv, e.sh ≠ .ef b pv) → Seg.mem E X l w (fun j => (L.setIfInBounds (l + x) true).getD j false) th U' := by
        intro U' hU hown hnst hnef
        have hne : ∀ y z k, E[y]? = some (.al z k) → y ≠ x := by
          intro y z k hy hyx; subst hyx; rw [he] at hy; cases hy; simp [Ent.sh, Sh.own] at hown
        refine ⟨hm.1.after hU, fun y z k hy hl => ?_, fun y y' z k z' k' hy hy' hl hl' hneq => ?_, Seg.memX_same hm.2.2.2 (fun b g o0 hx => hU.block g (hgs b g o0 hx)) fun y b pv v o hy => ?_⟩
        case refine_3 =>
          have hyx : y ≠ x := by intro h; subst h; rw [he] at hy; cases hy; exact hnef _ _ rfl
          simp only [hL', if_neg (show ¬ l + y = l + x from by omega)]
        · have hyx := hne y z k hy
          simp only [hL', if_neg (show ¬ l + y = l + x from by omega)] at hl
          obtain ⟨m1, m2, m3, m4⟩ := hm.2.1 y z k hy hl
          have hk : k ≠ l + x := by
            intro hk
            rcases hf.al y z k hy with h | ⟨h, s, ds, hs', hsh⟩
            · omega
            · rw [hk, show l + x - l = x from by omega, he] at hs'
              cases hs'; exact hnst _ _ hsh
          refine ⟨m1, Nat.lt_of_lt_of_le m2 hU.size, ?_, ?_⟩
          · simp only [hL', if_neg hk]
            intro hk2 s hlk hs'; rw [hU.block _ m2]; exact m3 hk2 s hlk hs'
          · simp only [hL', if_neg hk]
            intro hk2; rw [hU.block _ m2]; exact m4 hk2
        · have hyx := hne y z k hy
          have hyx' := hne y' z' k' hy'
          simp only [hL', if_neg (show ¬ l + y = l + x from by omega)] at hl
          simp only [hL', if_neg (show ¬ l + y' = l + x from by omega)] at hl'
          exact hm.2.2.1 y y' z k z' k' hy hy' hl hl' hneq
      have quiet : e.sh.own = false → (∀ j ds, e.sh ≠ .st j ds) → (∀ b pv, e.sh ≠ .ef b pv) →
          ((Region.wanted o (yielded ops b'.tmps) = true ∧ ∀ V, Seg.ctx ops E X l w (Seg.full (fun j => L.getD j false) th U.heap.size) (l + x) V → vp P (fun v U' => v = e.val (Seg.full (fun j => L.getD j false) th U.heap.size) (l + x) ∧ After V U') ((execOp b'.eval o).run P V)) ∨
          (Region.wanted o (yielded ops b'.tmps) = false ∧ e.val (Seg.full (fun j => L.getD j false) th U.heap.size) (l + x) = undef)) → wpOp P ops Q (l + x) (wpAny P .any ops Q fuel (L.setIfInBounds (l + x) true)) b U := by
        intro hown hnst hnef h
        have hveq := valeq L th U.heap.size hcl x e he hdir (fun h => by rw [hown] at h; cases h)
        unfold wpOp
        simp only [ho]
        rw [hwt]
        rcases h with ⟨h1, h2⟩ | ⟨h1, h2⟩
        · rw [if_pos h1]
          refine .inl ?_
          unfold Oper.wp
          rw [hex]
          refine Seg.upon (h2 U hctx) fun v U' ⟨hv, hU⟩ => ?_
          exact hnext th v U' hag (hv.trans hveq.symm) (memAfter U' hU hown hnst hnef)
        · rw [h1]
          simp only [Bool.false_eq_true, if_false]
          exact hnext th undef U hag (h2.symm.trans hveq.symm) (memAfter U (After.refl U) hown hnst hnef)
      have store : ∀ j0 ds, e.sh = .st j0 ds → (∀ th, e.val th (l + x) = undef) →
          (Region.wanted o (yielded ops b'.tmps) = true ∧ ∀ V z k, E[j0 - l]? = some (.al z k) → Seg.ctx ops E X l w (Seg.full (fun j => L.getD j false) th U.heap.size) (l + x) V → V.heap[Seg.full (fun j => L.getD j false) th U.heap.size j0]? = some z.2 →
            vp P (fun v U' => v = undef ∧ Only (Seg.full (fun j => L.getD j false) th U.heap.size j0) V U' ∧ U'.heap[Seg.full (fun j => L.getD j false) th U.heap.size j0]? = some (e.obj (Seg.full (fun j => L.getD j false) th U.heap.size))) ((execOp b'.eval o).run P V)) →
          wpOp P ops Q (l + x) (wpAny P .any ops Q fuel (L.setIfInBounds (l + x) true)) b U := by
        intro j0 ds hsh hval ⟨h1, h2⟩
        obtain ⟨hj0, hlj0, z, hz⟩ := hf.st x e j0 ds he hsh
        have hj0m := Seg.lt_of_get hz
        have hLj0 := hanc j0 hj0
        have hlj : l + (j0 - l) = j0 := by omega
        have hfj : Seg.full (fun j => L.getD j false) th U.heap.size j0 = th j0 := by simp only [Seg.full, hLj0, if_true]
        have hob := objeq L th U.heap.size hcl x e he hdir
        obtain ⟨m1, m2, m3, m4⟩ := hm.2.1 (j0 - l) z (l + x) hz (by rw [hlj]; exact hLj0)
        rw [hlj] at m1 m2 m3 m4
        rw [hfj, ← hob] at h2
        unfold wpOp
        simp only [ho]
        rw [hwt, if_pos h1]
        refine .inl ?_
        unfold Oper.wp
        rw [hex]
        refine Seg.upon (h2 U z (l + x) hz hctx (m4 hLi)) fun v U' ⟨hv, hO, hU'⟩ => ?_
        refine hnext th v U' hag (hv.trans (hval _).symm) ⟨⟨hO.os.trans hm.1.os, hO.tape.trans hm.1.tape, hO.output.trans hm.1.output, by rw [hO.size]; exact hm.1.size, fun k hk hn => by rw [hO.block k (by omega)]; exact hm.1.block k hk hn⟩, fun y z' k hy hl => ?_, fun y y' z1 k z' k' hy hy' hl hl' hneq => ?_, Seg.memX_same hm.2.2.2 (fun b g o0 hx => hO.block g (by have := hXw b g o0 hx; omega)) fun y b pv v o hy => ?_⟩
        case refine_3 =>
          have hyx : y ≠ x := by intro h; subst h; rw [he] at hy; cases hy; cases hsh
          simp only [hL', if_neg (show ¬ l + y = l + x from by omega)]
        · have hyx : y ≠ x := by
            intro h; subst h; rw [he] at hy; cases hy; cases hsh
          simp only [hL', if_neg (show ¬ l + y = l + x from by omega)] at hl
          by_cases hyj : l + y = j0
          · have : y = j0 - l := by omega
            subst this
            rw [hz] at hy
            cases hy
            rw [hlj]
            refine ⟨m1, by rw [hO.size]; exact m2, ?_, ?_⟩
            · intro _ s hlk hs'
              rw [show l + x - l = x from by omega, he] at hs'
              cases hs'; exact hU'
            · simp only [hL', if_true]; intro h; cases h
          · obtain ⟨n1, n2, n3, n4⟩ := hm.2.1 y z' k hy hl
            have hneb : th (l + y) ≠ th j0 := by
              have := hm.2.2.1 y (j0 - l) z' k z (l + x) hy hz hl (by rw [hlj]; exact hLj0) (by omega)
              rwa [hlj] at this
            have hk : k ≠ l + x := by
              intro hk
              rcases hf.al y z' k hy with h | ⟨h, s, ds', hs', hsh'⟩
              · omega
              · rw [hk, show l + x - l = x from by omega, he] at hs'
                cases hs'; rw [hsh] at hsh'; cases hsh'; exact hyj rfl
            refine ⟨n1, by rw [hO.size]; exact n2, ?_, ?_⟩
            · simp only [hL', if_neg hk]
              intro hk2 s hlk hs'; rw [hO.block _ hneb]; exact n3 hk2 s hlk hs'
            · simp only [hL', if_neg hk]
              intro hk2; rw [hO.block _ hneb]; exact n4 hk2
        · have hyx : y ≠ x := by
            intro h; subst h; rw [he] at hy; cases hy; cases hsh
          have hyx' : y' ≠ x := by
            intro h; subst h; rw [he] at hy'; cases hy'; cases hsh
          simp only [hL', if_neg (show ¬ l + y = l + x from by omega)] at hl
          simp only [hL', if_neg (show ¬ l + y' = l + x from by omega)] at hl'
          exact hm.2.2.1 y y' z1 k z' k' hy hy' hl hl' hneq
      cases e with
      | al z k =>
        obtain ⟨h1, h2⟩ := ht
        unfold wpOp
        simp only [ho]
        rw [hwt, if_pos h1]
        refine .inl ?_
        unfold Oper.wp
        rw [hex]
        refine Seg.upon (h2 U hctx) fun v U' ⟨p, hv, hpl, hpu, hAU, hnew⟩ => ?_
        have hLk : L.getD k false = false := by
          rcases hf.al x z k he with h | ⟨h, s, ds, hs', hsh⟩
          · exact hhi k h
          · cases hLk : L.getD k false with
            | false => rfl
            | true =>
              have hkl := Seg.lt_of_get hs'
              obtain ⟨g1, -, -⟩ := hf.st (k - l) s (l + x) ds hs' hsh
              rw [show l + (k - l) = k from by omega] at g1
              have := ancL L hcl k (hcl k hLk) _ g1
              rw [hLi] at this; cases this
        have hkx : k ≠ l + x := by
          intro hk
          rcases hf.al x z k he with h | ⟨h, s, ds, hs', hsh⟩
          · omega
          · rw [hk, show l + x - l = x from by omega, he] at hs'
            cases hs'; cases hsh
        have hsize := hAU.size
        have hold : ∀ p, p < U.heap.size → U'.heap[p]? = U.heap[p]? := fun p hp => hAU.block p hp
        have hagree : Seg.agree ops E l a (fun j => L.getD j false = true) (Seg.upd th (l + x) p) b := by
          refine Seg.agree_th hag fun y e' he' hp => Ent.val_congr (fun d hd => ?_) (fun _ => ?_)
          · have hLd := ancL L hcl _ (hcl _ hp) d (hf.deps y e' he' d hd)
            rw [Seg.upd_ne]; intro h; rw [h, hLi] at hLd; cases hLd
          · rw [Seg.upd_ne]; intro h; rw [h] at hp; rw [hLi] at hp; cases hp
        refine hnext (Seg.upd th (l + x) p) v U' hagree (by rw [hv]; simp [Ent.val, Seg.upd_eq]) ⟨hm.1.after hAU, fun y z' k' hy hl => ?_, fun y y' z1 k1 z' k' hy hy' hl hl' hneq => ?_, Seg.memX_same hm.2.2.2 (fun b g o0 hx => hold g (hgs b g o0 hx)) fun y b pv v o hy => ?_⟩
        case refine_3 =>
          have hyx : y ≠ x := by intro h; subst h; rw [he] at hy; cases hy
          simp only [hL', if_neg (show ¬ l + y = l + x from by omega)]
        · by_cases hyx : y = x
          · subst hyx
            rw [he] at hy; cases hy
            rw [Seg.upd_eq]
            have := hm.1.size; refine ⟨by omega, hpu, ?_, ?_⟩
            · simp only [hL', if_neg hkx]; rw [hLk]; intro h; cases h
            · intro _; exact hnew
          · simp only [hL', if_neg (show ¬ l + y = l + x from by omega)] at hl
            obtain ⟨m1, m2, m3, m4⟩ := hm.2.1 y z' k' hy hl
            have hk : k' ≠ l + x := by
              intro hk
              rcases hf.al y z' k' hy with h | ⟨h, s, ds', hs', hsh'⟩
              · omega
              · rw [hk, show l + x - l = x from by omega, he] at hs'
                cases hs'; cases hsh'
            rw [Seg.upd_ne (show l + y ≠ l + x from by omega)]
            refine ⟨m1, by omega, ?_, ?_⟩
            · simp only [hL', if_neg hk]
              intro hk2 s hlk hs'
              have hkl := Seg.lt_of_get hs'
              have hoeq : s.obj (Seg.upd th (l + x) p) = s.obj th := by
                refine Ent.obj_congr fun d hd => ?_
                have hLd := ancL L hcl k' (hcl _ hk2) d (by have := hf.deps (k' - l) s hs' d hd; rwa [show l + (k' - l) = k' from by omega] at this)
                rw [Seg.upd_ne]; intro h; rw [h, hLi] at hLd; cases hLd
              rw [hoeq, hold _ m2]
              exact m3 hk2 s hlk hs'
            · simp only [hL', if_neg hk]
              intro hk2; rw [hold _ m2]; exact m4 hk2
        · by_cases hyx : y = x
          · subst hyx
            have hy'x : l + y' ≠ l + y := by omega
            simp only [hL', if_neg hy'x] at hl'
            have := (hm.2.1 y' z' k' hy' hl').2.1
            rw [Seg.upd_eq, Seg.upd_ne hy'x]; omega
          · by_cases hyx' : y' = x
            · subst hyx'
              have hyx2 : l + y ≠ l + y' := by omega
              simp only [hL', if_neg hyx2] at hl
              have := (hm.2.1 y z1 k1 hy hl).2.1
              rw [Seg.upd_eq, Seg.upd_ne hyx2]; omega
            · simp only [hL', if_neg (show ¬ l + y = l + x from by omega)] at hl
              simp only [hL', if_neg (show ¬ l + y' = l + x from by omega)] at hl'
              rw [Seg.upd_ne (show l + y ≠ l + x from by omega), Seg.upd_ne (show l + y' ≠ l + x from by omega)]
              exact hm.2.2.1 y y' z1 k1 z' k' hy hy' hl hl' hneq
      | ef b pv v ob =>
        obtain ⟨h1, h2⟩ := ht
        obtain ⟨g, o0, hX⟩ := hXe x b pv v ob he
        obtain ⟨x1, x2⟩ := hm.2.2.2 b g o0 hX
        obtain ⟨f1, f2⟩ := hf.ef x b pv v ob he
        have hcont : ∃ o', Seg.cont E X l b pv = some o' ∧ U.heap[g]? = some o' := by
          cases pv with
          | none =>
            refine ⟨o0, by simp [Seg.cont, hX], x1 fun y pv' v' o' hy => ?_⟩
            by_cases hyx : x = y
            · subst hyx; exact hLi
            · cases hLy : L.getD (l + y) false with
              | false => exact hLy
              | true =>
                have := ancL L hcl _ (hcl _ hLy) _ ((f2 y pv' v' o' hy hyx).1 rfl)
                rw [hLi] at this; cases this
          | some p =>
            obtain ⟨p1, p2, pv', v', o', hp⟩ := f1 p rfl
            have hlp : l + (p - l) = p := by omega
            refine ⟨o', by simp [Seg.cont, hp, Ent.fin], x2 (p - l) pv' v' o' hp (by rw [hlp]; exact hanc p p1) fun y v2 o2 hy => ?_⟩
            rw [hlp] at hy
            by_cases hyx : x = y
            · subst hyx; exact hLi
            · exact ((f2 y _ _ _ hy hyx).2.1 p rfl rfl).elim
        obtain ⟨o', hc1, hc2⟩ := hcont
        unfold wpOp
        simp only [ho]
        rw [hwt, if_pos h1]
        refine .inl ?_
        unfold Oper.wp
        rw [hex]
        refine Seg.upon (h2 U g o0 o' hX hc1 hctx hc2) fun v' U' ⟨hv, hE, hU'⟩ => ?_
        have hgw := hXw b g o0 hX
        have hne : ∀ y z k, E[y]? = some (.al z k) → y ≠ x := by
          intro y z k hy hyx; subst hyx; rw [he] at hy; cases hy
        refine hnext th v' U' hag hv ⟨⟨hE.os.trans hm.1.os, hE.tape.trans hm.1.tape, hE.output.trans hm.1.output, Nat.le_trans hm.1.size hE.size, fun k hk hn => by
            rw [hE.block k (Nat.lt_of_lt_of_le hk hm.1.size) (hn b g o0 hX)]; exact hm.1.block k hk hn⟩, fun y z k hy hl => ?_, fun y y' z k z' k' hy hy' hl hl' hneq => ?_, fun b' g' o0' hX' => ?_⟩
        · have hyx := hne y z k hy
          simp only [hL', if_neg (show ¬ l + y = l + x from by omega)] at hl
          obtain ⟨m1, m2, m3, m4⟩ := hm.2.1 y z k hy hl
          have hk : k ≠ l + x := by
            intro hk
            rcases hf.al y z k hy with h | ⟨h, s, ds, hs', hsh⟩
            · omega
            · rw [hk, show l + x - l = x from by omega, he] at hs'
              cases hs'; cases hsh
          refine ⟨m1, Nat.lt_of_lt_of_le m2 hE.size, ?_, ?_⟩
          · simp only [hL', if_neg hk]
            intro hk2 s hlk hs'; rw [hE.block _ m2 (by omega)]; exact m3 hk2 s hlk hs'
          · simp only [hL', if_neg hk]
            intro hk2; rw [hE.block _ m2 (by omega)]; exact m4 hk2
        · have hyx := hne y z k hy
          have hyx' := hne y' z' k' hy'
          simp only [hL', if_neg (show ¬ l + y = l + x from by omega)] at hl
          simp only [hL', if_neg (show ¬ l + y' = l + x from by omega)] at hl'
          exact hm.2.2.1 y y' z k z' k' hy hy' hl hl' hneq
        · by_cases hbb : b' = b
          · subst hbb
            rw [hX] at hX'; cases hX'
            refine ⟨fun hn => ?_, fun y pv' v2 o2 hy hl hn => ?_⟩
            · have := hn x pv v ob he
              simp only [hL', if_true] at this; cases this
            · by_cases hyx : y = x
              · subst hyx; rw [he] at hy; cases hy; exact hU'
              · simp only [hL', if_neg (show ¬ l + y = l + x from by omega)] at hl
                rcases (f2 y pv' v2 o2 hy (Ne.symm hyx)).2.2 with h | ⟨z, v3, o3, hz, hzx⟩
                · have := ancL L hcl _ (hcl _ hl) _ h
                  rw [hLi] at this; cases this
                · have hz0 := hn z v3 o3 hz
                  by_cases hzx2 : z = x
                  · subst hzx2; simp only [hL', if_true] at hz0; cases hz0
                  · have h3 := hanc _ (hzx.resolve_left hzx2)
                    simp only [hL', if_neg (show ¬ l + z = l + x from by omega)] at hz0
                    rw [h3] at hz0; cases hz0
          · have hgg : g' ≠ g := by
              intro h; subst h; exact hbb (hXd b' b g' o0' o0 hX' hX)
            obtain ⟨y1, y2⟩ := hm.2.2.2 b' g' o0' hX'
            rw [hE.block g' (hgs b' g' o0' hX') hgg]
            have hLL : ∀ (y : Nat) pv2 v2 o2, E[y]? = some (Ent.ef b' pv2 v2 o2) → (L.setIfInBounds (l + x) true).getD (l + y) false = L.getD (l + y) false := by
              intro y pv2 v2 o2 hy
              have hyx : y ≠ x := by intro h; subst h; rw [he] at hy; cases hy; exact hbb rfl
              rw [hL', if_neg (show ¬ l + y = l + x from by omega)]
            refine ⟨fun hn => y1 fun y pv2 v2 o2 hy => (hLL y pv2 v2 o2 hy).symm.trans (hn y pv2 v2 o2 hy), fun y pv2 v2 o2 hy hl hn => y2 y pv2 v2 o2 hy ((hLL y pv2 v2 o2 hy).symm.trans hl) fun z v3 o3 hz => (hLL z _ v3 o3 hz).symm.trans (hn z v3 o3 hz)⟩
      | q0 v => exact quiet rfl (fun _ _ h => by cases h) (fun _ _ h => by cases h) ht
      | q1 i f => exact quiet rfl (fun _ _ h => by cases h) (fun _ _ h => by cases h) ht
      | q2 i j f => exact quiet rfl (fun _ _ h => by cases h) (fun _ _ h => by cases h) ht
      | c0 v => exact quiet rfl (fun _ _ h => by cases h) (fun _ _ h => by cases h) ht
      | c1 i f => exact quiet rfl (fun _ _ h => by cases h) (fun _ _ h => by cases h) ht
      | c2 i j f => exact quiet rfl (fun _ _ h => by cases h) (fun _ _ h => by cases h) ht
      | s0 i ob => exact store i [] rfl (fun _ => rfl) ht
      | s1 i j f => exact store i [j] rfl (fun _ => rfl) ht
      | s2 i j k f => exact store i [j, k] rfl (fun _ => rfl) ht

theorem Seg.marks_start (n : Nat) : Array.replicate n false = Seg.marks n 0 :=
  Array.ext (by simp [Seg.marks]) fun j h1 h2 => by simp [Seg.marks]

theorem Seg.base_after {w U : World} (h : After w U) : Seg.base X w U := Seg.base_iff.2 ⟨h.os, h.tape, h.output, h.size, fun k hk _ => h.block k hk⟩
theorem wpAny_segX {S : List Sh} {w0 : World} {Rest : Act → World → Prop} (hS : E.map Ent.sh = S) (hok : Seg.ok ops S l = true) (hw : After w w0)
    (hXw : ∀ (b g : Nat) (o : Obj), X[b]? = some (g, o) → w.heap[g]? = some o) (hXd : ∀ (b b' g : Nat) (o o' : Obj), X[b]? = some (g, o) → X[b']? = some (g, o') → b = b') (hXe : ∀ (x b : Nat) pv v o, E[x]? = some (Ent.ef b pv v o) → ∃ g o0, X[b]? = some (g, o0))
    (hrest : ∀ a' U, Rest a' U → wpAny P .any ops Q (ops.size - (l + E.length)) (Seg.marks ops.size (l + E.length)) a' U)
    (H : ∀ th : Nat → Nat, (∀ x z k, E[x]? = some (.al z k) → w.heap.size ≤ th (l + x)) → (∀ x y z k z' k', E[x]? = some (.al z k) → E[y]? = some (.al z' k') → x ≠ y → th (l + x) ≠ th (l + y)) →
      Seg.steps P ops E X l w th (fun a' => ∀ U, Seg.base X w U → Seg.known E l th (fun _ => True) U → Seg.endX E X l U → Rest a' U) E l a) :
    wpAny P .any ops Q (ops.size - l) (Seg.marks ops.size l) a w0 := by
  have hf := Seg.fine hS hok
  have hsz := hf.size
  have hg : ∀ j, (Seg.marks ops.size l).getD j false = decide (j < l) := by
    intro j
    rw [Seg.marks_get]
    split
    · rfl
    · symm; simp; omega
  have hlt : ∀ (b g : Nat) (o : Obj), X[b]? = some (g, o) → g < w.heap.size := fun b g o hx => by
    have h := hXw b g o hx
    rcases Nat.lt_or_ge g w.heap.size with hl | hl
    · exact hl
    · rw [Array.getElem?_eq_none hl] at h; cases h
  refine Seg.main hf hlt hXd hXe H hrest _ _ (fun _ => 0) a w0 (by simp [Seg.marks]) (fun j hj => by rw [hg]; simpa using hj) (fun j hj => by rw [hg]; simp; omega) (fun k hk j hj => ?_) ⟨rfl, rfl, fun x e d _ hp => ?_, fun _ _ => rfl⟩ ⟨Seg.base_iff.1 (Seg.base_after hw), fun x z k _ hp => ?_, fun x y z k z' k' _ _ hp => ?_, fun b g o0 hx => ⟨fun _ => by rw [hw.block g (hlt b g o0 hx)]; exact hXw b g o0 hx, fun x pv v o he hl => ?_⟩⟩ ?_
  · rw [hg] at hk ⊢
    have hk : k < l := by simpa using hk
    have := hf.back k (by omega) j hj
    simp; omega
  · have hp : (Seg.marks ops.size l).getD (l + x) false = true := hp
    rw [hg] at hp; simp at hp; omega
  · have hp : (Seg.marks ops.size l).getD (l + x) false = true := hp
    rw [hg] at hp; simp at hp; omega
  · have hp : (Seg.marks ops.size l).getD (l + x) false = true := hp
    rw [hg] at hp; simp at hp; omega
  · have hp : (Seg.marks ops.size l).getD (l + x) false = true := hl
    rw [hg] at hp; simp at hp; omega
  · rw [Seg.cnt_congr (g := fun j => decide (j < l)) _ (fun j _ => hg j), Seg.cnt_pre]


theorem wpAny_seg {S : List Sh} {w0 : World} {Rest : Act → World → Prop} (hS : E.map Ent.sh = S) (hok : Seg.ok ops S l = true) (hw : After w w0) (hne : ∀ (x b : Nat) pv v o, E[x]? ≠ some (Ent.ef b pv v o))
    (hrest : ∀ a' U, Rest a' U → wpAny P .any ops Q (ops.size - (l + E.length)) (Seg.marks ops.size (l + E.length)) a' U)
    (H : ∀ th : Nat → Nat, (∀ x z k, E[x]? = some (.al z k) → w.heap.size ≤ th (l + x)) → (∀ x y z k z' k', E[x]? = some (.al z k) → E[y]? = some (.al z' k') → x ≠ y → th (l + x) ≠ th (l + y)) →
      Seg.steps P ops E [] l w th (fun a' => ∀ U, After w U → Seg.known E l th (fun _ => True) U → Rest a' U) E l a) :
    wpAny P .any ops Q (ops.size - l) (Seg.marks ops.size l) a w0 :=
  wpAny_segX (X := []) hS hok hw (fun b g o hx => by simp at hx) (fun b b' g o o' hx => by simp at hx) (fun x b pv v o he => (hne x b pv v o he).elim) hrest
    (fun th h1 h2 => Seg.steps_mono (fun a' h U hU hk _ => h U hU hk) _ _ _ (H th h1 h2))

/-- No operation changes an old block. -/
def Seg.mild (S : List Sh) : Bool := S.all fun | .ef _ _ => false | _ => true
theorem Seg.mild_spec {S : List Sh} (hS : E.map Ent.sh = S) (h : Seg.mild S = true) (x b : Nat) (pv : Option Nat) (v : Value) (o : Obj) : E[x]? ≠ some (Ent.ef b pv v o) := by
  intro he
  subst hS
  unfold Seg.mild at h
  rw [List.all_eq_true] at h
  have := h (Sh.ef b pv) (List.mem_map.2 ⟨_, List.mem_of_getElem? he, rfl⟩)
  cases this

/-- The whole of a statement whose order is open, operation by operation. -/
theorem wp_region_seg {id : Nat} {S : List Sh} (hm : P.follows .mixedOrders = true) (hS : E.map Ent.sh = S) (hok : Seg.ok ops S 0 = true) (hlen : E.length = ops.size) (hmild : Seg.mild S = true)
    (H : ∀ th : Nat → Nat, (∀ x z k, E[x]? = some (.al z k) → w.heap.size ≤ th (0 + x)) → (∀ x y z k z' k', E[x]? = some (.al z k) → E[y]? = some (.al z' k') → x ≠ y → th (0 + x) ≠ th (0 + y)) →
      Seg.steps P ops E [] 0 w th (fun a' => ∀ U, After w U → Seg.known E 0 th (fun _ => True) U → Q .normal a' U) E 0 a) :
    (Code.region id ops true).wp P Q a w := by
  refine wp_region_any hm ?_
  rw [Seg.marks_start]
  refine wpAny_seg (l := 0) (w := w) (w0 := w.drew) hS hok ((Below.refl _ w).drew) (Seg.mild_spec hS hmild) (fun a' U hR => ?_) H
  have h0 : ops.size - (0 + E.length) = 0 := by omega
  rw [h0]
  refine ⟨?_, hR⟩
  refine List.eq_nil_iff_forall_not_mem.2 fun j hj => ?_
  have := (mem_ready.1 hj).1
  rw [Seg.marks_get] at this
  split at this
  · simp at this; omega
  · cases this

/-- One operation. -/
theorem Seg.step {th : Nat → Nat} {R : Act → Prop} {e : Ent} {E' : List Ent} {i : Nat} (o : Oper) (ho : ops[i]? = some o) (ht : Seg.tell P ops E X l w th i o a e) (h : ∃ a', a.put o.dst (e.val th i) = a' ∧ Seg.steps P ops E X l w th R E' (i + 1) a') :
    Seg.steps P ops E X l w th R (e :: E') i a := by
  obtain ⟨a', ha, h⟩ := h
  refine ⟨⟨o, ho, ht⟩, ?_⟩
  rw [ho]
  show Seg.steps P ops E X l w th R E' (i + 1) (a.put o.dst (e.val th i))
  rw [ha]; exact h
theorem Seg.stop {th : Nat → Nat} {R : Act → Prop} {i : Nat} (h : R a) : Seg.steps P ops E X l w th R [] i a := h
end

theorem vp_value {P : Program} {R : Value → World → Prop} {r : Result Next} {v : Value} {U U' : World} (h : r = .ok (.value v) U') (hR : R v U') : vp P R r := by subst h; exact hR
theorem vp_quiet {P : Program} {r : Result Next} {v : Value} {U : World} (h : r = .ok (.value v) U) : vp P (fun v' U' => v' = v ∧ After U U') r := by subst h; exact ⟨rfl, After.refl _⟩
/-- One operation that only reads, in short: what is left open is done as ever. -/
theorem Seg.sq {P : Program} {ops : Array Oper} {E : List Ent} {X : List (Nat × Obj)} {l : Nat} {w : World} {a a' : Act} {th : Nat → Nat} {R : Act → Prop} {e : Ent} {E' : List Ent} {i : Nat} {o : Oper} (h : Seg.steps P ops E X l w th R E' (i + 1) a') (ho : ops[i]? = some o := by rfl) (ht : Seg.tell P ops E X l w th i o a e := by exact Or.inl ⟨by rfl, fun U hU => vp_quiet (by (go_simp <;> exact rfl))⟩) (ha : a.put o.dst (e.val th i) = a' := by (simp only [Ent.val]; go_simp <;> exact rfl)) : Seg.steps P ops E X l w th R (e :: E') i a := Seg.step o ho ht ⟨a', ha, h⟩
/-- The frame behind an operation, in short. -/
theorem Seg.sa {P : Program} {ops : Array Oper} {E : List Ent} {X : List (Nat × Obj)} {l : Nat} {w : World} {a a' : Act} {th : Nat → Nat} {R : Act → Prop} {e : Ent} {E' : List Ent} {i : Nat} {d : Option Nat} (h : Seg.steps P ops E X l w th R E' (i + 1) a') (ha : a.put d (e.val th i) = a' := by (simp only [Ent.val]; go_simp <;> exact rfl)) : ∃ b, a.put d (e.val th i) = b ∧ Seg.steps P ops E X l w th R E' (i + 1) b := ⟨a', ha, h⟩
theorem vp_skip {P : Program} {R : Value → World → Prop} {r : Result Next} {U' : World} (h : r = .ok .skip U') (hR : R undef U') : vp P R r := by subst h; exact hR
theorem vp_enter {P : Program} {R : Value → World → Prop} {f : FuncId} {args : Array Value} {U : World} (h : Calls P f args U (fun e U' => ∃ v, e = .returned v ∧ R v U')) : vp P R (.ok (.enter f args) U) := h
theorem alloc_new (U : World) (z : Obj) : U.heap.size < (U.alloc z).heap.size ∧ After U (U.alloc z) ∧ (U.alloc z).heap[U.heap.size]? = some z :=
  ⟨by simp, (Below.refl _ U).alloc (Nat.le_refl _) z, by show (U.heap.push z)[U.heap.size]? = _; simp⟩
theorem vp_alloc {P : Program} {r : Result Next} {v : Value} {U U' : World} {f : Nat → Value} {z : Obj} (h : r = .ok (.value v) U') (hv : v = f U.heap.size) (hU : U' = U.alloc z) : vp P (fun v U' => ∃ p, v = f p ∧ U.heap.size ≤ p ∧ p < U'.heap.size ∧ After U U' ∧ U'.heap[p]? = some z) r := by
  subst h; subst hU; exact ⟨_, hv, Nat.le_refl _, (alloc_new U z).1, (alloc_new U z).2.1, (alloc_new U z).2.2⟩
/-- A call that answers v, whatever memory there is. -/
theorem vp_call {P : Program} {f : FuncId} {args : Array Value} {U : World} {v : Value} (h : Calls P f args U (fun e U' => e = .returned v ∧ After U U')) : vp P (fun v' U' => v' = v ∧ After U U') (.ok (.enter f args) U) :=
  h.mono fun e U' ⟨he, hU⟩ => ⟨v, he, rfl, hU⟩
theorem vp_callq {P : Program} {f : FuncId} {args : Array Value} {U : World} {v : Value} (h : Calls P f args U (fun e U' => e = .returned v ∧ U = U')) : vp P (fun v' U' => v' = v ∧ After U U') (.ok (.enter f args) U) :=
  h.mono fun e U' ⟨he, hU⟩ => ⟨v, he, rfl, by subst hU; exact After.refl _⟩
theorem vp_calld {P : Program} {f : FuncId} {args : Array Value} {U : World} {v : Value} (h : Calls P f args U (fun e U' => e = .returned v ∧ ∃ n, U' = U.drewN n)) : vp P (fun v' U' => v' = v ∧ After U U') (.ok (.enter f args) U) :=
  h.mono fun e U' ⟨he, n, hU⟩ => ⟨v, he, rfl, by subst hU; exact ⟨rfl, rfl, rfl, Nat.le_refl _, fun _ _ => rfl⟩⟩

theorem KeepX.cellB {X : List (Nat × Obj)} {w U : World} (h : KeepX X w U) {p : Addr} {v : Value} (hc : w.cell? p = some v) (hn : ∀ (b g : Nat) (o : Obj), X[b]? = some (g, o) → p.block ≠ g) : U.cell? p = some v :=
  (World.cell?_of_block (w := w) (h.block p.block (World.block_lt_of_cell? w _ hc) hn)).trans hc
theorem KeepX.held {X : List (Nat × Obj)} {w U : World} (h : KeepX X w U) {p : Nat} {o : Obj} (hc : w.heap[p]? = some o) (hn : ∀ (b g : Nat) (o : Obj), X[b]? = some (g, o) → p ≠ g) : U.heap[p]? = some o := by
  have hl : p < w.heap.size := by
    rcases Nat.lt_or_ge p w.heap.size with hl | hl
    · exact hl
    · rw [Array.getElem?_eq_none hl] at hc; cases hc
  rw [h.block p hl hn]; exact hc
/-- A call that changes block g. -/
theorem vp_eff {P : Program} {f : FuncId} {args : Array Value} {U : World} {v : Value} {g : Nat} {ob : Obj} (h : Calls P f args U (fun e U' => e = .returned v ∧ Eff g U U' ∧ U'.heap[g]? = some ob)) : vp P (fun v' U' => v' = v ∧ Eff g U U' ∧ U'.heap[g]? = some ob) (.ok (.enter f args) U) :=
  h.mono fun e U' ⟨he, hU⟩ => ⟨v, he, rfl, hU⟩
theorem Only.set (p j : Nat) (v : Value) (U : World) : Only p U (U.setCell ⟨p, j, none⟩ v) := ⟨rfl, rfl, rfl, by simp, fun k hk => Below.heap_setCell U ⟨p, j, none⟩ v k hk⟩
theorem Only.then {p : Nat} {a b c : World} (h : Only p a b) (k : Only p b c) : Only p a c := ⟨k.os.trans h.os, k.tape.trans h.tape, k.output.trans h.output, k.size.trans h.size, fun i hi => (k.block i hi).trans (h.block i hi)⟩
theorem Only.put {p : Nat} {a b : World} (h : Only p a b) (j : Nat) (v : Value) : Only p a (b.setCell ⟨p, j, none⟩ v) := h.then (Only.set p j v b)
theorem held_set {U : World} {p : Nat} {c : Array Value} {T : TypeId} (h : U.heap[p]? = some (.cells c T (0, 0))) (j : Nat) (v : Value) : (U.setCell ⟨p, j, none⟩ v).heap[p]? = some (.cells (c.setIfInBounds j v) T (0, 0)) := heap_setCell_same U p j c T v h
theorem held_cell {U : World} {p : Nat} {c : Array Value} {T : TypeId} (h : U.heap[p]? = some (.cells c T (0, 0))) (j : Nat) (v : Value) (hj : c[j]? = some v) : U.cell? ⟨p, j, none⟩ = some v := by rw [cell_of_row U p j c T (0, 0) h]; exact hj
theorem held_free {U : World} {p : Nat} {c : Array Value} {T : TypeId} (h : U.heap[p]? = some (.cells c T (0, 0))) (j : Nat) : U.frozen? ⟨p, j, none⟩ = false := frozen_of_row U p j c T h

section
variable {P : Program} {ops : Array Oper} {Q : Exit → Act → World → Prop} {E : List Ent} {l : Nat} {w : World} {a : Act}

theorem Seg.marks_set (n m : Nat) : (Seg.marks n m).setIfInBounds m true = Seg.marks n (m + 1) := by
  refine Array.ext (by simp [Seg.marks]) fun j h1 h2 => ?_
  have hn : j < n := by simpa [Seg.marks] using h2
  have g2 := Seg.marks_get n (m + 1) j false
  have g1 := Seg.marks_get n m j false
  rw [if_pos hn] at g1 g2
  have e2 : (Seg.marks n (m + 1))[j] = decide (j < m + 1) := by rw [← g2]; simp [h2]
  rw [e2]
  by_cases hj : m = j
  · subst hj; simp
  · have h3 : j < (Seg.marks n m).size := by simpa [Seg.marks] using hn
    rw [Array.getElem_setIfInBounds_ne h3 hj]
    have e1 : (Seg.marks n m)[j] = decide (j < m) := by rw [← g1]; simp [h3]
    rw [e1]
    by_cases hjm : j < m
    · simp [hjm]; omega
    · simp [hjm]; omega

theorem Seg.finish (h : Q .normal a w) : ∀ k, wpAny P .any ops Q k (Seg.marks ops.size ops.size) a w := by
  have hr : Region.ready .any ops (Seg.marks ops.size ops.size) = [] := by
    refine List.eq_nil_iff_forall_not_mem.2 fun j hj => ?_
    have := (mem_ready.1 hj).1
    rw [Seg.marks_get] at this
    split at this
    · simp at this; omega
    · cases this
  intro k
  cases k with
  | zero => exact ⟨hr, h⟩
  | succ k => exact ⟨fun _ => h, fun i hi => by rw [hr] at hi; cases hi⟩

/-- Behind a part of a statement's operations: the next one alone may come up. -/
theorem Seg.only {m k : Nat} {o : Oper} (ho : ops[m]? = some o) (hr : Region.ready .any ops (Seg.marks ops.size m) = [m]) (hw : Region.wanted o (yielded ops a.tmps) = true)
    (h : ∀ K : Act → World → Prop, (∀ a' w', wpAny P .any ops Q k (Seg.marks ops.size (m + 1)) a' w' → K a' w') → o.wp P a w K Q) : wpAny P .any ops Q (k + 1) (Seg.marks ops.size m) a w := by
  refine ⟨(fun h0 => by rw [hr] at h0; cases h0), fun j hj => ?_⟩
  rw [hr] at hj
  obtain rfl := List.mem_singleton.1 hj
  unfold wpOp
  simp only [ho, hw, if_true]
  refine .inl (h _ fun a' w' hk => ?_)
  rw [Seg.marks_set]; exact hk

theorem wpAny_nat (hb : ∀ k, k < ops.size → ∀ j ∈ Seg.dir ops k, j < k) : ∀ (d i : Nat) (a : Act) (w : World), i + d = ops.size → wpAny P .any ops Q d (Seg.marks ops.size i) a w → wpOps P ops Q (List.range' i d) a w
  | 0, i, a, w, hd, h => h.2
  | d + 1, i, a, w, hd, h => by
    have hi : i < ops.size := by omega
    have hin : i ∈ Region.ready .any ops (Seg.marks ops.size i) := by
      rw [mem_ready]
      refine ⟨by rw [Seg.marks_get, if_pos hi]; simp, ops[i], by simp [hi], fun e he hbd => ?_⟩
      have hdir : e.on ∈ Seg.dir ops i := by
        unfold Seg.dir
        rw [Array.getElem?_eq_getElem hi]
        exact List.mem_map.2 ⟨e, List.mem_filter.2 ⟨by simpa using he, hbd⟩, rfl⟩
      have := hb i hi _ hdir
      rw [Seg.marks_get, if_pos (by omega)]; simpa using this
    have h1 := h.2 i hin
    rw [List.range'_succ, wpOps_cons]
    refine wpOp_mono (fun a' w' hk => ?_) h1
    rw [Seg.marks_set] at hk
    exact wpAny_nat hb d (i + 1) a' w' (by omega) hk

/-- A statement whose order is given, in the same way. -/
theorem wp_region_seg0 {id : Nat} {S : List Sh} (hS : E.map Ent.sh = S) (hok : Seg.ok ops S 0 = true) (hlen : E.length = ops.size) (hmild : Seg.mild S = true)
    (H : ∀ th : Nat → Nat, (∀ x z k, E[x]? = some (.al z k) → w.heap.size ≤ th (0 + x)) → (∀ x y z k z' k', E[x]? = some (.al z k) → E[y]? = some (.al z' k') → x ≠ y → th (0 + x) ≠ th (0 + y)) →
      Seg.steps P ops E [] 0 w th (fun a' => ∀ U, After w U → Seg.known E 0 th (fun _ => True) U → Q .normal a' U) E 0 a) :
    (Code.region id ops false).wp P Q a w := by
  refine wp_region ?_
  have hf := Seg.fine hS hok
  have hlen' : 0 + E.length = ops.size := by omega
  have h := wpAny_seg (P := P) (Q := Q) (l := 0) (w := w) (w0 := w) (a := a) hS hok (After.refl w) (Seg.mild_spec hS hmild) (fun a' U hR => by rw [hlen']; exact Seg.finish hR _) H
  rw [List.range_eq_range']
  exact wpAny_nat (fun k hk => hf.back k (by omega)) ops.size 0 a w (by omega) (by simpa using h)

/-- The first part of a statement whose order is open; what is behind it comes in one order. -/
theorem wp_region_part {id : Nat} {S : List Sh} (m k : Nat) (hm : P.follows .mixedOrders = true) (hS : E.map Ent.sh = S) (hok : Seg.ok ops S 0 = true) (hlen : E.length = m) (hk : ops.size = m + k) (hmild : Seg.mild S = true)
    (H : ∀ th : Nat → Nat, (∀ x z k, E[x]? = some (.al z k) → w.heap.size ≤ th (0 + x)) → (∀ x y z k z' k', E[x]? = some (.al z k) → E[y]? = some (.al z' k') → x ≠ y → th (0 + x) ≠ th (0 + y)) →
      Seg.steps P ops E [] 0 w th (fun a' => ∀ U, After w U → Seg.known E 0 th (fun _ => True) U → wpAny P .any ops Q k (Seg.marks ops.size m) a' U) E 0 a) :
    (Code.region id ops true).wp P Q a w := by
  refine wp_region_any hm ?_
  rw [Seg.marks_start]
  subst hlen
  have hk2 : ops.size - (0 + E.length) = k := by omega
  refine wpAny_seg (l := 0) (w := w) (w0 := w.drew) (Rest := fun a' U => wpAny P .any ops Q k (Seg.marks ops.size E.length) a' U) hS hok ((Below.refl _ w).drew) (Seg.mild_spec hS hmild) (fun a' U hR => ?_) H
  rw [hk2, Nat.zero_add]; exact hR
end

section
variable {P : Program} {ops : Array Oper} {Q : Exit → Act → World → Prop} {E : List Ent} {l : Nat} {w : World} {a : Act}
/-- As wp_region_part, where some operations change old blocks: X tells which, and what they hold ahead. -/
theorem wp_region_partX {id : Nat} {S : List Sh} (X : List (Nat × Obj)) (m k : Nat) (hm : P.follows .mixedOrders = true) (hS : E.map Ent.sh = S) (hok : Seg.ok ops S 0 = true) (hlen : E.length = m) (hk : ops.size = m + k)
    (hXw : ∀ (b g : Nat) (o : Obj), X[b]? = some (g, o) → w.heap[g]? = some o) (hXd : ∀ (b b' g : Nat) (o o' : Obj), X[b]? = some (g, o) → X[b']? = some (g, o') → b = b') (hXe : ∀ (x b : Nat) pv v o, E[x]? = some (Ent.ef b pv v o) → ∃ g o0, X[b]? = some (g, o0))
    (H : ∀ th : Nat → Nat, (∀ x z k, E[x]? = some (.al z k) → w.heap.size ≤ th (0 + x)) → (∀ x y z k z' k', E[x]? = some (.al z k) → E[y]? = some (.al z' k') → x ≠ y → th (0 + x) ≠ th (0 + y)) →
      Seg.steps P ops E X 0 w th (fun a' => ∀ U, Seg.base X w U → Seg.known E 0 th (fun _ => True) U → Seg.endX E X 0 U → wpAny P .any ops Q k (Seg.marks ops.size m) a' U) E 0 a) :
    (Code.region id ops true).wp P Q a w := by
  refine wp_region_any hm ?_
  rw [Seg.marks_start]
  subst hlen
  have hk2 : ops.size - (0 + E.length) = k := by omega
  refine wpAny_segX (X := X) (l := 0) (w := w) (w0 := w.drew) (Rest := fun a' U => wpAny P .any ops Q k (Seg.marks ops.size E.length) a' U) hS hok ((Below.refl _ w).drew) hXw hXd hXe (fun a' U hR => ?_) H
  rw [hk2, Nat.zero_add]; exact hR
theorem wp_region_segX {id : Nat} {S : List Sh} (X : List (Nat × Obj)) (hm : P.follows .mixedOrders = true) (hS : E.map Ent.sh = S) (hok : Seg.ok ops S 0 = true) (hlen : E.length = ops.size)
    (hXw : ∀ (b g : Nat) (o : Obj), X[b]? = some (g, o) → w.heap[g]? = some o) (hXd : ∀ (b b' g : Nat) (o o' : Obj), X[b]? = some (g, o) → X[b']? = some (g, o') → b = b') (hXe : ∀ (x b : Nat) pv v o, E[x]? = some (Ent.ef b pv v o) → ∃ g o0, X[b]? = some (g, o0))
    (H : ∀ th : Nat → Nat, (∀ x z k, E[x]? = some (.al z k) → w.heap.size ≤ th (0 + x)) → (∀ x y z k z' k', E[x]? = some (.al z k) → E[y]? = some (.al z' k') → x ≠ y → th (0 + x) ≠ th (0 + y)) →
      Seg.steps P ops E X 0 w th (fun a' => ∀ U, Seg.base X w U → Seg.known E 0 th (fun _ => True) U → Seg.endX E X 0 U → Q .normal a' U) E 0 a) :
    (Code.region id ops true).wp P Q a w := by
  refine wp_region_partX X ops.size 0 hm hS hok hlen rfl hXw hXd hXe fun th h1 h2 => Seg.steps_mono (fun a' h U hU hk hx => Seg.finish (h U hU hk hx) 0) _ _ _ (H th h1 h2)
theorem wp_region_segX0 {id : Nat} {S : List Sh} (X : List (Nat × Obj)) (hS : E.map Ent.sh = S) (hok : Seg.ok ops S 0 = true) (hlen : E.length = ops.size)
    (hXw : ∀ (b g : Nat) (o : Obj), X[b]? = some (g, o) → w.heap[g]? = some o) (hXd : ∀ (b b' g : Nat) (o o' : Obj), X[b]? = some (g, o) → X[b']? = some (g, o') → b = b') (hXe : ∀ (x b : Nat) pv v o, E[x]? = some (Ent.ef b pv v o) → ∃ g o0, X[b]? = some (g, o0))
    (H : ∀ th : Nat → Nat, (∀ x z k, E[x]? = some (.al z k) → w.heap.size ≤ th (0 + x)) → (∀ x y z k z' k', E[x]? = some (.al z k) → E[y]? = some (.al z' k') → x ≠ y → th (0 + x) ≠ th (0 + y)) →
      Seg.steps P ops E X 0 w th (fun a' => ∀ U, Seg.base X w U → Seg.known E 0 th (fun _ => True) U → Seg.endX E X 0 U → Q .normal a' U) E 0 a) :
    (Code.region id ops false).wp P Q a w := by
  refine wp_region ?_
  have hf := Seg.fine hS hok
  have hlen' : 0 + E.length = ops.size := by omega
  have h := wpAny_segX (P := P) (Q := Q) (X := X) (l := 0) (w := w) (w0 := w) (a := a) hS hok (After.refl w) hXw hXd hXe (fun a' U hR => by rw [hlen']; exact Seg.finish hR _) H
  rw [List.range_eq_range']
  exact wpAny_nat (fun k hk => hf.back k (by omega)) ops.size 0 a w (by omega) (by simpa using h)
end

theorem only_setRow {U : World} {p : Nat} {c c' : Array Value} {T : TypeId} (h : U.heap[p]? = some (.cells c T (0, 0))) : Only p U (U.setRow p c') ∧ (U.setRow p c').heap[p]? = some (.cells c' T (0, 0)) := by
  refine ⟨⟨rfl, rfl, rfl, by simp, fun k hk => ?_⟩, ?_⟩
  · simp only [World.setRow, Array.getElem?_modify]
    rw [if_neg (by omega)]
  · simp only [World.setRow, Array.getElem?_modify, if_true, h]; rfl

theorem run_storeVar_all {P : Program} (w : World) (g : Nat) (t ty : TypeId) (old cells : Array Value) (v : Value) (hv : v.cells = cells) (hg : w.heap[g]? = some (.cells old t (0, 0))) (hi : (P.info? ty).map (·.size) = some cells.size)
    (ho : old.size = cells.size) (h1 : cells.all (·.oneCell') = true) : (storeVar ty ⟨g, 0, none⟩ v).run P w = .ok () (w.setRow g cells) := by
  have := run_storeCells_from (P := P) g t cells.toList 0 old w hg (by simp; omega) (fun v hv => (Array.all_eq_true_iff_forall_mem.1 h1) v (by simpa using hv))
  cases hq : P.info? ty with
  | none => simp [hq] at hi
  | some i =>
    have hs : cells.size = i.size := by simp [hq] at hi; omega
    simp [storeVar, sizeOf, typeInfo, hq, hv, hs, this]

/-- A store that fills a whole block. -/
theorem vp_store {P : Program} {o : Oper} {a : Act} {U : World} {p : Nat} {c c' : Array Value} {T : TypeId} {v : Value} (ty : TypeId) (x y : Operand) (ho : o.op = .store ty x y) (h : U.heap[p]? = some (.cells c T (0, 0)))
    (hx : a.eval x = .pointer (some ⟨p, 0, none⟩)) (hy : a.eval y = v) (hv : v.cells = c') (hi : (P.info? ty).map (·.size) = some c'.size) (hs : c.size = c'.size) (h1 : c'.toList.all (·.oneCell') = true) :
    vp P (fun v U' => v = undef ∧ Only p U U' ∧ U'.heap[p]? = some (.cells c' T (0, 0))) ((execOp a.eval o).run P U) := by
  unfold execOp
  simp only [ho, hx, hy, Instr.storeAt, Instr.sureAddr, Sem.run_bind, Sem.run_pure, Result.andThen_ok, run_storeVar_all U p T ty c c' v hv h hi hs (by simpa using h1)]
  exact ⟨rfl, (only_setRow h).1, (only_setRow h).2⟩
theorem held_after {w w' : World} {p : Nat} {o : Obj} (hU : After w w') (h : w.heap[p]? = some o) : w'.heap[p]? = some o := by
  have hl : p < w.heap.size := by
    rcases Nat.lt_or_ge p w.heap.size with hl | hl
    · exact hl
    · rw [Array.getElem?_eq_none hl] at h; cases h
  rw [hU.block p hl]; exact h
theorem held_lt {w : World} {p : Nat} {o : Obj} (h : w.heap[p]? = some o) : p < w.heap.size := by
  rcases Nat.lt_or_ge p w.heap.size with hl | hl
  · exact hl
  · rw [Array.getElem?_eq_none hl] at h; cases h
theorem vp_store_agg {P : Program} {o : Oper} {a : Act} {U : World} {p : Nat} {c c' : Array Value} {T : TypeId} (ty : TypeId) (x y : Operand) (ho : o.op = .store ty x y) (h : U.heap[p]? = some (.cells c T (0, 0)))
    (hx : a.eval x = .pointer (some ⟨p, 0, none⟩)) (hy : a.eval y = .agg c') (hi : (P.info? ty).map (·.size) = some c'.size) (hs : c.size = c'.size) (h1 : c'.toList.all (·.oneCell') = true) :
    vp P (fun v U' => v = undef ∧ Only p U U' ∧ U'.heap[p]? = some (.cells c' T (0, 0))) ((execOp a.eval o).run P U) := vp_store ty x y ho h hx hy rfl hi hs h1
theorem vp_store_one {P : Program} {o : Oper} {a : Act} {U : World} {p : Nat} {c : Array Value} {T : TypeId} {v : Value} (ty : TypeId) (x y : Operand) (ho : o.op = .store ty x y) (h : U.heap[p]? = some (.cells c T (0, 0)))
    (hx : a.eval x = .pointer (some ⟨p, 0, none⟩)) (hy : a.eval y = v) (hi : (P.info? ty).map (·.size) = some 1) (hs : c.size = 1) (h1 : v.cells = #[v] ∧ v.oneCell' = true) :
    vp P (fun v' U' => v' = undef ∧ Only p U U' ∧ U'.heap[p]? = some (.cells #[v] T (0, 0))) ((execOp a.eval o).run P U) := vp_store ty x y ho h hx hy h1.1 hi hs (by simp [h1.2])
theorem vp_calls {P : Program} {f : FuncId} {args : Array Value} {U : World} {v : Value} (h : Calls P f args U (fun e U' => e = .returned v ∧ U' = U)) : vp P (fun v' U' => v' = v ∧ After U U') (.ok (.enter f args) U) :=
  h.mono fun e U' ⟨he, hU⟩ => ⟨v, he, rfl, by subst hU; exact After.refl _⟩

section
variable {E : List Ent} {S : List Sh} {w U : World} {g p : Nat} {o o' : Obj}
theorem x1_w (h : w.heap[g]? = some o) : ∀ (b g' : Nat) (o' : Obj), [(g, o)][b]? = some (g', o') → w.heap[g']? = some o' := by
  intro b g' o' hb
  cases b with
  | zero => cases hb; exact h
  | succ b => simp at hb
theorem x1_d : ∀ (b b' g' : Nat) (o1 o2 : Obj), [(g, o)][b]? = some (g', o1) → [(g, o)][b']? = some (g', o2) → b = b' := by
  intro b b' g' o1 o2 h1 h2
  cases b with
  | zero => cases b' with
    | zero => rfl
    | succ b' => simp at h2
  | succ b => simp at h1
def Seg.effs (S : List Sh) (n : Nat) : Bool := S.all fun | .ef b _ => decide (b < n) | _ => true
theorem x1_e (hS : E.map Ent.sh = S) (h : Seg.effs S 1 = true) : ∀ (x b : Nat) pv v ob, E[x]? = some (Ent.ef b pv v ob) → ∃ g' o0, [(g, o)][b]? = some (g', o0) := by
  intro x b pv v ob he
  subst hS
  unfold Seg.effs at h
  rw [List.all_eq_true] at h
  have := h (Sh.ef b pv) (List.mem_map.2 ⟨_, List.mem_of_getElem? he, rfl⟩)
  have hb : b = 0 := by simpa using this
  subst hb
  exact ⟨g, o, rfl⟩
theorem keep1 (hU : Seg.base [(g, o)] w U) (hn : p ≠ g) (h : w.heap[p]? = some o') : U.heap[p]? = some o' :=
  KeepX.held hU h (fun b g' o'' hb => by
    cases b with
    | zero => cases hb; exact hn
    | succ b => simp at hb)
theorem keep1_cell (hU : Seg.base [(g, o)] w U) {p : Addr} {v : Value} (hc : w.cell? p = some v) (hn : p.block ≠ g) : U.cell? p = some v :=
  KeepX.cellB hU hc (fun b g' o'' hb => by
    cases b with
    | zero => cases hb; exact hn
    | succ b => simp at hb)
theorem keep1_below {B : Nat} {w0 : World} (hB : Below B w0 w) (hU : Seg.base [(g, o)] w U) (hg : B ≤ g) (hBw : B ≤ w.heap.size) : Below B w0 U :=
  hB.trans ⟨hU.os, hU.tape, hU.output, hU.size, fun k hk => hU.block k (by omega) (fun b g' o'' hb => by
    cases b with
    | zero => cases hb; omega
    | succ b => simp at hb)⟩
theorem keep1_size (hU : Seg.base [(g, o)] w U) : w.heap.size ≤ U.heap.size := hU.size
def Seg.lastB (S : List Sh) (b e : Nat) : Bool := S.all fun | .ef b' (some q) => b' != b || q != e | _ => true
/-- What the old block holds in the end: behind operation e, which is the last one that changes it. -/
theorem Seg.end1 {X : List (Nat × Obj)} (hx : Seg.endX E X 0 U) (hS : E.map Ent.sh = S) (b e : Nat) (hl : Seg.lastB S b e = true) {o0 : Obj} (hX : X[b]? = some (g, o0)) {pv : Option Nat} {v : Value} {ob : Obj} (he : E[e]? = some (Ent.ef b pv v ob)) : U.heap[g]? = some ob := by
  refine (hx b g o0 hX).2 e pv v ob he fun y v' o' hy => ?_
  subst hS
  unfold Seg.lastB at hl
  rw [List.all_eq_true] at hl
  have := hl (Sh.ef b (some (0 + e))) (List.mem_map.2 ⟨_, List.mem_of_getElem? hy, rfl⟩)
  simp at this
end

end Go.Proofs.Ytjeiclfdhdcfnaa

/- Stores of a cell, or of a struct, into an old block: the equation makes a walk go on over the new world. -/
namespace Go.Proofs.Ytjeiclfdhdcfnaa
open Go.RowKit
set_option linter.unusedVariables false

theorem onS {w w' : World} {p : Nat} {o : Obj} (h : w.heap[p]? = some o) (hb : Below w.heap.size w w') : w'.heap[p]? = some o := by
  rw [hb.block p (held_lt h)]; exact h
theorem putS {U V : World} {p : Nat} (h : Only p U V) (j : Nat) (v : Value) : Only p U (V.setCell ⟨p, j, none⟩ v) := h.then (Only.set p j v V)
theorem st1 {U : World} {p : Nat} {c : Array Value} {T : TypeId} (h : U.heap[p]? = some (.cells c T (0, 0))) (j : Nat) (v : Value) : ∃ W2, U.setCell ⟨p, j, none⟩ v = W2 ∧ W2.heap[p]? = some (.cells (c.setIfInBounds j v) T (0, 0)) ∧ Only p U W2 :=
  ⟨_, rfl, held_set h j v, Only.set p j v U⟩
theorem st3 {U : World} {p : Nat} {v0 v1 v2 : Value} {T : TypeId} (h : U.heap[p]? = some (.cells #[v0, v1, v2] T (0, 0))) (u0 u1 u2 : Value) :
    ∃ W2, ((U.setCell ⟨p, 0, none⟩ u0).setCell ⟨p, 1, none⟩ u1).setCell ⟨p, 2, none⟩ u2 = W2 ∧ W2.heap[p]? = some (.cells #[u0, u1, u2] T (0, 0)) ∧ Only p U W2 := by
  have h4 := held_set (held_set (held_set h 0 u0) 1 u1) 2 u2
  exact ⟨_, rfl, h4, putS (putS (Only.set p 0 u0 U) 1 u1) 2 u2⟩
theorem st4 {U : World} {p : Nat} {v0 v1 v2 v3 : Value} {T : TypeId} (h : U.heap[p]? = some (.cells #[v0, v1, v2, v3] T (0, 0))) (u0 u1 u2 u3 : Value) :
    ∃ W2, (((U.setCell ⟨p, 0, none⟩ u0).setCell ⟨p, 1, none⟩ u1).setCell ⟨p, 2, none⟩ u2).setCell ⟨p, 3, none⟩ u3 = W2 ∧ W2.heap[p]? = some (.cells #[u0, u1, u2, u3] T (0, 0)) ∧ Only p U W2 := by
  have h4 := held_set (held_set (held_set (held_set h 0 u0) 1 u1) 2 u2) 3 u3
  exact ⟨_, rfl, h4, putS (putS (putS (Only.set p 0 u0 U) 1 u1) 2 u2) 3 u3⟩
theorem st5 {U : World} {p : Nat} {v0 v1 v2 v3 v4 : Value} {T : TypeId} (h : U.heap[p]? = some (.cells #[v0, v1, v2, v3, v4] T (0, 0))) (u0 u1 u2 u3 u4 : Value) :
    ∃ W2, ((((U.setCell ⟨p, 0, none⟩ u0).setCell ⟨p, 1, none⟩ u1).setCell ⟨p, 2, none⟩ u2).setCell ⟨p, 3, none⟩ u3).setCell ⟨p, 4, none⟩ u4 = W2 ∧ W2.heap[p]? = some (.cells #[u0, u1, u2, u3, u4] T (0, 0)) ∧ Only p U W2 := by
  have h4 := held_set (held_set (held_set (held_set (held_set h 0 u0) 1 u1) 2 u2) 3 u3) 4 u4
  exact ⟨_, rfl, h4, putS (putS (putS (putS (Only.set p 0 u0 U) 1 u1) 2 u2) 3 u3) 4 u4⟩
theorem heldS {w w' : World} {p q : Nat} {o : Obj} (hO : Only p w w') (hne : q ≠ p) (h : w.heap[q]? = some o) : w'.heap[q]? = some o := by rw [hO.block q hne]; exact h
theorem belowS {B : Nat} {w0 w w' : World} {p : Nat} (h : Below B w0 w) (hO : Only p w w') (hp : B ≤ p) : Below B w0 w' := h.trans ⟨hO.os, hO.tape, hO.output, by rw [hO.size]; exact Nat.le_refl _, fun k hk => hO.block k (by omega)⟩
theorem st2 {U : World} {p : Nat} {v0 v1 : Value} {T : TypeId} (h : U.heap[p]? = some (.cells #[v0, v1] T (0, 0))) (u0 u1 : Value) :
    ∃ W2, (U.setCell ⟨p, 0, none⟩ u0).setCell ⟨p, 1, none⟩ u1 = W2 ∧ W2.heap[p]? = some (.cells #[u0, u1] T (0, 0)) ∧ Only p U W2 := by
  have h4 := held_set (held_set h 0 u0) 1 u1
  exact ⟨_, rfl, h4, putS (Only.set p 0 u0 U) 1 u1⟩

end Go.Proofs.Ytjeiclfdhdcfnaa

/- Stores of structs of 6 to 12 cells into an old block. -/
namespace Go.Proofs.Ytjeiclfdhdcfnaa
open Go.RowKit
set_option linter.unusedVariables false

theorem st6 {U : World} {p : Nat} {v0 v1 v2 v3 v4 v5 : Value} {T : TypeId} (h : U.heap[p]? = some (.cells #[v0, v1, v2, v3, v4, v5] T (0, 0))) (u0 u1 u2 u3 u4 u5 : Value) :
    ∃ W2, (((((U.setCell ⟨p, 0, none⟩ u0).setCell ⟨p, 1, none⟩ u1).setCell ⟨p, 2, none⟩ u2).setCell ⟨p, 3, none⟩ u3).setCell ⟨p, 4, none⟩ u4).setCell ⟨p, 5, none⟩ u5 = W2 ∧ W2.heap[p]? = some (.cells #[u0, u1, u2, u3, u4, u5] T (0, 0)) ∧ Only p U W2 := by
  have h0 : (U.setCell ⟨p, 0, none⟩ u0).heap[p]? = some (.cells #[u0, v1, v2, v3, v4, v5] T (0, 0)) := held_set h 0 u0
  have o0 : Only p U (U.setCell ⟨p, 0, none⟩ u0) := Only.set p 0 u0 U
  obtain ⟨W0, hW0⟩ : ∃ W, (U.setCell ⟨p, 0, none⟩ u0) = W := ⟨_, rfl⟩
  rw [hW0] at h0 o0 ⊢
  have h1 : (W0.setCell ⟨p, 1, none⟩ u1).heap[p]? = some (.cells #[u0, u1, v2, v3, v4, v5] T (0, 0)) := held_set h0 1 u1
  have o1 : Only p U (W0.setCell ⟨p, 1, none⟩ u1) := putS o0 1 u1
  obtain ⟨W1, hW1⟩ : ∃ W, (W0.setCell ⟨p, 1, none⟩ u1) = W := ⟨_, rfl⟩
  rw [hW1] at h1 o1 ⊢
  have h2 : (W1.setCell ⟨p, 2, none⟩ u2).heap[p]? = some (.cells #[u0, u1, u2, v3, v4, v5] T (0, 0)) := held_set h1 2 u2
  have o2 : Only p U (W1.setCell ⟨p, 2, none⟩ u2) := putS o1 2 u2
  obtain ⟨W2, hW2⟩ : ∃ W, (W1.setCell ⟨p, 2, none⟩ u2) = W := ⟨_, rfl⟩
  rw [hW2] at h2 o2 ⊢
  have h3 : (W2.setCell ⟨p, 3, none⟩ u3).heap[p]? = some (.cells #[u0, u1, u2, u3, v4, v5] T (0, 0)) := held_set h2 3 u3
  have o3 : Only p U (W2.setCell ⟨p, 3, none⟩ u3) := putS o2 3 u3
  obtain ⟨W3, hW3⟩ : ∃ W, (W2.setCell ⟨p, 3, none⟩ u3) = W := ⟨_, rfl⟩
  rw [hW3] at h3 o3 ⊢
  have h4 : (W3.setCell ⟨p, 4, none⟩ u4).heap[p]? = some (.cells #[u0, u1, u2, u3, u4, v5] T (0, 0)) := held_set h3 4 u4
  have o4 : Only p U (W3.setCell ⟨p, 4, none⟩ u4) := putS o3 4 u4
  obtain ⟨W4, hW4⟩ : ∃ W, (W3.setCell ⟨p, 4, none⟩ u4) = W := ⟨_, rfl⟩
  rw [hW4] at h4 o4 ⊢
  have h5 : (W4.setCell ⟨p, 5, none⟩ u5).heap[p]? = some (.cells #[u0, u1, u2, u3, u4, u5] T (0, 0)) := held_set h4 5 u5
  have o5 : Only p U (W4.setCell ⟨p, 5, none⟩ u5) := putS o4 5 u5
  obtain ⟨W5, hW5⟩ : ∃ W, (W4.setCell ⟨p, 5, none⟩ u5) = W := ⟨_, rfl⟩
  rw [hW5] at h5 o5 ⊢
  exact ⟨_, rfl, h5, o5⟩
theorem st7 {U : World} {p : Nat} {v0 v1 v2 v3 v4 v5 v6 : Value} {T : TypeId} (h : U.heap[p]? = some (.cells #[v0, v1, v2, v3, v4, v5, v6] T (0, 0))) (u0 u1 u2 u3 u4 u5 u6 : Value) :
    ∃ W2, ((((((U.setCell ⟨p, 0, none⟩ u0).setCell ⟨p, 1, none⟩ u1).setCell ⟨p, 2, none⟩ u2).setCell ⟨p, 3, none⟩ u3).setCell ⟨p, 4, none⟩ u4).setCell ⟨p, 5, none⟩ u5).setCell ⟨p, 6, none⟩ u6 = W2 ∧ W2.heap[p]? = some (.cells #[u0, u1, u2, u3, u4, u5, u6] T (0, 0)) ∧ Only p U W2 := by
  have h0 : (U.setCell ⟨p, 0, none⟩ u0).heap[p]? = some (.cells #[u0, v1, v2, v3, v4, v5, v6] T (0, 0)) := held_set h 0 u0
  have o0 : Only p U (U.setCell ⟨p, 0, none⟩ u0) := Only.set p 0 u0 U
  obtain ⟨W0, hW0⟩ : ∃ W, (U.setCell ⟨p, 0, none⟩ u0) = W := ⟨_, rfl⟩
  rw [hW0] at h0 o0 ⊢
  have h1 : (W0.setCell ⟨p, 1, none⟩ u1).heap[p]? = some (.cells #[u0, u1, v2, v3, v4, v5, v6] T (0, 0)) := held_set h0 1 u1
  have o1 : Only p U (W0.setCell ⟨p, 1, none⟩ u1) := putS o0 1 u1
  obtain ⟨W1, hW1⟩ : ∃ W, (W0.setCell ⟨p, 1, none⟩ u1) = W := ⟨_, rfl⟩
  rw [hW1] at h1 o1 ⊢
  have h2 : (W1.setCell ⟨p, 2, none⟩ u2).heap[p]? = some (.cells #[u0, u1, u2, v3, v4, v5, v6] T (0, 0)) := held_set h1 2 u2
  have o2 : Only p U (W1.setCell ⟨p, 2, none⟩ u2) := putS o1 2 u2
  obtain ⟨W2, hW2⟩ : ∃ W, (W1.setCell ⟨p, 2, none⟩ u2) = W := ⟨_, rfl⟩
  rw [hW2] at h2 o2 ⊢
  have h3 : (W2.setCell ⟨p, 3, none⟩ u3).heap[p]? = some (.cells #[u0, u1, u2, u3, v4, v5, v6] T (0, 0)) := held_set h2 3 u3
  have o3 : Only p U (W2.setCell ⟨p, 3, none⟩ u3) := putS o2 3 u3
  obtain ⟨W3, hW3⟩ : ∃ W, (W2.setCell ⟨p, 3, none⟩ u3) = W := ⟨_, rfl⟩
  rw [hW3] at h3 o3 ⊢
  have h4 : (W3.setCell ⟨p, 4, none⟩ u4).heap[p]? = some (.cells #[u0, u1, u2, u3, u4, v5, v6] T (0, 0)) := held_set h3 4 u4
  have o4 : Only p U (W3.setCell ⟨p, 4, none⟩ u4) := putS o3 4 u4
  obtain ⟨W4, hW4⟩ : ∃ W, (W3.setCell ⟨p, 4, none⟩ u4) = W := ⟨_, rfl⟩
  rw [hW4] at h4 o4 ⊢
  have h5 : (W4.setCell ⟨p, 5, none⟩ u5).heap[p]? = some (.cells #[u0, u1, u2, u3, u4, u5, v6] T (0, 0)) := held_set h4 5 u5
  have o5 : Only p U (W4.setCell ⟨p, 5, none⟩ u5) := putS o4 5 u5
  obtain ⟨W5, hW5⟩ : ∃ W, (W4.setCell ⟨p, 5, none⟩ u5) = W := ⟨_, rfl⟩
  rw [hW5] at h5 o5 ⊢
  have h6 : (W5.setCell ⟨p, 6, none⟩ u6).heap[p]? = some (.cells #[u0, u1, u2, u3, u4, u5, u6] T (0, 0)) := held_set h5 6 u6
  have o6 : Only p U (W5.setCell ⟨p, 6, none⟩ u6) := putS o5 6 u6
  obtain ⟨W6, hW6⟩ : ∃ W, (W5.setCell ⟨p, 6, none⟩ u6) = W := ⟨_, rfl⟩
  rw [hW6] at h6 o6 ⊢
  exact ⟨_, rfl, h6, o6⟩
theorem st8 {U : World} {p : Nat} {v0 v1 v2 v3 v4 v5 v6 v7 : Value} {T : TypeId} (h : U.heap[p]? = some (.cells #[v0, v1, v2, v3, v4, v5, v6, v7] T (0, 0))) (u0 u1 u2 u3 u4 u5 u6 u7 : Value) :
    ∃ W2, (((((((U.setCell ⟨p, 0, none⟩ u0).setCell ⟨p, 1, none⟩ u1).setCell ⟨p, 2, none⟩ u2).setCell ⟨p, 3, none⟩ u3).setCell ⟨p, 4, none⟩ u4).setCell ⟨p, 5, none⟩ u5).setCell ⟨p, 6, none⟩ u6).setCell ⟨p, 7, none⟩ u7 = W2 ∧ W2.heap[p]? = some (.cells #[u0, u1, u2, u3, u4, u5, u6, u7] T (0, 0)) ∧ Only p U W2 := by
  have h0 : (U.setCell ⟨p, 0, none⟩ u0).heap[p]? = some (.cells #[u0, v1, v2, v3, v4, v5, v6, v7] T (0, 0)) := held_set h 0 u0
  have o0 : Only p U (U.setCell ⟨p, 0, none⟩ u0) := Only.set p 0 u0 U
  obtain ⟨W0, hW0⟩ : ∃ W, (U.setCell ⟨p, 0, none⟩ u0) = W := ⟨_, rfl⟩
  rw [hW0] at h0 o0 ⊢
  have h1 : (W0.setCell ⟨p, 1, none⟩ u1).heap[p]? = some (.cells #[u0, u1, v2, v3, v4, v5, v6, v7] T (0, 0)) := held_set h0 1 u1
  have o1 : Only p U (W0.setCell ⟨p, 1, none⟩ u1) := putS o0 1 u1
  obtain ⟨W1, hW1⟩ : ∃ W, (W0.setCell ⟨p, 1, none⟩ u1) = W := ⟨_, rfl⟩
  rw [hW1] at h1 o1 ⊢
  have h2 : (W1.setCell ⟨p, 2, none⟩ u2).heap[p]? = some (.cells #[u0, u1, u2, v3, v4, v5, v6, v7] T (0, 0)) := held_set h1 2 u2
  have o2 : Only p U (W1.setCell ⟨p, 2, none⟩ u2) := putS o1 2 u2
  obtain ⟨W2, hW2⟩ : ∃ W, (W1.setCell ⟨p, 2, none⟩ u2) = W := ⟨_, rfl⟩
  rw [hW2] at h2 o2 ⊢
  have h3 : (W2.setCell ⟨p, 3, none⟩ u3).heap[p]? = some (.cells #[u0, u1, u2, u3, v4, v5, v6, v7] T (0, 0)) := held_set h2 3 u3
  have o3 : Only p U (W2.setCell ⟨p, 3, none⟩ u3) := putS o2 3 u3
  obtain ⟨W3, hW3⟩ : ∃ W, (W2.setCell ⟨p, 3, none⟩ u3) = W := ⟨_, rfl⟩
  rw [hW3] at h3 o3 ⊢
  have h4 : (W3.setCell ⟨p, 4, none⟩ u4).heap[p]? = some (.cells #[u0, u1, u2, u3, u4, v5, v6, v7] T (0, 0)) := held_set h3 4 u4
  have o4 : Only p U (W3.setCell ⟨p, 4, none⟩ u4) := putS o3 4 u4
  obtain ⟨W4, hW4⟩ : ∃ W, (W3.setCell ⟨p, 4, none⟩ u4) = W := ⟨_, rfl⟩
  rw [hW4] at h4 o4 ⊢
  have h5 : (W4.setCell ⟨p, 5, none⟩ u5).heap[p]? = some (.cells #[u0, u1, u2, u3, u4, u5, v6, v7] T (0, 0)) := held_set h4 5 u5
  have o5 : Only p U (W4.setCell ⟨p, 5, none⟩ u5) := putS o4 5 u5
  obtain ⟨W5, hW5⟩ : ∃ W, (W4.setCell ⟨p, 5, none⟩ u5) = W := ⟨_, rfl⟩
  rw [hW5] at h5 o5 ⊢
  have h6 : (W5.setCell ⟨p, 6, none⟩ u6).heap[p]? = some (.cells #[u0, u1, u2, u3, u4, u5, u6, v7] T (0, 0)) := held_set h5 6 u6
  have o6 : Only p U (W5.setCell ⟨p, 6, none⟩ u6) := putS o5 6 u6
  obtain ⟨W6, hW6⟩ : ∃ W, (W5.setCell ⟨p, 6, none⟩ u6) = W := ⟨_, rfl⟩
  rw [hW6] at h6 o6 ⊢
  have h7 : (W6.setCell ⟨p, 7, none⟩ u7).heap[p]? = some (.cells #[u0, u1, u2, u3, u4, u5, u6, u7] T (0, 0)) := held_set h6 7 u7
  have o7 : Only p U (W6.setCell ⟨p, 7, none⟩ u7) := putS o6 7 u7
  obtain ⟨W7, hW7⟩ : ∃ W, (W6.setCell ⟨p, 7, none⟩ u7) = W := ⟨_, rfl⟩
  rw [hW7] at h7 o7 ⊢
  exact ⟨_, rfl, h7, o7⟩
theorem st9 {U : World} {p : Nat} {v0 v1 v2 v3 v4 v5 v6 v7 v8 : Value} {T : TypeId} (h : U.heap[p]? = some (.cells #[v0, v1, v2, v3, v4, v5, v6, v7, v8] T (0, 0))) (u0 u1 u2 u3 u4 u5 u6 u7 u8 : Value) :
    ∃ W2, ((((((((U.setCell ⟨p, 0, none⟩ u0).setCell ⟨p, 1, none⟩ u1).setCell ⟨p, 2, none⟩ u2).setCell ⟨p, 3, none⟩ u3).setCell ⟨p, 4, none⟩ u4).setCell ⟨p, 5, none⟩ u5).setCell ⟨p, 6, none⟩ u6).setCell ⟨p, 7, none⟩ u7).setCell ⟨p, 8, none⟩ u8 = W2 ∧ W2.heap[p]? = some (.cells #[u0, u1, u2, u3, u4, u5, u6, u7, u8] T (0, 0)) ∧ Only p U W2 := by
  have h0 : (U.setCell ⟨p, 0, none⟩ u0).heap[p]? = some (.cells #[u0, v1, v2, v3, v4, v5, v6, v7, v8] T (0, 0)) := held_set h 0 u0
  have o0 : Only p U (U.setCell ⟨p, 0, none⟩ u0) := Only.set p 0 u0 U
  obtain ⟨W0, hW0⟩ : ∃ W, (U.setCell ⟨p, 0, none⟩ u0) = W := ⟨_, rfl⟩
  rw [hW0] at h0 o0 ⊢
  have h1 : (W0.setCell ⟨p, 1, none⟩ u1).heap[p]? = some (.cells #[u0, u1, v2, v3, v4, v5, v6, v7, v8] T (0, 0)) := held_set h0 1 u1
  have o1 : Only p U (W0.setCell ⟨p, 1, none⟩ u1) := putS o0 1 u1
  obtain ⟨W1, hW1⟩ : ∃ W, (W0.setCell ⟨p, 1, none⟩ u1) = W := ⟨_, rfl⟩
  rw [hW1] at h1 o1 ⊢
  have h2 : (W1.setCell ⟨p, 2, none⟩ u2).heap[p]? = some (.cells #[u0, u1, u2, v3, v4, v5, v6, v7, v8] T (0, 0)) := held_set h1 2 u2
  have o2 : Only p U (W1.setCell ⟨p, 2, none⟩ u2) := putS o1 2 u2
  obtain ⟨W2, hW2⟩ : ∃ W, (W1.setCell ⟨p, 2, none⟩ u2) = W := ⟨_, rfl⟩
  rw [hW2] at h2 o2 ⊢
  have h3 : (W2.setCell ⟨p, 3, none⟩ u3).heap[p]? = some (.cells #[u0, u1, u2, u3, v4, v5, v6, v7, v8] T (0, 0)) := held_set h2 3 u3
  have o3 : Only p U (W2.setCell ⟨p, 3, none⟩ u3) := putS o2 3 u3
  obtain ⟨W3, hW3⟩ : ∃ W, (W2.setCell ⟨p, 3, none⟩ u3) = W := ⟨_, rfl⟩
  rw [hW3] at h3 o3 ⊢
  have h4 : (W3.setCell ⟨p, 4, none⟩ u4).heap[p]? = some (.cells #[u0, u1, u2, u3, u4, v5, v6, v7, v8] T (0, 0)) := held_set h3 4 u4
  have o4 : Only p U (W3.setCell ⟨p, 4, none⟩ u4) := putS o3 4 u4
  obtain ⟨W4, hW4⟩ : ∃ W, (W3.setCell ⟨p, 4, none⟩ u4) = W := ⟨_, rfl⟩
  rw [hW4] at h4 o4 ⊢
  have h5 : (W4.setCell ⟨p, 5, none⟩ u5).heap[p]? = some (.cells #[u0, u1, u2, u3, u4, u5, v6, v7, v8] T (0, 0)) := held_set h4 5 u5
  have o5 : Only p U (W4.setCell ⟨p, 5, none⟩ u5) := putS o4 5 u5
  obtain ⟨W5, hW5⟩ : ∃ W, (W4.setCell ⟨p, 5, none⟩ u5) = W := ⟨_, rfl⟩
  rw [hW5] at h5 o5 ⊢
  have h6 : (W5.setCell ⟨p, 6, none⟩ u6).heap[p]? = some (.cells #[u0, u1, u2, u3, u4, u5, u6, v7, v8] T (0, 0)) := held_set h5 6 u6
  have o6 : Only p U (W5.setCell ⟨p, 6, none⟩ u6) := putS o5 6 u6
  obtain ⟨W6, hW6⟩ : ∃ W, (W5.setCell ⟨p, 6, none⟩ u6) = W := ⟨_, rfl⟩
  rw [hW6] at h6 o6 ⊢
  have h7 : (W6.setCell ⟨p, 7, none⟩ u7).heap[p]? = some (.cells #[u0, u1, u2, u3, u4, u5, u6, u7, v8] T (0, 0)) := held_set h6 7 u7
  have o7 : Only p U (W6.setCell ⟨p, 7, none⟩ u7) := putS o6 7 u7
  obtain ⟨W7, hW7⟩ : ∃ W, (W6.setCell ⟨p, 7, none⟩ u7) = W := ⟨_, rfl⟩
  rw [hW7] at h7 o7 ⊢
  have h8 : (W7.setCell ⟨p, 8, none⟩ u8).heap[p]? = some (.cells #[u0, u1, u2, u3, u4, u5, u6, u7, u8] T (0, 0)) := held_set h7 8 u8
  have o8 : Only p U (W7.setCell ⟨p, 8, none⟩ u8) := putS o7 8 u8
  obtain ⟨W8, hW8⟩ : ∃ W, (W7.setCell ⟨p, 8, none⟩ u8) = W := ⟨_, rfl⟩
  rw [hW8] at h8 o8 ⊢
  exact ⟨_, rfl, h8, o8⟩
theorem st10 {U : World} {p : Nat} {v0 v1 v2 v3 v4 v5 v6 v7 v8 v9 : Value} {T : TypeId} (h : U.heap[p]? = some (.cells #[v0, v1, v2, v3, v4, v5, v6, v7, v8, v9] T (0, 0))) (u0 u1 u2 u3 u4 u5 u6 u7 u8 u9 : Value) :
    ∃ W2, (((((((((U.setCell ⟨p, 0, none⟩ u0).setCell ⟨p, 1, none⟩ u1).setCell ⟨p, 2, none⟩ u2).setCell ⟨p, 3, none⟩ u3).setCell ⟨p, 4, none⟩ u4).setCell ⟨p, 5, none⟩ u5).setCell ⟨p, 6, none⟩ u6).setCell ⟨p, 7, none⟩ u7).setCell ⟨p, 8, none⟩ u8).setCell ⟨p, 9, none⟩ u9 = W2 ∧ W2.heap[p]? = some (.cells #[u0, u1, u2, u3, u4, u5, u6, u7, u8, u9] T (0, 0)) ∧ Only p U W2 := by
  have h0 : (U.setCell ⟨p, 0, none⟩ u0).heap[p]? = some (.cells #[u0, v1, v2, v3, v4, v5, v6, v7, v8, v9] T (0, 0)) := held_set h 0 u0
  have o0 : Only p U (U.setCell ⟨p, 0, none⟩ u0) := Only.set p 0 u0 U
  obtain ⟨W0, hW0⟩ : ∃ W, (U.setCell ⟨p, 0, none⟩ u0) = W := ⟨_, rfl⟩
  rw [hW0] at h0 o0 ⊢
  have h1 : (W0.setCell ⟨p, 1, none⟩ u1).heap[p]? = some (.cells #[u0, u1, v2, v3, v4, v5, v6, v7, v8, v9] T (0, 0)) := held_set h0 1 u1
  have o1 : Only p U (W0.setCell ⟨p, 1, none⟩ u1) := putS o0 1 u1
  obtain ⟨W1, hW1⟩ : ∃ W, (W0.setCell ⟨p, 1, none⟩ u1) = W := ⟨_, rfl⟩
  rw [hW1] at h1 o1 ⊢
  have h2 : (W1.setCell ⟨p, 2, none⟩ u2).heap[p]? = some (.cells #[u0, u1, u2, v3, v4, v5, v6, v7, v8, v9] T (0, 0)) := held_set h1 2 u2
  have o2 : Only p U (W1.setCell ⟨p, 2, none⟩ u2) := putS o1 2 u2
  obtain ⟨W2, hW2⟩ : ∃ W, (W1.setCell ⟨p, 2, none⟩ u2) = W := ⟨_, rfl⟩
  rw [hW2] at h2 o2 ⊢
  have h3 : (W2.setCell ⟨p, 3, none⟩ u3).heap[p]? = some (.cells #[u0, u1, u2, u3, v4, v5, v6, v7, v8, v9] T (0, 0)) := held_set h2 3 u3
  have o3 : Only p U (W2.setCell ⟨p, 3, none⟩ u3) := putS o2 3 u3
  obtain ⟨W3, hW3⟩ : ∃ W, (W2.setCell ⟨p, 3, none⟩ u3) = W := ⟨_, rfl⟩
  rw [hW3] at h3 o3 ⊢
  have h4 : (W3.setCell ⟨p, 4, none⟩ u4).heap[p]? = some (.cells #[u0, u1, u2, u3, u4, v5, v6, v7, v8, v9] T (0, 0)) := held_set h3 4 u4
  have o4 : Only p U (W3.setCell ⟨p, 4, none⟩ u4) := putS o3 4 u4
  obtain ⟨W4, hW4⟩ : ∃ W, (W3.setCell ⟨p, 4, none⟩ u4) = W := ⟨_, rfl⟩
  rw [hW4] at h4 o4 ⊢
  have h5 : (W4.setCell ⟨p, 5, none⟩ u5).heap[p]? = some (.cells #[u0, u1, u2, u3, u4, u5, v6, v7, v8, v9] T (0, 0)) := held_set h4 5 u5
  have o5 : Only p U (W4.setCell ⟨p, 5, none⟩ u5) := putS o4 5 u5
  obtain ⟨W5, hW5⟩ : ∃ W, (W4.setCell ⟨p, 5, none⟩ u5) = W := ⟨_, rfl⟩
  rw [hW5] at h5 o5 ⊢
  have h6 : (W5.setCell ⟨p, 6, none⟩ u6).heap[p]? = some (.cells #[u0, u1, u2, u3, u4, u5, u6, v7, v8, v9] T (0, 0)) := held_set h5 6 u6
  have o6 : Only p U (W5.setCell ⟨p, 6, none⟩ u6) := putS o5 6 u6
  obtain ⟨W6, hW6⟩ : ∃ W, (W5.setCell ⟨p, 6, none⟩ u6) = W := ⟨_, rfl⟩
  rw [hW6] at h6 o6 ⊢
  have h7 : (W6.setCell ⟨p, 7, none⟩ u7).heap[p]? = some (.cells #[u0, u1, u2, u3, u4, u5, u6, u7, v8, v9] T (0, 0)) := held_set h6 7 u7
  have o7 : Only p U (W6.setCell ⟨p, 7, none⟩ u7) := putS o6 7 u7
  obtain ⟨W7, hW7⟩ : ∃ W, (W6.setCell ⟨p, 7, none⟩ u7) = W := ⟨_, rfl⟩
  rw [hW7] at h7 o7 ⊢
  have h8 : (W7.setCell ⟨p, 8, none⟩ u8).heap[p]? = some (.cells #[u0, u1, u2, u3, u4, u5, u6, u7, u8, v9] T (0, 0)) := held_set h7 8 u8
  have o8 : Only p U (W7.setCell ⟨p, 8, none⟩ u8) := putS o7 8 u8
  obtain ⟨W8, hW8⟩ : ∃ W, (W7.setCell ⟨p, 8, none⟩ u8) = W := ⟨_, rfl⟩
  rw [hW8] at h8 o8 ⊢
  have h9 : (W8.setCell ⟨p, 9, none⟩ u9).heap[p]? = some (.cells #[u0, u1, u2, u3, u4, u5, u6, u7, u8, u9] T (0, 0)) := held_set h8 9 u9
  have o9 : Only p U (W8.setCell ⟨p, 9, none⟩ u9) := putS o8 9 u9
  obtain ⟨W9, hW9⟩ : ∃ W, (W8.setCell ⟨p, 9, none⟩ u9) = W := ⟨_, rfl⟩
  rw [hW9] at h9 o9 ⊢
  exact ⟨_, rfl, h9, o9⟩
theorem st11 {U : World} {p : Nat} {v0 v1 v2 v3 v4 v5 v6 v7 v8 v9 v10 : Value} {T : TypeId} (h : U.heap[p]? = some (.cells #[v0, v1, v2, v3, v4, v5, v6, v7, v8, v9, v10] T (0, 0))) (u0 u1 u2 u3 u4 u5 u6 u7 u8 u9 u10 : Value) :
    ∃ W2, ((((((((((U.setCell ⟨p, 0, none⟩ u0).setCell ⟨p, 1, none⟩ u1).setCell ⟨p, 2, none⟩ u2).setCell ⟨p, 3, none⟩ u3).setCell ⟨p, 4, none⟩ u4).setCell ⟨p, 5, none⟩ u5).setCell ⟨p, 6, none⟩ u6).setCell ⟨p, 7, none⟩ u7).setCell ⟨p, 8, none⟩ u8).setCell ⟨p, 9, none⟩ u9).setCell ⟨p, 10, none⟩ u10 = W2 ∧ W2.heap[p]? = some (.cells #[u0, u1, u2, u3, u4, u5, u6, u7, u8, u9, u10] T (0, 0)) ∧ Only p U W2 := by
  have h0 : (U.setCell ⟨p, 0, none⟩ u0).heap[p]? = some (.cells #[u0, v1, v2, v3, v4, v5, v6, v7, v8, v9, v10] T (0, 0)) := held_set h 0 u0
  have o0 : Only p U (U.setCell ⟨p, 0, none⟩ u0) := Only.set p 0 u0 U
  obtain ⟨W0, hW0⟩ : ∃ W, (U.setCell ⟨p, 0, none⟩ u0) = W := ⟨_, rfl⟩
  rw [hW0] at h0 o0 ⊢
  have h1 : (W0.setCell ⟨p, 1, none⟩ u1).heap[p]? = some (.cells #[u0, u1, v2, v3, v4, v5, v6, v7, v8, v9, v10] T (0, 0)) := held_set h0 1 u1
  have o1 : Only p U (W0.setCell ⟨p, 1, none⟩ u1) := putS o0 1 u1
  obtain ⟨W1, hW1⟩ : ∃ W, (W0.setCell ⟨p, 1, none⟩ u1) = W := ⟨_, rfl⟩
  rw [hW1] at h1 o1 ⊢
  have h2 : (W1.setCell ⟨p, 2, none⟩ u2).heap[p]? = some (.cells #[u0, u1, u2, v3, v4, v5, v6, v7, v8, v9, v10] T (0, 0)) := held_set h1 2 u2
  have o2 : Only p U (W1.setCell ⟨p, 2, none⟩ u2) := putS o1 2 u2
  obtain ⟨W2, hW2⟩ : ∃ W, (W1.setCell ⟨p, 2, none⟩ u2) = W := ⟨_, rfl⟩
  rw [hW2] at h2 o2 ⊢
  have h3 : (W2.setCell ⟨p, 3, none⟩ u3).heap[p]? = some (.cells #[u0, u1, u2, u3, v4, v5, v6, v7, v8, v9, v10] T (0, 0)) := held_set h2 3 u3
  have o3 : Only p U (W2.setCell ⟨p, 3, none⟩ u3) := putS o2 3 u3
  obtain ⟨W3, hW3⟩ : ∃ W, (W2.setCell ⟨p, 3, none⟩ u3) = W := ⟨_, rfl⟩
  rw [hW3] at h3 o3 ⊢
  have h4 : (W3.setCell ⟨p, 4, none⟩ u4).heap[p]? = some (.cells #[u0, u1, u2, u3, u4, v5, v6, v7, v8, v9, v10] T (0, 0)) := held_set h3 4 u4
  have o4 : Only p U (W3.setCell ⟨p, 4, none⟩ u4) := putS o3 4 u4
  obtain ⟨W4, hW4⟩ : ∃ W, (W3.setCell ⟨p, 4, none⟩ u4) = W := ⟨_, rfl⟩
  rw [hW4] at h4 o4 ⊢
  have h5 : (W4.setCell ⟨p, 5, none⟩ u5).heap[p]? = some (.cells #[u0, u1, u2, u3, u4, u5, v6, v7, v8, v9, v10] T (0, 0)) := held_set h4 5 u5
  have o5 : Only p U (W4.setCell ⟨p, 5, none⟩ u5) := putS o4 5 u5
  obtain ⟨W5, hW5⟩ : ∃ W, (W4.setCell ⟨p, 5, none⟩ u5) = W := ⟨_, rfl⟩
  rw [hW5] at h5 o5 ⊢
  have h6 : (W5.setCell ⟨p, 6, none⟩ u6).heap[p]? = some (.cells #[u0, u1, u2, u3, u4, u5, u6, v7, v8, v9, v10] T (0, 0)) := held_set h5 6 u6
  have o6 : Only p U (W5.setCell ⟨p, 6, none⟩ u6) := putS o5 6 u6
  obtain ⟨W6, hW6⟩ : ∃ W, (W5.setCell ⟨p, 6, none⟩ u6) = W := ⟨_, rfl⟩
  rw [hW6] at h6 o6 ⊢
  have h7 : (W6.setCell ⟨p, 7, none⟩ u7).heap[p]? = some (.cells #[u0, u1, u2, u3, u4, u5, u6, u7, v8, v9, v10] T (0, 0)) := held_set h6 7 u7
  have o7 : Only p U (W6.setCell ⟨p, 7, none⟩ u7) := putS o6 7 u7
  obtain ⟨W7, hW7⟩ : ∃ W, (W6.setCell ⟨p, 7, none⟩ u7) = W := ⟨_, rfl⟩
  rw [hW7] at h7 o7 ⊢
  have h8 : (W7.setCell ⟨p, 8, none⟩ u8).heap[p]? = some (.cells #[u0, u1, u2, u3, u4, u5, u6, u7, u8, v9, v10] T (0, 0)) := held_set h7 8 u8
  have o8 : Only p U (W7.setCell ⟨p, 8, none⟩ u8) := putS o7 8 u8
  obtain ⟨W8, hW8⟩ : ∃ W, (W7.setCell ⟨p, 8, none⟩ u8) = W := ⟨_, rfl⟩
  rw [hW8] at h8 o8 ⊢
  have h9 : (W8.setCell ⟨p, 9, none⟩ u9).heap[p]? = some (.cells #[u0, u1, u2, u3, u4, u5, u6, u7, u8, u9, v10] T (0, 0)) := held_set h8 9 u9
  have o9 : Only p U (W8.setCell ⟨p, 9, none⟩ u9) := putS o8 9 u9
  obtain ⟨W9, hW9⟩ : ∃ W, (W8.setCell ⟨p, 9, none⟩ u9) = W := ⟨_, rfl⟩
  rw [hW9] at h9 o9 ⊢
  have h10 : (W9.setCell ⟨p, 10, none⟩ u10).heap[p]? = some (.cells #[u0, u1, u2, u3, u4, u5, u6, u7, u8, u9, u10] T (0, 0)) := held_set h9 10 u10
  have o10 : Only p U (W9.setCell ⟨p, 10, none⟩ u10) := putS o9 10 u10
  obtain ⟨W10, hW10⟩ : ∃ W, (W9.setCell ⟨p, 10, none⟩ u10) = W := ⟨_, rfl⟩
  rw [hW10] at h10 o10 ⊢
  exact ⟨_, rfl, h10, o10⟩
theorem st12 {U : World} {p : Nat} {v0 v1 v2 v3 v4 v5 v6 v7 v8 v9 v10 v11 : Value} {T : TypeId} (h : U.heap[p]? = some (.cells #[v0, v1, v2, v3, v4, v5, v6, v7, v8, v9, v10, v11] T (0, 0))) (u0 u1 u2 u3 u4 u5 u6 u7 u8 u9 u10 u11 : Value) :
    ∃ W2, (((((((((((U.setCell ⟨p, 0, none⟩ u0).setCell ⟨p, 1, none⟩ u1).setCell ⟨p, 2, none⟩ u2).setCell ⟨p, 3, none⟩ u3).setCell ⟨p, 4, none⟩ u4).setCell ⟨p, 5, none⟩ u5).setCell ⟨p, 6, none⟩ u6).setCell ⟨p, 7, none⟩ u7).setCell ⟨p, 8, none⟩ u8).setCell ⟨p, 9, none⟩ u9).setCell ⟨p, 10, none⟩ u10).setCell ⟨p, 11, none⟩ u11 = W2 ∧ W2.heap[p]? = some (.cells #[u0, u1, u2, u3, u4, u5, u6, u7, u8, u9, u10, u11] T (0, 0)) ∧ Only p U W2 := by
  have h0 : (U.setCell ⟨p, 0, none⟩ u0).heap[p]? = some (.cells #[u0, v1, v2, v3, v4, v5, v6, v7, v8, v9, v10, v11] T (0, 0)) := held_set h 0 u0
  have o0 : Only p U (U.setCell ⟨p, 0, none⟩ u0) := Only.set p 0 u0 U
  obtain ⟨W0, hW0⟩ : ∃ W, (U.setCell ⟨p, 0, none⟩ u0) = W := ⟨_, rfl⟩
  rw [hW0] at h0 o0 ⊢
  have h1 : (W0.setCell ⟨p, 1, none⟩ u1).heap[p]? = some (.cells #[u0, u1, v2, v3, v4, v5, v6, v7, v8, v9, v10, v11] T (0, 0)) := held_set h0 1 u1
  have o1 : Only p U (W0.setCell ⟨p, 1, none⟩ u1) := putS o0 1 u1
  obtain ⟨W1, hW1⟩ : ∃ W, (W0.setCell ⟨p, 1, none⟩ u1) = W := ⟨_, rfl⟩
  rw [hW1] at h1 o1 ⊢
  have h2 : (W1.setCell ⟨p, 2, none⟩ u2).heap[p]? = some (.cells #[u0, u1, u2, v3, v4, v5, v6, v7, v8, v9, v10, v11] T (0, 0)) := held_set h1 2 u2
  have o2 : Only p U (W1.setCell ⟨p, 2, none⟩ u2) := putS o1 2 u2
  obtain ⟨W2, hW2⟩ : ∃ W, (W1.setCell ⟨p, 2, none⟩ u2) = W := ⟨_, rfl⟩
  rw [hW2] at h2 o2 ⊢
  have h3 : (W2.setCell ⟨p, 3, none⟩ u3).heap[p]? = some (.cells #[u0, u1, u2, u3, v4, v5, v6, v7, v8, v9, v10, v11] T (0, 0)) := held_set h2 3 u3
  have o3 : Only p U (W2.setCell ⟨p, 3, none⟩ u3) := putS o2 3 u3
  obtain ⟨W3, hW3⟩ : ∃ W, (W2.setCell ⟨p, 3, none⟩ u3) = W := ⟨_, rfl⟩
  rw [hW3] at h3 o3 ⊢
  have h4 : (W3.setCell ⟨p, 4, none⟩ u4).heap[p]? = some (.cells #[u0, u1, u2, u3, u4, v5, v6, v7, v8, v9, v10, v11] T (0, 0)) := held_set h3 4 u4
  have o4 : Only p U (W3.setCell ⟨p, 4, none⟩ u4) := putS o3 4 u4
  obtain ⟨W4, hW4⟩ : ∃ W, (W3.setCell ⟨p, 4, none⟩ u4) = W := ⟨_, rfl⟩
  rw [hW4] at h4 o4 ⊢
  have h5 : (W4.setCell ⟨p, 5, none⟩ u5).heap[p]? = some (.cells #[u0, u1, u2, u3, u4, u5, v6, v7, v8, v9, v10, v11] T (0, 0)) := held_set h4 5 u5
  have o5 : Only p U (W4.setCell ⟨p, 5, none⟩ u5) := putS o4 5 u5
  obtain ⟨W5, hW5⟩ : ∃ W, (W4.setCell ⟨p, 5, none⟩ u5) = W := ⟨_, rfl⟩
  rw [hW5] at h5 o5 ⊢
  have h6 : (W5.setCell ⟨p, 6, none⟩ u6).heap[p]? = some (.cells #[u0, u1, u2, u3, u4, u5, u6, v7, v8, v9, v10, v11] T (0, 0)) := held_set h5 6 u6
  have o6 : Only p U (W5.setCell ⟨p, 6, none⟩ u6) := putS o5 6 u6
  obtain ⟨W6, hW6⟩ : ∃ W, (W5.setCell ⟨p, 6, none⟩ u6) = W := ⟨_, rfl⟩
  rw [hW6] at h6 o6 ⊢
  have h7 : (W6.setCell ⟨p, 7, none⟩ u7).heap[p]? = some (.cells #[u0, u1, u2, u3, u4, u5, u6, u7, v8, v9, v10, v11] T (0, 0)) := held_set h6 7 u7
  have o7 : Only p U (W6.setCell ⟨p, 7, none⟩ u7) := putS o6 7 u7
  obtain ⟨W7, hW7⟩ : ∃ W, (W6.setCell ⟨p, 7, none⟩ u7) = W := ⟨_, rfl⟩
  rw [hW7] at h7 o7 ⊢
  have h8 : (W7.setCell ⟨p, 8, none⟩ u8).heap[p]? = some (.cells #[u0, u1, u2, u3, u4, u5, u6, u7, u8, v9, v10, v11] T (0, 0)) := held_set h7 8 u8
  have o8 : Only p U (W7.setCell ⟨p, 8, none⟩ u8) := putS o7 8 u8
  obtain ⟨W8, hW8⟩ : ∃ W, (W7.setCell ⟨p, 8, none⟩ u8) = W := ⟨_, rfl⟩
  rw [hW8] at h8 o8 ⊢
  have h9 : (W8.setCell ⟨p, 9, none⟩ u9).heap[p]? = some (.cells #[u0, u1, u2, u3, u4, u5, u6, u7, u8, u9, v10, v11] T (0, 0)) := held_set h8 9 u9
  have o9 : Only p U (W8.setCell ⟨p, 9, none⟩ u9) := putS o8 9 u9
  obtain ⟨W9, hW9⟩ : ∃ W, (W8.setCell ⟨p, 9, none⟩ u9) = W := ⟨_, rfl⟩
  rw [hW9] at h9 o9 ⊢
  have h10 : (W9.setCell ⟨p, 10, none⟩ u10).heap[p]? = some (.cells #[u0, u1, u2, u3, u4, u5, u6, u7, u8, u9, u10, v11] T (0, 0)) := held_set h9 10 u10
  have o10 : Only p U (W9.setCell ⟨p, 10, none⟩ u10) := putS o9 10 u10
  obtain ⟨W10, hW10⟩ : ∃ W, (W9.setCell ⟨p, 10, none⟩ u10) = W := ⟨_, rfl⟩
  rw [hW10] at h10 o10 ⊢
  have h11 : (W10.setCell ⟨p, 11, none⟩ u11).heap[p]? = some (.cells #[u0, u1, u2, u3, u4, u5, u6, u7, u8, u9, u10, u11] T (0, 0)) := held_set h10 11 u11
  have o11 : Only p U (W10.setCell ⟨p, 11, none⟩ u11) := putS o10 11 u11
  obtain ⟨W11, hW11⟩ : ∃ W, (W10.setCell ⟨p, 11, none⟩ u11) = W := ⟨_, rfl⟩
  rw [hW11] at h11 o11 ⊢
  exact ⟨_, rfl, h11, o11⟩

end Go.Proofs.Ytjeiclfdhdcfnaa

/- Single operations of a statement whose order is open: a copy between slices of integers. -/
namespace Go.Proofs.Ytjeiclfdhdcfnaa
open Go.ChangeShapes Go.WideShapes Go.ChangeAt Go.RowKit
set_option linter.unusedVariables false

theorem setRow_only {U : World} {p : Nat} {c : Array Value} {T : TypeId} (c' : Array Value) (h : U.heap[p]? = some (.cells c T (0, 0))) : Only p U (U.setRow p c') := (only_setRow h).1

/-- A copy of a slice's integers into a row. -/
theorem wp_copyI {P : Program} {w : World} {o : Oper} {a : Act} {K : Act → World → Prop} {Q : Exit → Act → World → Prop} (d s : Operand) (t : TypeId)
    (ho : o.op = .call { callee := .builtin .copy, args := #[d, s], argTypes := #[t, t] }) (T E : TypeId) (k : IntKind) (b : Nat) (hT : IntsOf P t E k b)
    (g off dLen dCap : Nat) (zs : List Int) (hrow : Row k T w g zs) (hd : a.eval d = .slice (some ⟨g, off, none⟩) dLen dCap) (hfit : off + dLen ≤ zs.length)
    (ad : Option Addr) (len cap : Nat) (ys : List Int) (hs : a.eval s = .slice ad len cap) (hsl : Sl k w ad len cap ys)
    (h : ∀ w', Row k T w' g (laid zs off (ys.take dLen)) → Only g w w' → K (a.put o.dst (goInt (ys.take dLen).length)) w') : o.wp P a w K Q := by
  obtain ⟨ht, hi⟩ := hT
  obtain ⟨i, hi1, hz, hsz, hby⟩ := info_parts hi
  obtain ⟨rfl, h2, h3, h4, h5⟩ := hsl
  have hlen : ((ys.take dLen).map (Value.int k)).length = Nat.min ys.length dLen := by rw [List.length_map, List.length_take, Nat.min_comm]
  have hmin : Nat.min ys.length dLen ≤ dLen := Nat.min_le_right _ _
  have hs1 : (P.info? E).map (·.size) = some 1 := by rw [hi1]; simp [hsz]
  by_cases h0 : (ys.take dLen).length = 0
  · have hnil : ys.take dLen = [] := List.eq_nil_of_length_eq_zero h0
    have hrun := run_copy_none (P := P) w t t o.type E (some ⟨g, off, none⟩) ad dLen dCap ys.length cap ht hs1 (by rw [← hlen, List.length_map]; exact h0)
    unfold Oper.wp
    simp [execOp, ho, resolve, invoke, builtin, hd, hs, hrun, Result.andThen]
    have := h w (by rw [hnil]; simpa [laid] using hrow) ⟨rfl, rfl, rfl, rfl, fun _ _ => rfl⟩
    rw [h0] at this
    exact this
  · have hp : 0 < ys.length := by rw [List.length_take] at h0; omega
    obtain ⟨b0, o0, ha0, _⟩ := h5 0 hp
    have hrun := run_copy_row (P := P) w t t o.type E g off dLen dCap ⟨b0, o0, none⟩ ys.length cap (zs.map (Value.int k)).toArray T ((ys.take dLen).map (Value.int k)) ht hs1 hrow hlen ?_ (by simp; omega) (by intro v hv; obtain ⟨x, _, rfl⟩ := List.mem_map.1 hv; rfl)
    · unfold Oper.wp
      rw [ha0] at hs
      simp [execOp, ho, resolve, invoke, builtin, hd, hs, hrun, Result.andThen]
      have := h (w.setRow g (((zs.map (Value.int k)).toArray).toList.take off ++ (ys.take dLen).map (Value.int k) ++ ((zs.map (Value.int k)).toArray).toList.drop (off + ((ys.take dLen).map (Value.int k)).length)).toArray) ?_ (setRow_only _ hrow)
      · show K _ _
        simpa using this
      · unfold Row
        rw [setRow_heap w g _ _ T _ hrow]
        congr 2
        simp [laid, List.map_take, List.map_drop]
    · intro j v hj
      have hjl : j < (ys.take dLen).length := by
        rcases Nat.lt_or_ge j (ys.take dLen).length with hl | hl
        · exact hl
        · rw [List.getElem?_eq_none (by simpa using hl)] at hj; cases hj
      have hjy : j < ys.length := by rw [List.length_take] at hjl; omega
      have hjd : j < dLen := by rw [List.length_take] at hjl; omega
      obtain ⟨b1, o1, ha1, hc⟩ := h5 j hjy
      rw [ha0] at ha1; cases ha1
      have hv : v = .int k (ys.getD j 0) := by
        simp [hjd, hjy] at hj; simp [hjy, hj]
      rw [hv]
      by_cases hj0 : j = 0
      · subst hj0; simpa [Addr.add] using hc
      · simpa [Addr.add, hj0] using hc
theorem Row.only {k : IntKind} {E : TypeId} {w w' : World} {g p : Nat} {zs : List Int} (h : Row k E w g zs) (hO : Only p w w') (hg : g ≠ p) : Row k E w' g zs := by unfold Row at *; rw [hO.block g hg]; exact h
theorem bonly {B : Nat} {w0 w w' : World} {p : Nat} (h : Below B w0 w) (hO : Only p w w') (hp : B ≤ p) : Below B w0 w' := h.trans ⟨hO.os, hO.tape, hO.output, by rw [hO.size]; exact Nat.le_refl _, fun k hk => hO.block k (by omega)⟩
theorem held_only {w w' : World} {p q : Nat} {o : Obj} (hO : Only p w w') (hne : q ≠ p) (h : w.heap[q]? = some o) : w'.heap[q]? = some o := by rw [hO.block q hne]; exact h

end Go.Proofs.Ytjeiclfdhdcfnaa

/- Slices of structs that a function owns: append of one. -/
namespace Go.Proofs.Ytjeiclfdhdcfnaa
open Go.ChangeShapes Go.WideShapes Go.ChangeAt Go.RowKit
set_option linter.unusedVariables false

/-- A struct type of so many cells and bytes. -/
def CellsOf (P : Program) (t E : TypeId) (size bytes : Nat) : Prop := P.underlying t = some (.slice E) ∧ (P.info? E).map (fun i => (i.zero.map (fun z => z.cells.size), i.size, i.bytes)) = some (some size, size, bytes)
theorem cells_info {P : Program} {t E : TypeId} {size bytes : Nat} (h : CellsOf P t E size bytes) : ∃ i z, P.info? E = some i ∧ i.zero = some z ∧ i.size = size ∧ i.bytes = bytes ∧ z.cells.size = size := by
  obtain ⟨-, h⟩ := h
  cases hi : P.info? E with
  | none => rw [hi] at h; cases h
  | some i =>
    rw [hi] at h
    simp only [Option.map_some, Option.some.injEq, Prod.mk.injEq] at h
    obtain ⟨h1, h2, h3⟩ := h
    cases hz : i.zero with
    | none => rw [hz] at h1; cases h1
    | some z =>
      rw [hz] at h1
      exact ⟨i, z, rfl, hz, h2, h3, by simpa using h1⟩
theorem rows_shape {w : World} {base size n : Nat} {E : TypeId} {v : Value} {xs : List Value} (h : w.ownsRow base E size v (n + 1) xs) : ∃ g cap, v = .slice (some ⟨g, 0, none⟩) (n + 1) cap := by
  rcases h.2 with ⟨_, h2⟩ | ⟨g, cap, cur, hv, _⟩
  · cases h2
  · exact ⟨g, cap, hv⟩
theorem addr0 (g j : Nat) : (⟨g, 0, none⟩ : Addr).add j = ⟨g, j, none⟩ := by
  unfold Addr.add
  by_cases h : j = 0
  · subst h; simp
  · simp [h]
theorem new_cells (w : World) (cs : Array Value) (E : TypeId) : ∀ j u, cs.toList[j]? = some u → (w.alloc (.cells cs E)).cell? ((⟨w.heap.size, 0, none⟩ : Addr).add j) = some u := fun j u h => by
  rw [addr0]
  exact held_cell (alloc_new w (.cells cs E)).2.2 j u (by simpa using h)
theorem wp_appC1 {P : Program} {w : World} {o : Oper} {a : Act} {K : Act → World → Prop} {Q : Exit → Act → World → Prop} (s x : Operand) (t : TypeId)
    (ho : o.op = .call { callee := .builtin .append, args := #[s, x], argTypes := #[t, t] })
    (base size bytes : Nat) (E : TypeId) (hT : CellsOf P t E size bytes) (hsz : 0 < size)
    (v : Value) (n : Nat) (xs : List Value) (hs : a.eval s = v) (hown : w.ownsRow base E size v n xs)
    (q : Nat) (cs : Array Value) (hcs : cs.size = size) (h1 : cs.all (·.oneCell') = true) (hx : a.eval x = .slice (some ⟨q, 0, none⟩) 1 1) (hq : w.heap[q]? = some (.cells cs E (0, 0)))
    (h63 : n + 1 ≤ maxLen) (hbytes : (n + 1) * bytes ≤ 140737488355328) (hbase : base ≤ w.heap.size)
    (h : ∀ g cap w', w'.ownsRow base E size (.slice (some ⟨g, 0, none⟩) (n + 1) cap) (n + 1) (xs ++ cs.toList) → w.grownBy w' v.ownBlock → K (a.put o.dst (.slice (some ⟨g, 0, none⟩) (n + 1) cap)) w') : o.wp P a w K Q := by
  obtain ⟨i, z, hi, hz, hs1, hb1, hzs⟩ := cells_info hT
  refine wp_append_own w s x t ho base E i z size bytes hT.1 hi hz hs1 hb1 hzs hsz v n xs hs hown ⟨q, 0, none⟩ 1 1 cs.toList hx (by simp [hcs]) (fun j u hj => ?_) (fun u hu => ?_) h63 hbytes hbase fun v' w' h2 h3 _ => ?_
  · rw [addr0]
    exact held_cell hq j u (by simpa using hj)
  · exact Array.all_eq_true_iff_forall_mem.1 h1 u (Array.mem_toList_iff.1 hu)
  · obtain ⟨g, cap, rfl⟩ := rows_shape h2
    exact h g cap w' h2 h3
theorem rows_grew {w w' aw : World} {base B size n : Nat} {E : TypeId} {v : Value} {xs : List Value} (h : w.ownsRow base E size v n xs) (hg : w.grownBy w' v.ownBlock) (hb : Below B aw w) (hB : B ≤ base) (hbase : base ≤ w.heap.size) : Below B aw w' :=
  hb.grown hg (Nat.le_trans hB hbase) (fun k e => Nat.le_trans hB (h.lt k e).1)
theorem wpList_appC1 {P : Program} (w aw : World) {ops : Array Oper} {rest : List Oper} {o : Oper} {a : Act} {Q : Exit → Act → World → Prop} (hw : Region.wanted o (yielded ops a.tmps) = true) (s x : Operand) (t : TypeId)
    (ho : o.op = .call { callee := .builtin .append, args := #[s, x], argTypes := #[t, t] })
    (B base size bytes : Nat) (E : TypeId) (hT : CellsOf P t E size bytes) (hsz : 0 < size)
    (v : Value) (n : Nat) (xs : List Value) (hs : a.eval s = v) (hown : w.ownsRow base E size v n xs)
    (cs : Array Value) (hcs : cs.size = size) (h1 : cs.all (·.oneCell') = true) (hx : a.eval x = .slice (some ⟨w.heap.size, 0, none⟩) 1 1)
    (h63 : n + 1 ≤ maxLen) (hbytes : (n + 1) * bytes ≤ 140737488355328) (hbel : Below B aw w) (hB : B ≤ base) (hbase : base ≤ w.heap.size)
    (h : ∀ g cap w', w'.ownsRow base E size (.slice (some ⟨g, 0, none⟩) (n + 1) cap) (n + 1) (xs ++ cs.toList) → Below B aw w' → wpList P ops Q rest (a.put o.dst (.slice (some ⟨g, 0, none⟩) (n + 1) cap)) w') : wpList P ops Q (o :: rest) a (w.alloc (.cells cs E)) :=
  BigFrame.wpList_want hw fun K hK => wp_appC1 s x t ho base size bytes E hT hsz v n xs hs (hown.alloc _) w.heap.size cs hcs h1 hx (alloc_new w _).2.2 h63 hbytes (by rw [World.size_alloc]; omega) fun g cap w' h2 h3 => hK _ _ (h g cap w' h2 (rows_grew (hown.alloc _) h3 (hbel.alloc (Nat.le_trans hB hbase) _) hB (by rw [World.size_alloc]; omega)))
theorem rows_after {w w' : World} {base size n : Nat} {E : TypeId} {v : Value} {xs : List Value} (h : w.ownsRow base E size v n xs) (hb : Below w.heap.size w w') : w'.ownsRow base E size v n xs :=
  h.kept (row := none) ⟨hb.os, hb.tape, hb.output, hb.size, fun k hk _ => hb.block k hk⟩ (by cases hv : v.ownBlock with | none => exact .inl rfl | some b => exact .inr (by simp))
/-- The cells of a row. -/
theorem rows_cell {w : World} {base size n : Nat} {E : TypeId} {a : Option Addr} {cap : Nat} {xs : List Value} (h : w.ownsRow base E size (.slice a n cap) n xs) (h0 : 0 < n) : ∃ g, a = some ⟨g, 0, none⟩ ∧ base ≤ g ∧ ∀ j u, xs[j]? = some u → w.cell? ⟨g, j, none⟩ = some u := by
  rcases h.2 with ⟨_, h2⟩ | ⟨g, c, cur, hv, hb, _⟩
  · omega
  · cases hv
    refine ⟨g, rfl, hb, fun j u hj => ?_⟩
    have := h.cells rfl j u hj
    rwa [addr0] at this
theorem rows_cap {w : World} {base size n : Nat} {E : TypeId} {a : Option Addr} {cap : Nat} {xs : List Value} (h : w.ownsRow base E size (.slice a n cap) n xs) : n ≤ cap ∧ cap ≤ maxLen ∧ (a = none → cap = 0) := by
  rcases h.2 with ⟨h1, h2⟩ | ⟨g, c, cur, hv, hb, _, hc, hm, _⟩
  · cases h1; exact ⟨Nat.le_refl _, by unfold maxLen; omega, fun _ => rfl⟩
  · cases hv; exact ⟨hc, hm, fun e => by cases e⟩

end Go.Proofs.Ytjeiclfdhdcfnaa

/- Ranges over a function: what is general: which blocks a round keeps; a region of a round from the plain one. -/
namespace Go.Proofs.Ytjeiclfdhdcfnaa
open Go.RowKit Go.Shelf
set_option maxRecDepth 100000

/-- Block b lies as it lay. -/
def KpAt (b : Nat) (A B : World) : Prop := A.heap.size ≤ B.heap.size ∧ B.heap[b]? = A.heap[b]?
theorem kpAt_t {b : Nat} {A B C : World} (h : KpAt b A B) (k : KpAt b B C) : KpAt b A C := ⟨Nat.le_trans h.1 k.1, k.2.trans h.2⟩
theorem kpAt_b {b : Nat} {w : World} (hb : b < w.heap.size) (W : World) (l : Nat) (o o' : Obj) (hl : w.heap.size ≤ l) (_ : W.heap[l]? = some o) (_ : o.isCells = false) (_ : o.isWalk = false) : KpAt b W (W.putObj l o') :=
  ⟨by simp, World.putObj_heap_other (by omega)⟩
theorem kpAt_refl (b : Nat) (A : World) : KpAt b A A := ⟨Nat.le_refl _, rfl⟩
theorem kpAt_cell {b : Nat} {A B : World} (h : KpAt b A B) (j : Nat) : B.cell? ⟨b, j, none⟩ = A.cell? ⟨b, j, none⟩ := by
  unfold World.cell?; simp only [h.2]

theorem wpIn_of_plain {l n : Nat} {P : Program} {o : Oper} {a : Act} {w : World} {K : Act → World → Prop} {Q : Exit → Act → World → Prop} (hd : ∀ c, o.op ≠ .defer c) (h : o.wp P a w K Q) :
    o.wpIn (Fence.wide.inRound l) n P a w K Q := by
  unfold Oper.wpIn
  refine ⟨fun _ _ => trivial, ?_⟩
  rw [Oper.semAt_eq _ _ _ hd]
  unfold Oper.wp at h
  generalize (execOp a.eval o).run P w = r at *
  cases r with
  | halt x w' => cases x <;> first | exact h | exact (show False from h).elim
  | ok x w' =>
    cases x
    case enter f args => exact ⟨fun h => (by cases h), (callsIn_wide (n := n - 1)).2 h⟩
    case row r args => exact ⟨fun h => (by cases h), fun c cs _ => by
        obtain ⟨v, w'', hr, hs⟩ := h c cs
        exact ⟨v, w'', hr, stepsIn_wide.2 hs⟩⟩
    all_goals first | exact h | exact (show False from h).elim

def noDefer (ops : Array Oper) : Bool := ops.all fun o => match o.op with | .defer _ => false | _ => true
theorem noDefer_spec {ops : Array Oper} (h : noDefer ops = true) (i : Nat) (o : Oper) (ho : ops[i]? = some o) (c : Call) : o.op ≠ .defer c := by
  intro e
  have := Array.all_eq_true_iff_forall_mem.1 h o (Array.mem_of_getElem? ho)
  rw [e] at this; cases this
theorem wpAnyIn_of_plain {l m : Nat} {P : Program} {ops : Array Oper} {Q : Exit → Act → World → Prop} {md : Region.Mode} (hd : noDefer ops = true) (hQ : ¬ LetsOut Q) :
    ∀ (n : Nat) (listed : Array Bool) (a : Act) (w : World), wpAny P md ops Q n listed a w → wpAnyIn (Fence.wide.inRound l) m P md ops Q n listed a w
  | 0, _, _, _, h => h
  | n + 1, listed, a, w, h => ⟨h.1, fun i hi => by
      have hk := h.2 i hi
      unfold wpOp at hk
      unfold wpOpIn
      cases ho : ops[i]? with
      | none => rw [ho] at hk; exact wpAnyIn_of_plain hd hQ n _ _ _ hk
      | some o =>
        rw [ho] at hk
        simp only at hk ⊢
        by_cases c : Region.wanted o (yielded ops a.tmps) = true
        · rw [if_pos c] at hk ⊢
          rcases hk with hk | ⟨_, hk⟩
          · exact Oper.wpIn_mono (fun a w h => wpAnyIn_of_plain hd hQ n _ a w h) (wpIn_of_plain (noDefer_spec hd i o ho) hk)
          · exact (hQ hk).elim
        · rw [if_neg c] at hk ⊢
          exact ⟨fun _ _ => trivial, wpAnyIn_of_plain hd hQ n _ _ _ hk⟩⟩

section
variable {P : Program} {ops : Array Oper} {Q : Exit → Act → World → Prop} {E : List Ent} {l n : Nat} {w : World} {a : Act}
/-- As wp_region_partX, in a round. -/
theorem wpIn_region_partX {id : Nat} {S : List Sh} (X : List (Nat × Obj)) (m k : Nat) (hd : noDefer ops = true) (hQ : ¬ LetsOut Q) (hm : P.follows .mixedOrders = true) (hS : E.map Ent.sh = S) (hok : Seg.ok ops S 0 = true) (hlen : E.length = m) (hk : ops.size = m + k)
    (hXw : ∀ (b g : Nat) (o : Obj), X[b]? = some (g, o) → w.heap[g]? = some o) (hXd : ∀ (b b' g : Nat) (o o' : Obj), X[b]? = some (g, o) → X[b']? = some (g, o') → b = b') (hXe : ∀ (x b : Nat) pv v o, E[x]? = some (Ent.ef b pv v o) → ∃ g o0, X[b]? = some (g, o0))
    (H : ∀ th : Nat → Nat, (∀ x z k, E[x]? = some (.al z k) → w.heap.size ≤ th (0 + x)) → (∀ x y z k z' k', E[x]? = some (.al z k) → E[y]? = some (.al z' k') → x ≠ y → th (0 + x) ≠ th (0 + y)) →
      Seg.steps P ops E X 0 w th (fun a' => ∀ U, Seg.base X w U → Seg.known E 0 th (fun _ => True) U → Seg.endX E X 0 U → wpAny P .any ops Q k (Seg.marks ops.size m) a' U) E 0 a) :
    (Code.region id ops true).wpIn (Fence.wide.inRound l) n P Q a w := by
  refine wpIn_region_any hm (wpAnyIn_of_plain hd hQ _ _ _ _ ?_)
  rw [Seg.marks_start]
  subst hlen
  have hk2 : ops.size - (0 + E.length) = k := by omega
  refine wpAny_segX (X := X) (l := 0) (w := w) (w0 := w.drew) (Rest := fun a' U => wpAny P .any ops Q k (Seg.marks ops.size E.length) a' U) hS hok ((Below.refl _ w).drew) hXw hXd hXe (fun a' U hR => ?_) H
  rw [hk2, Nat.zero_add]; exact hR
theorem wpIn_region_part {id : Nat} {S : List Sh} (m k : Nat) (hd : noDefer ops = true) (hQ : ¬ LetsOut Q) (hm : P.follows .mixedOrders = true) (hS : E.map Ent.sh = S) (hok : Seg.ok ops S 0 = true) (hlen : E.length = m) (hk : ops.size = m + k) (hmild : Seg.mild S = true)
    (H : ∀ th : Nat → Nat, (∀ x z k, E[x]? = some (.al z k) → w.heap.size ≤ th (0 + x)) → (∀ x y z k z' k', E[x]? = some (.al z k) → E[y]? = some (.al z' k') → x ≠ y → th (0 + x) ≠ th (0 + y)) →
      Seg.steps P ops E [] 0 w th (fun a' => ∀ U, After w U → Seg.known E 0 th (fun _ => True) U → wpAny P .any ops Q k (Seg.marks ops.size m) a' U) E 0 a) :
    (Code.region id ops true).wpIn (Fence.wide.inRound l) n P Q a w := by
  refine wpIn_region_any hm (wpAnyIn_of_plain hd hQ _ _ _ _ ?_)
  rw [Seg.marks_start]
  subst hlen
  have hk2 : ops.size - (0 + E.length) = k := by omega
  refine wpAny_seg (l := 0) (w := w) (w0 := w.drew) (Rest := fun a' U => wpAny P .any ops Q k (Seg.marks ops.size E.length) a' U) hS hok ((Below.refl _ w).drew) (Seg.mild_spec hS hmild) (fun a' U hR => ?_) H
  rw [hk2, Nat.zero_add]; exact hR
theorem ownPost_no {α : Type} {Kp : World → World → Prop} {I : List α → World → Prop} {Ix : Code → List α → World → Prop} {xs : List α} {W : World} : ¬ LetsOut (ownPostK Kp I Ix xs W) := fun ⟨_, _, h⟩ => h
end

section
variable {P : Program}
theorem calls_of_marks {f : FuncId} {fn : Func} {c : Code} {args : Array Value} {w : World} {R : Ending → World → Prop} (hf : P.funcs[f]? = some fn) (hb : fn.body = some c)
    (h : c.wp P (bodyPostM Fence.wide 9 P fn R) { tmps := args ++ Array.replicate (fn.ntmps - args.size) undef, defers := [] } w) : Calls P f args w R :=
  (callsIn_wide (n := 9)).1 (callsIn_of_wp_marks hf hb trivial (wpIn_wide.2 h) rfl)
/-- It returns, no mark being there. -/
theorem marks_ret0 {n : Nat} {fn : Func} {R : Ending → World → Prop} {T : Array Value} {w : World} {v : Value} (hr : (results fn T).run P w = .ok v w) (hR : R (.returned v) w) :
    bodyPostM Fence.wide n P fn R .ret { tmps := T, defers := [] } w := ⟨v, hr, hR⟩
/-- It returns, a loop's mark being there. -/
theorem marks_ret1 {n : Nat} {fn : Func} {R : Ending → World → Prop} {T : Array Value} {w : World} {D : Nat} {v : Value} (hK : w.heap[D]? = some (.deferred (some [])))
    (hr : (results fn T).run P (w.putObj D (.deferred none)) = .ok v (w.putObj D (.deferred none))) (hR : R (.returned v) (w.putObj D (.deferred none))) :
    bodyPostM Fence.wide n P fn R .ret { tmps := T, defers := [{ target := .collected D, args := #[] }] } w :=
  ⟨by simp, .inl ⟨_, _, rfl, run_takeDeferred hK, v, hr, hR⟩⟩
theorem marks_end1 {n : Nat} {fn : Func} {R : Ending → World → Prop} {T : Array Value} {w : World} {D : Nat} {v : Value} (hK : w.heap[D]? = some (.deferred (some [])))
    (hr : (results fn T).run P (w.putObj D (.deferred none)) = .ok v (w.putObj D (.deferred none))) (hR : R (.returned v) (w.putObj D (.deferred none))) :
    bodyPostM Fence.wide n P fn R .normal { tmps := T, defers := [{ target := .collected D, args := #[] }] } w :=
  ⟨by simp, .inl ⟨_, _, rfl, run_takeDeferred hK, v, hr, hR⟩⟩

/-- A range over a function, in a function that is walked plainly. -/
theorem wp_rangeFunc_F {α : Type} {g : Operand} {ps : Array Tmp} {assign body : Code} {Q : Exit → Act → World → Prop} {a : Act} {w : World}
    {gf : Nat} {lb : Array Value} (hg : a.eval g = .func (.func gf) #[] lb) (eg : ∀ args w, (callFunc gf args).run P w = .ok (.enter gf args) w)
    {encs : α → Array Value} {Kp : World → World → Prop} {S Sp : List α → Prop} {N : Nat} {w0 : World} (hseq : SeqStopsK Fence.wide 8 P gf lb encs Kp S Sp N w0)
    (hKt : ∀ {A B C : World}, Kp A B → Kp B C → Kp A C) (hKb : ∀ (W : World) (l : Nat) (o o' : Obj), w.heap.size ≤ l → W.heap[l]? = some o → o.isCells = false → o.isWalk = false → Kp W (W.putObj l o')) (hb0 : Below w0.heap.size w0 w) (hps : ∀ x, (encs x).size = ps.size)
    (I : List α → World → Prop) (Ix : Code → List α → World → Prop) (hI : OwnFrom w.heap.size I) (hIx : ∀ c, OwnFrom w.heap.size (Ix c)) (h0 : I [] w) (a₁ : α → Act)
    (hassign : ∀ (l : Nat) (x : α) (W : World) (K : Act → World → Prop), K (a₁ x) W →
      assign.wpIn (Fence.wide.inRound l) 7 P (Exit.then K (fun _ _ _ => False)) { tmps := (ps.zip (encs x)).foldl (fun t (p, v) => t.setIfInBounds p v) a.tmps, defers := [] } W)
    (hbody : ∀ (l : Nat) (pre : List α) (x : α) (W : World), I pre W → pre.length < N → body.wpIn (Fence.wide.inRound l) 7 P (ownPostK Kp I Ix (pre ++ [x]) W) (a₁ x) W)
    (hdone : ∀ (D : Nat) (xs : List α) (W : World), w.heap.size ≤ D → S xs → I xs W → W.heap[D]? = some (.deferred (some [])) → Q .normal { a with defers := { target := .collected D, args := #[] } :: a.defers } W)
    (hstop : ∀ (D : Nat) (c : Code) (pre : List α) (W : World), w.heap.size ≤ D → Sp pre → Ix c pre W → W.heap[D]? = some (.deferred (some [])) → c.wp P Q { a with defers := { target := .collected D, args := #[] } :: a.defers } W) :
    (Code.rangeFunc g ps assign body).wp P Q a w :=
  wpIn_wide.1 (wpIn_rangeFunc_ownF (F := Fence.wide) (n := 9) rfl (by omega) hg trivial eg hseq hKt hKb hb0 hps I Ix hI hIx h0 a₁ hassign hbody hdone (fun D c pre W h1 h2 h3 h4 => wpIn_wide.2 (hstop D c pre W h1 h2 h3 h4)))

/-- What an invariant may say, that the law's own blocks do not turn: blocks of cells; what lies below B. -/
theorem ownFrom_row {β : Type} (B : Nat) (f : β → Nat × Obj) (hc : ∀ s, (f s).2.isCells = true) : OwnFrom (β := β) B (fun s W => W.heap[(f s).1]? = some (f s).2) := by
  intro s W W' row hs hg hr
  have hlt := (Array.getElem?_eq_some_iff.1 hs).1
  refine (hg.block _ hlt (fun e => ?_)).trans hs
  obtain ⟨_, o, ho, hc2⟩ := hr _ e.symm
  rw [hs] at ho; cases ho; rw [hc s] at hc2; cases hc2
theorem keeps_row {W W' : World} {row : Option Nat} {B g : Nat} {o : Obj} (h : W.heap[g]? = some o) (hc : o.isCells = true) (hg : W.grownBy W' row) (hr : ∀ r, row = some r → B ≤ r ∧ ∃ o : Obj, W.heap[r]? = some o ∧ o.isCells = false) : W'.heap[g]? = some o := by
  have hlt := (Array.getElem?_eq_some_iff.1 h).1
  refine (hg.block _ hlt (fun e => ?_)).trans h
  obtain ⟨_, o, ho, hc2⟩ := hr _ e.symm
  rw [h] at ho; cases ho; rw [hc] at hc2; cases hc2
theorem keeps_below {W W' w : World} {row : Option Nat} {B C : Nat} (h : Below C w W) (hC : C ≤ B) (hB : C ≤ W.heap.size) (hg : W.grownBy W' row) (hr : ∀ r, row = some r → B ≤ r ∧ ∃ o : Obj, W.heap[r]? = some o ∧ o.isCells = false) : Below C w W' :=
  h.grown hg hB (fun k e => by have := (hr k e).1; omega)
end

theorem info_one {P : Program} {E : TypeId} {k : IntKind} {b : Nat} (hi : (P.info? E).map (fun i => (i.zero, i.size, i.bytes)) = some (some (.int k 0), 1, b)) :
    ∃ i, P.info? E = some i ∧ i.zero = some (.int k 0) ∧ i.size = 1 ∧ i.bytes = b := by
  cases hP : P.info? E with
  | none => rw [hP] at hi; cases hi
  | some i => rw [hP] at hi; simp at hi; exact ⟨i, rfl, hi.1, hi.2.1, hi.2.2⟩
/-- One more element, that lies in a new block. -/
theorem wp_app1 {P : Program} {w : World} {o : Oper} {a : Act} {K : Act → World → Prop} {Q : Exit → Act → World → Prop} (s x : Operand) (t : TypeId)
    (ho : o.op = .call { callee := .builtin .append, args := #[s, x], argTypes := #[t, t] }) (base : Nat) (E : TypeId) (k : IntKind) (b : Nat) (hT : IntsOf P t E k b)
    (v : Value) (zs : List Int) (hs : a.eval s = v) (hown : Own k E w base v zs) (q : Nat) (y : Int) (T : TypeId) (hx : a.eval x = .slice (some ⟨q, 0, none⟩) 1 1) (hq : w.heap[q]? = some (.cells #[.int k y] T (0, 0)))
    (hlen : zs.length + 1 ≤ 140737488355328 / b) (hb0 : 0 < b) (hbase : base ≤ w.heap.size)
    (h : ∀ a' cap' w', Own k E w' base (.slice a' (zs.length + 1) cap') (zs ++ [y]) → w.grownBy w' v.ownBlock → K (a.put o.dst (.slice a' (zs.length + 1) cap')) w') : o.wp P a w K Q := by
  obtain ⟨ht, hi⟩ := hT
  obtain ⟨i, hi1, hz, hsz, hby⟩ := info_one hi
  have hle : zs.length + 1 ≤ 140737488355328 := Nat.le_trans hlen (Nat.div_le_self _ _)
  have hmul : (zs.length + 1) * b ≤ 140737488355328 := (Nat.le_div_iff_mul_le hb0).1 hlen
  refine wp_append_own w s x t ho base E i (.int k 0) 1 b ht hi1 hz hsz hby rfl (by decide) v zs.length (zs.map (Value.int k)) hs hown ⟨q, 0, none⟩ 1 1 [.int k y] hx (by simp) ?_ (by simp [Value.oneCell']) (by unfold maxLen; omega) hmul hbase ?_
  · intro j u hj
    cases j with
    | zero =>
      simp at hj
      subst hj
      exact held_cell hq 0 _ rfl
    | succ j => simp at hj
  · intro v' w' h2 h3 _
    have h4 : Own k E w' base v' (zs ++ [y]) := by simpa [Own, List.map_append] using h2
    obtain ⟨a', cap', hv, -⟩ := h4.sl
    rw [List.length_append, List.length_singleton] at hv
    subst hv
    exact h a' cap' w' h4 h3
theorem keeps_own {k : IntKind} {E : TypeId} {W W' : World} {base : Nat} {v : Value} {zs : List Int} {row : Option Nat} {B : Nat} (h : Own k E W base v zs) (hg : W.grownBy W' row) (hr : ∀ r, row = some r → B ≤ r ∧ ∃ o : Obj, W.heap[r]? = some o ∧ o.isCells = false) : Own k E W' base v zs := by
  refine World.ownsRow.kept h hg ?_
  rcases h.2 with ⟨rfl, _⟩ | ⟨g, cap, cur, rfl, _, hgb, _⟩
  · exact .inl rfl
  · refine .inr fun e' => ?_
    obtain ⟨_, o, ho, hc⟩ := hr g (by simpa [Value.ownBlock] using e'.symm)
    rw [hgb] at ho; cases ho; cases hc
/-- An owned row of another type is not this block. -/
theorem own_ne {k : IntKind} {E T : TypeId} {W : World} {base : Nat} {v : Value} {zs : List Int} {g : Nat} {c : Array Value} {f : Nat × Nat} (h : Own k E W base v zs) (hg : W.heap[g]? = some (.cells c T f)) (hT : T ≠ E) : some g ≠ v.ownBlock := by
  rcases h.2 with ⟨rfl, _⟩ | ⟨g', cap, cur, rfl, _, hgb, _⟩
  · simp [Value.ownBlock]
  · intro e'
    obtain rfl : g = g' := by simpa [Value.ownBlock] using e'
    rw [hgb] at hg
    simp at hg
    exact hT hg.2.1.symm
theorem held_grown {W W' : World} {row : Option Nat} {g : Nat} {o : Obj} (h : W.heap[g]? = some o) (hg : W.grownBy W' row) (hne : some g ≠ row) : W'.heap[g]? = some o :=
  (hg.block g (Array.getElem?_eq_some_iff.1 h).1 hne).trans h
theorem Own.oth {k : IntKind} {E T : TypeId} {W : World} {base : Nat} {v : Value} {zs : List Int} {g : Nat} {c : Array Value} {f : Nat × Nat} (h : Own k E W base v zs) (hg : W.heap[g]? = some (.cells c T f)) (hT : T ≠ E) (j : Nat) (u : Value) : Own k E (W.setCell ⟨g, j, none⟩ u) base v zs :=
  ownsRow_setCell_other h (fun e => own_ne h hg hT e.symm) u
theorem keepsOthers_after {W U : World} (h : After W U) : KeepsOthers W U := ⟨h.size, fun k _ hk _ => (h.block k (Array.getElem?_eq_some_iff.1 hk).1).trans hk⟩
theorem held_oth {U : World} {p q j : Nat} {o : Obj} {v : Value} (h : p ≠ q) (hp : U.heap[p]? = some o) : (U.setCell ⟨q, j, none⟩ v).heap[p]? = some o := (Below.heap_setCell _ _ _ _ h).trans hp
theorem three_new (V : World) (a b c : Obj) : (((V.alloc a).alloc b).alloc c).heap[V.heap.size]? = some a ∧ (((V.alloc a).alloc b).alloc c).heap[V.heap.size + 1]? = some b ∧ (((V.alloc a).alloc b).alloc c).heap[V.heap.size + 1 + 1]? = some c ∧ (((V.alloc a).alloc b).alloc c).heap.size = V.heap.size + 1 + 1 + 1 ∧ After V (((V.alloc a).alloc b).alloc c) := by
  have h1 := World.alloc_heap_new V a
  have h2 := World.alloc_heap_new (V.alloc a) b
  have h3 := World.alloc_heap_new ((V.alloc a).alloc b) c
  simp only [World.size_alloc] at h2 h3
  refine ⟨?_, ?_, h3, by simp only [World.size_alloc], ((((Below.refl _ V).alloc (Nat.le_refl _) a).alloc (by simp) b).alloc (by simp; omega) c)⟩
  · rw [Below.heap_alloc _ _ _ (by simp; omega), Below.heap_alloc _ _ _ (by simp)]; exact h1
  · rw [Below.heap_alloc _ _ _ (by simp)]; exact h2
theorem below_mark {w W0 W : World} {D : Nat} {B : Nat} (h : Below B w W) (hB : B ≤ W0.heap.size) (hD : W0.heap.size ≤ D) (hK : W.heap[D]? = some (.deferred (some []))) : Below B w (W.putObj D (.deferred none)) :=
  h.trans (belowK_b (w := W0) hB W D _ _ hD hK rfl rfl)
theorem own_cells {k : IntKind} {E : TypeId} {W : World} {base : Nat} {v : Value} {zs : List Int} (h : Own k E W base v zs) {j : Nat} {o : Obj} (e : v.ownBlock = some j) (hj : W.heap[j]? = some o) : o.isCells = true := by
  rcases h.2 with ⟨rfl, _⟩ | ⟨g', cap, cur, rfl, _, hgb, _⟩
  · cases e
  · simp [Value.ownBlock] at e
    subst e
    rw [hgb] at hj; cases hj; rfl
/-- As wpList_app1; and what else lies where it lay. -/
theorem wpList_app2 {P : Program} (w aw : World) {ops : Array Oper} {rest : List Oper} {o : Oper} {a : Act} {Q : Exit → Act → World → Prop} (hw : Region.wanted o (yielded ops a.tmps) = true) (s x : Operand) (t : TypeId)
    (ho : o.op = .call { callee := .builtin .append, args := #[s, x], argTypes := #[t, t] })
    (B base : Nat) (E : TypeId) (k : IntKind) (b : Nat) (hT : IntsOf P t E k b)
    (v : Value) (zs : List Int) (hs : a.eval s = v) (hown : Own k E w base v zs)
    (y : Int) (hx : a.eval x = .slice (some ⟨w.heap.size, 0, none⟩) 1 1)
    (hlen : zs.length + 1 ≤ 140737488355328 / b) (hb0 : 0 < b) (hbel : Below B aw w) (hB : B ≤ base) (hbase : base ≤ w.heap.size)
    (h : ∀ a' cap' w', Own k E w' base (.slice a' (zs.length + 1) cap') (zs ++ [y]) → Below B aw w' → (∀ (g : Nat) (c : Array Value) (T : TypeId) (f : Nat × Nat), T ≠ E → w.heap[g]? = some (.cells c T f) → w'.heap[g]? = some (.cells c T f)) →
      wpList P ops Q rest (a.put o.dst (.slice a' (zs.length + 1) cap')) w') : wpList P ops Q (o :: rest) a (w.alloc (.cells #[.int k y] E)) := by
  refine wpList_app _ hw s x t ho base E k b hT v zs hs (hown.alloc _) (some ⟨w.heap.size, 0, none⟩) 1 [y] hx (rd_one _ _ _ _) (by intro h; cases h) hlen hb0 (by simp; omega) ?_
  intro v' w' h1 h2
  obtain ⟨a', cap', hv, -⟩ := h1.sl
  rw [List.length_append, List.length_singleton] at hv
  subst hv
  refine h a' cap' w' h1 ((hown.alloc _).grew h2 (hbel.alloc (by omega) _) hB (by simp; omega)) fun g c T f hT hg => ?_
  have hg2 := (Below.heap_alloc w (.cells #[.int k y] E) g (Array.getElem?_eq_some_iff.1 hg).1).trans hg
  exact held_grown hg2 h2 (own_ne (hown.alloc _) hg2 hT)
/-- A cell of one's own slice is written. -/
theorem Own.cellSet {k : IntKind} {E : TypeId} {w : World} {base : Nat} {a : Option Addr} {n cap : Nat} {zs : List Int} (h : Own k E w base (.slice a n cap) zs) (i : Nat) (hi : i < zs.length) :
    ∃ g, a = some ⟨g, 0, none⟩ ∧ base ≤ g ∧ w.cell? ⟨g, i, none⟩ = some (.int k (zs.getD i 0)) ∧ w.frozen? ⟨g, i, none⟩ = false ∧ ∀ x, Own k E (w.setCell ⟨g, i, none⟩ (.int k x)) base (.slice a n cap) (zs.set i x) := by
  rcases h.2 with ⟨h1, h2⟩ | ⟨g, c, cur, h1, h2, h3, h4, h5, h6, h7⟩
  · omega
  · cases h1
    rw [Nat.mul_one] at h6 h7
    have hc : i < cur.size := by omega
    have e1 : cur[i]? = some (.int k (zs.getD i 0)) := by
      have e2 := congrArg (fun l => l[i]?) h7
      simp only [List.getElem?_take_of_lt hi, Array.getElem?_toList, List.getElem?_map] at e2
      rw [e2]; simp [hi]
    refine ⟨g, rfl, h2, ?_, frozen_of_row w g i cur E h3, fun x => ?_⟩
    · rw [cell_of_row w g i cur E (0, 0) h3]; exact e1
    · refine ⟨by simp, .inr ⟨g, _, cur.setIfInBounds i (.int k x), by rw [List.length_set], h2, heap_setCell_same w g i cur E _ h3, by rw [List.length_set]; exact h4, h5, by simp; omega, ?_⟩⟩
      rw [List.length_set, Nat.mul_one, Array.toList_setIfInBounds, List.map_set, List.take_set, h7]
end Go.Proofs.Ytjeiclfdhdcfnaa

/- A range over a function whose iterator keeps its state in a block of cells of its own: the caller's word stays where that block is written. -/
namespace Go.Proofs.Ytjeiclfdhdcfnaa
open Go.RowKit Go.Shelf
set_option linter.unusedVariables false

/-- What is said of a list and a world stays where only block B (and what is new) changes. -/
def Stays {β : Type} (B : Nat) (J : β → World → Prop) : Prop := ∀ s A A', J s A → Eff B A A' → J s A'
/-- The contract of such an iterator. -/
def Tells {α : Type} (P : Program) (gf : Nat) (lb : Array Value) (encs : α → Array Value) (B : Nat) (S Sp : List α → Prop) (N : Nat) (w0 : World) : Prop :=
  ∀ (l : Nat) (J Jx : List α → World → Prop) (W : World), Below w0.heap.size w0 W → Stays B J →
    (∀ pre x W1, J pre W1 → pre.length < N → YieldAt Fence.wide 7 P l (encs x) W1 fun e W' =>
      (e = .returned (.bool true) ∧ J (pre ++ [x]) W' ∧ KpAt B W1 W') ∨ (e = .returned (.bool false) ∧ Jx (pre ++ [x]) W')) →
    J [] W →
    CallsIn Fence.wide 8 P gf (#[.func (.yield l) #[] #[]] ++ lb) W fun e W' => (∃ v, e = .returned v) ∧ ((∃ xs, S xs ∧ J xs W') ∨ (∃ pre, Sp pre ∧ Jx pre W'))
/-- How a round may end: it goes on, or returns. -/
def roundEnds {α : Type} (B : Nat) (I Ix : List α → World → Prop) (xs : List α) (W : World) : Exit → Act → World → Prop
  | .normal, _, W' => KeepsOthers W W' ∧ KpAt B W W' ∧ I xs W'
  | .ret, _, W' => KeepsOthers W W' ∧ Ix xs W'
  | _, _, _ => False
/-- A block that lies beyond B and is not B stays. -/
theorem eff_block {B k : Nat} {A A' : World} {o : Obj} (h : Eff B A A') (hk : A.heap[k]? = some o) (hn : k ≠ B) : A'.heap[k]? = some o := (h.block k (held_lt hk) hn).trans hk
theorem putObj_at {W : World} {l : Nat} {o o' : Obj} (h : W.heap[l]? = some o) : (W.putObj l o').heap[l]? = some o' := World.putObj_heap_same (held_lt h)

section
variable {P : Program} {α : Type}
theorem wp_rangeFunc_cell {g : Operand} {ps : Array Tmp} {assign body : Code} {Q : Exit → Act → World → Prop} {a : Act} {w : World}
    {gf : Nat} {lb : Array Value} (hg : a.eval g = .func (.func gf) #[] lb) (eg : ∀ args w, (callFunc gf args).run P w = .ok (.enter gf args) w)
    {encs : α → Array Value} {B : Nat} {S Sp : List α → Prop} {N : Nat} (hseq : Tells P gf lb encs B S Sp N w) (hB : B < w.heap.size) (hps : ∀ x, (encs x).size = ps.size)
    (I Ix : List α → World → Prop) (hI : OwnFrom w.heap.size I) (hIx : OwnFrom w.heap.size Ix) (hst : Stays B I) (h0 : I [] w) (a₁ : α → Act)
    (hassign : ∀ (l : Nat) (x : α) (W : World) (K : Act → World → Prop), K (a₁ x) W →
      assign.wpIn (Fence.wide.inRound l) 7 P (Exit.then K (fun _ _ _ => False)) { tmps := (ps.zip (encs x)).foldl (fun t (p, v) => t.setIfInBounds p v) a.tmps, defers := [] } W)
    (hbody : ∀ (l : Nat) (pre : List α) (x : α) (W : World), I pre W → pre.length < N → body.wpIn (Fence.wide.inRound l) 7 P (roundEnds B I Ix (pre ++ [x]) W) (a₁ x) W)
    (hdone : ∀ (D : Nat) (xs : List α) (W : World), w.heap.size ≤ D → S xs → I xs W → W.heap[D]? = some (.deferred (some [])) → Q .normal { a with defers := { target := .collected D, args := #[] } :: a.defers } W)
    (hstop : ∀ (D : Nat) (pre : List α) (W : World), w.heap.size ≤ D → Sp pre → Ix pre W → W.heap[D]? = some (.deferred (some [])) → Code.ret.wp P Q { a with defers := { target := .collected D, args := #[] } :: a.defers } W) :
    (Code.rangeFunc g ps assign body).wp P Q a w := by
  refine wpIn_wide.1 (wpIn_rangeFunc (F := Fence.wide) (n := 9) fun fn hfn => ?_)
  have hD0 := World.alloc_heap_new w (.deferred (some []))
  obtain ⟨D, hD⟩ : ∃ D, D = w.heap.size := ⟨_, rfl⟩
  let loop : LoopState → Option Code → Obj := fun st pe => .loop { state := st, pending := pe, fn, tmps := a.tmps, params := ps, assign, body, defers := D }
  obtain ⟨W0, eW⟩ : ∃ W0, (w.alloc (.deferred (some []))).alloc (loop .ready none) = W0 := ⟨_, rfl⟩
  have bL : W0.heap[D + 1]? = some (loop .ready none) := by
    have h := World.alloc_heap_new (w.alloc (.deferred (some []))) (loop .ready none)
    rw [World.size_alloc, eW, ← hD] at h; exact h
  have bD : W0.heap[D]? = some (.deferred (some [])) := by
    rw [← eW, hD]; exact (Below.heap_alloc _ _ _ (by simp)).trans hD0
  have hW0 : Below w.heap.size w W0 := by rw [← eW]; exact ((Below.refl _ w).alloc (Nat.le_refl _) _).alloc (by simp) _
  refine ⟨D + 1, [{ target := .collected D, args := #[] }], W0, { target := .fn (.func gf) lb, args := #[.func (.yield (D + 1)) #[] #[]] }, W0, gf, #[.func (.yield (D + 1)) #[] #[]] ++ lb, W0, ?_, ?_, fun _ _ => trivial, ?_, fun _ => by omega, ?_⟩
  · subst hD; rw [← eW]; exact run_enterLoop_outer _ _ _ _ _
  · simp only [resolve, hg]
    simp [go_sem]
  · simp [invoke, go_sem, eg]
  -- the caller's word, and the two blocks of the loop
  let J : List α → World → Prop := fun pre W => I pre W ∧ W.heap[D + 1]? = some (loop .ready none) ∧ W.heap[D]? = some (.deferred (some []))
  let Jx : List α → World → Prop := fun pre W => Ix pre W ∧ W.heap[D + 1]? = some (loop .done (some .ret)) ∧ W.heap[D]? = some (.deferred (some []))
  have hJ : Stays B J := fun s A A' h e => ⟨hst s A A' h.1 e, eff_block e h.2.1 (by omega), eff_block e h.2.2 (by omega)⟩
  have swapI : ∀ {pre W o} (o' : Obj), I pre W → W.heap[D + 1]? = some o → o.isCells = false → I pre (W.putObj (D + 1) o') := fun o' h1 h2 h3 => hI.putObj o' h1 (by omega) h2 h3
  have swapX : ∀ {pre W o} (o' : Obj), Ix pre W → W.heap[D + 1]? = some o → o.isCells = false → Ix pre (W.putObj (D + 1) o') := fun o' h1 h2 h3 => hIx.putObj o' h1 (by omega) h2 h3
  have side : ∀ {W : World} (o' : Obj), W.heap[D]? = some (.deferred (some [])) → (W.putObj (D + 1) o').heap[D]? = some (.deferred (some [])) := fun o' h => (World.putObj_heap_other (by omega)).trans h
  have kp : ∀ (W : World) (o' : Obj), KpAt B W (W.putObj (D + 1) o') := fun W o' => ⟨by simp, World.putObj_heap_other (by omega)⟩
  have h1 : I [] W0 := by rw [← eW]; exact hI.alloc _ (hI.alloc _ h0)
  refine (hseq (D + 1) J Jx W0 hW0 hJ ?_ ⟨h1, bL, bD⟩).mono ?_
  · rintro pre x W ⟨hi, hl, hd⟩ hlen
    refine ⟨fn, _, assign, body, run_yield (P := P) (args := encs x) hl (hps x), roundIn_of_wpIn hfn (hassign _ x W _ ⟨_, run_beginRound hl rfl, ?_⟩)⟩
    have hl2 := putObj_at (o' := loop .busy none) hl
    refine wpIn_mono (hbody _ pre x _ (swapI _ hi hl rfl) hlen) ?_
    rintro e a3 V hp
    cases e with
    | normal =>
      obtain ⟨ko, kb, hi3⟩ := hp
      have hl3 := ko.same _ _ hl2 rfl
      exact ⟨_, _, run_endRound (P := P) none hl3, .inl ⟨rfl, ⟨swapI _ hi3 hl3 rfl, putObj_at hl3, side _ (ko.same _ _ (side _ hd) rfl)⟩, kpAt_t (kpAt_t (kp _ _) kb) (kp _ _)⟩⟩
    | ret =>
      obtain ⟨ko, hi3⟩ := hp
      have hl3 := ko.same _ _ hl2 rfl
      exact ⟨_, _, run_endRound (P := P) (some .ret) hl3, .inr ⟨rfl, swapX _ hi3 hl3 rfl, putObj_at hl3, side _ (ko.same _ _ (side _ hd) rfl)⟩⟩
    | exit _ => exact hp.elim
    | goto _ => exact hp.elim
    | panic _ => exact hp.elim
    | outgrown => exact hp.elim
  · rintro e V ⟨⟨v, rfl⟩, (⟨xs, hS, hi, hl, hd⟩ | ⟨pre, hSp, hi, hl, hd⟩)⟩
    · exact ⟨none, _, run_endLoop (P := P) hl (by simp), hdone D xs _ (by omega) hS (swapI _ hi hl rfl) (side _ hd)⟩
    · exact ⟨some .ret, _, run_endLoop (P := P) hl (by simp), wpIn_wide.2 (hstop D pre _ (by omega) hSp (swapX _ hi hl rfl) (side _ hd))⟩
end
end Go.Proofs.Ytjeiclfdhdcfnaa

/- What stays as it was where a block's own slice is appended to: all other blocks. -/
namespace Go.Proofs.Ytjeiclfdhdcfnaa
open Go.ChangeShapes Go.WideShapes Go.ChangeAt Go.RowKit Go.Shelf
set_option linter.unusedVariables false

theorem run_app_own {P : Program} {w w' : World} {t ty E : TypeId} {k : IntKind} {b base : Nat} (hT : IntsOf P t E k b) {v v' : Value} {zs : List Int} (hown : Own k E w base v zs) (a : Addr) (c : Nat) (ys : List Int)
    (hnews : ∀ j u, (ys.map (Value.int k))[j]? = some u → w.cell? (a.add j) = some u) (hlen : zs.length + ys.length ≤ 140737488355328 / b) (hb0 : 0 < b)
    (h : (Builtin.append_ #[t, t] ty #[v, .slice (some a) ys.length c]).run P w = .ok v' w') : ∀ g, v'.ownBlock = some g → v.ownBlock = some g ∨ w.heap.size ≤ g := by
  obtain ⟨ht, hi⟩ := hT
  obtain ⟨i, hi1, hz, hsz, hby⟩ := info_one hi
  have hle : zs.length + ys.length ≤ 140737488355328 := Nat.le_trans hlen (Nat.div_le_self _ _)
  have hmul : (zs.length + ys.length) * b ≤ 140737488355328 := (Nat.le_div_iff_mul_le hb0).1 hlen
  have hmul2 : ys.length * b ≤ 140737488355328 := Nat.le_trans (Nat.mul_le_mul_right _ (Nat.le_add_left _ _)) hmul
  have hl : (ys.map (Value.int k)).length = ys.length * i.size := by rw [hsz]; simp
  intro g hg
  rcases hown.2 with ⟨rfl, hn⟩ | ⟨q, cap, cur, rfl, hbg, hq, hnc, hcm, hcs, htake⟩
  · by_cases hm : ys.length = 0
    · have hy : ys = [] := List.eq_nil_of_length_eq_zero hm
      subst hy
      simp [Builtin.append_, run_underlying ht, sizeOf, typeInfo, hi1, Builtin.lenOf, Builtin.firstCells, loadCells, loadCellsFrom] at h
      obtain ⟨rfl, rfl⟩ := h
      simp [Value.ownBlock] at hg
    · have hr := run_append_nil (P := P) w t ty E i (.int k 0) ht hi1 hz a ys.length c _ hl hnews (by omega) (by omega) (by rw [hby]; omega)
      rw [hr] at h
      cases h
      simp [Value.ownBlock] at hg
      right; omega
  · by_cases hroom : zs.length + ys.length ≤ cap
    · have hr := run_append_room (P := P) w t ty E i ht hi1 q zs.length cap cur hq a ys.length c _ hl hnews (by simp [Value.oneCell']) hroom (by rw [hcs, hsz]; simp; omega)
      rw [hr] at h
      cases h
      left; simpa [Value.ownBlock] using hg
    · have hr := run_append_grow (P := P) w t ty E i (.int k 0) ht hi1 hz ⟨q, 0, none⟩ zs.length cap (zs.map (Value.int k)) (by rw [hsz]; simp) (World.ownsRow.cells hown (g := q) rfl) a ys.length c _ hl hnews (by omega) (by omega) (by rw [hby]; exact growslice_fits (by omega) hmul)
      rw [hr] at h
      cases h
      simp [Value.ownBlock] at hg
      right; omega

/-- append, and where the new slice lies: where the old one lay, or in a new block. -/
theorem wp_appK {P : Program} {w : World} {o : Oper} {a : Act} {K : Act → World → Prop} {Q : Exit → Act → World → Prop} (s x : Operand) (t : TypeId)
    (ho : o.op = .call { callee := .builtin .append, args := #[s, x], argTypes := #[t, t] }) (base : Nat) (E : TypeId) (k : IntKind) (b : Nat) (hT : IntsOf P t E k b)
    (v : Value) (zs : List Int) (hs : a.eval s = v) (hown : Own k E w base v zs)
    (ad : Option Addr) (len c : Nat) (ys : List Int) (hx : a.eval x = .slice ad len c) (hsl : Sl k w ad len c ys)
    (hlen : zs.length + len ≤ 140737488355328 / b) (hb0 : 0 < b) (hbase : base ≤ w.heap.size)
    (h : ∀ a' cap' w', Own k E w' base (.slice a' (zs.length + len) cap') (zs ++ ys) → w.grownBy w' v.ownBlock → (∀ g, (Value.slice a' (zs.length + len) cap').ownBlock = some g → v.ownBlock = some g ∨ w.heap.size ≤ g) → K (a.put o.dst (.slice a' (zs.length + len) cap')) w') : o.wp P a w K Q := by
  obtain ⟨rfl, h2, h3, hn, hr⟩ := hsl
  have hT' := hT
  obtain ⟨ht, hi⟩ := hT
  obtain ⟨i, hi1, hz, hsz, hby⟩ := info_one hi
  have hle : zs.length + ys.length ≤ 140737488355328 := Nat.le_trans hlen (Nat.div_le_self _ _)
  have hmul : (zs.length + ys.length) * b ≤ 140737488355328 := (Nat.le_div_iff_mul_le hb0).1 hlen
  have fin : ∀ v' w', Own k E w' base v' (zs ++ ys) → w.grownBy w' v.ownBlock → (∀ g, v'.ownBlock = some g → v.ownBlock = some g ∨ w.heap.size ≤ g) → K (a.put o.dst v') w' := by
    intro v' w' g1 g2 g3
    obtain ⟨a', cap', hv, -⟩ := g1.sl
    rw [List.length_append] at hv
    subst hv
    exact h a' cap' w' g1 g2 g3
  clear h
  cases ad with
  | none =>
    have hy : ys = [] := by
      cases ys with
      | nil => rfl
      | cons y r => obtain ⟨_, _, e, _⟩ := hr 0 (by simp); cases e
    subst hy
    obtain rfl := hn rfl
    have hrun := run_append_owned_none (P := P) w base t o.type E i 1 ht hi1 v zs.length (zs.map (Value.int k)) hown
    unfold Oper.wp execOp
    simp only [ho, resolve, invoke, builtin, Sem.run_bind, Sem.run_pure, Result.andThen_ok, List.map_toArray, List.map_cons, List.map_nil, hs, hx, hrun, List.length_nil]
    exact fin v w (by simpa using hown) ⟨rfl, rfl, rfl, Nat.le_refl _, fun _ _ _ => rfl⟩ (fun g hg => .inl hg)
  | some ad =>
    have hnews : ∀ j u, (ys.map (Value.int k))[j]? = some u → w.cell? (ad.add j) = some u := by
      intro j u hj
      have hjl : j < ys.length := by
        rcases Nat.lt_or_ge j ys.length with hl | hl
        · exact hl
        · rw [List.getElem?_eq_none (by simpa using hl)] at hj; cases hj
      obtain ⟨bb, off, e, hc⟩ := hr j hjl
      cases e
      have hu : u = .int k (ys.getD j 0) := by simp [hjl] at hj; simp [hjl, hj]
      rw [hu]
      by_cases hj0 : j = 0
      · subst hj0; simpa [Addr.add] using hc
      · simpa [Addr.add, hj0] using hc
    obtain ⟨v', w', hrun, g2, g3, g4⟩ := run_append_own (P := P) w base t o.type E i (.int k 0) 1 b ht hi1 hz hsz hby rfl (by decide) v zs.length (zs.map (Value.int k)) hown ad ys.length c (ys.map (Value.int k)) (by simp) hnews (by simp [Value.oneCell']) (by unfold maxLen; omega) hmul hbase
    have g5 := run_app_own hT' hown ad c ys hnews hlen hb0 hrun
    unfold Oper.wp execOp
    simp only [ho, resolve, invoke, builtin, Sem.run_bind, Sem.run_pure, Result.andThen_ok, List.map_toArray, List.map_cons, List.map_nil, hs, hx, hrun]
    exact fin v' w' (by simpa [Own, List.map_append] using g2) g3 g5
/-- One more element, that lies in a new block. -/
theorem wp_app1K {P : Program} {w : World} {o : Oper} {a : Act} {K : Act → World → Prop} {Q : Exit → Act → World → Prop} (s x : Operand) (t : TypeId)
    (ho : o.op = .call { callee := .builtin .append, args := #[s, x], argTypes := #[t, t] }) (base : Nat) (E : TypeId) (k : IntKind) (b : Nat) (hT : IntsOf P t E k b)
    (v : Value) (zs : List Int) (hs : a.eval s = v) (hown : Own k E w base v zs) (q : Nat) (y : Int) (T : TypeId) (hx : a.eval x = .slice (some ⟨q, 0, none⟩) 1 1) (hq : w.heap[q]? = some (.cells #[.int k y] T (0, 0)))
    (hlen : zs.length + 1 ≤ 140737488355328 / b) (hb0 : 0 < b) (hbase : base ≤ w.heap.size)
    (h : ∀ a' cap' w', Own k E w' base (.slice a' (zs.length + 1) cap') (zs ++ [y]) → w.grownBy w' v.ownBlock → (∀ g, (Value.slice a' (zs.length + 1) cap').ownBlock = some g → v.ownBlock = some g ∨ w.heap.size ≤ g) → K (a.put o.dst (.slice a' (zs.length + 1) cap')) w') : o.wp P a w K Q :=
  wp_appK s x t ho base E k b hT v zs hs hown (some ⟨q, 0, none⟩) 1 1 [y] hx (Row.sl (g := q) (E := T) (show Row k T w q [y] from hq) (by unfold maxLen; simp)) hlen hb0 hbase h

theorem wpList_appK {P : Program} {w : World} {ops : Array Oper} {rest : List Oper} {o : Oper} {a : Act} {Q : Exit → Act → World → Prop} (hw : Region.wanted o (yielded ops a.tmps) = true) (s x : Operand) (t : TypeId)
    (ho : o.op = .call { callee := .builtin .append, args := #[s, x], argTypes := #[t, t] }) (base : Nat) (E : TypeId) (k : IntKind) (b : Nat) (hT : IntsOf P t E k b)
    (v : Value) (zs : List Int) (hs : a.eval s = v) (hown : Own k E w base v zs)
    (ad : Option Addr) (len c : Nat) (ys : List Int) (hx : a.eval x = .slice ad len c) (hsl : Sl k w ad len c ys)
    (hlen : zs.length + len ≤ 140737488355328 / b) (hb0 : 0 < b) (hbase : base ≤ w.heap.size)
    (h : ∀ a' cap' w', Own k E w' base (.slice a' (zs.length + len) cap') (zs ++ ys) → w.grownBy w' v.ownBlock → (∀ g, (Value.slice a' (zs.length + len) cap').ownBlock = some g → v.ownBlock = some g ∨ w.heap.size ≤ g) → wpList P ops Q rest (a.put o.dst (.slice a' (zs.length + len) cap')) w') : wpList P ops Q (o :: rest) a w :=
  BigFrame.wpList_want hw fun K hK => wp_appK s x t ho base E k b hT v zs hs hown ad len c ys hx hsl hlen hb0 hbase fun a' cap' w' h1 h2 h3 => hK _ _ (h a' cap' w' h1 h2 h3)

/-- The block of the slice that lies in cell j of block B. -/
def wown (B j : Nat) (w : World) : Option Nat := (w.cell? ⟨B, j, none⟩).bind Value.ownBlock
/-- All blocks stay but B and the one of its slice; and that one is the old one or new. -/
structure Owp (B j : Nat) (w w' : World) : Prop where
  size : w.heap.size ≤ w'.heap.size
  block : ∀ k, k < w.heap.size → k ≠ B → some k ≠ wown B j w → w'.heap[k]? = w.heap[k]?
  own : ∀ k, wown B j w' = some k → wown B j w = some k ∨ w.heap.size ≤ k
theorem wown_at {B j : Nat} {w : World} {c : Array Value} {T : TypeId} {v : Value} (h : w.heap[B]? = some (.cells c T (0, 0))) (hc : c[j]? = some v) : wown B j w = v.ownBlock := by
  have := held_cell h j v hc
  unfold wown; rw [this]; rfl
theorem wown_same {B j : Nat} {w w' : World} (h : w'.heap[B]? = w.heap[B]?) : wown B j w' = wown B j w := by unfold wown World.cell?; rw [h]
theorem Owp.refl (B j : Nat) (w : World) : Owp B j w w := ⟨Nat.le_refl _, fun _ _ _ _ => rfl, fun _ h => .inl h⟩
theorem Owp.trans {B j : Nat} {w w1 w2 : World} (h1 : Owp B j w w1) (h2 : Owp B j w1 w2) : Owp B j w w2 := by
  refine ⟨Nat.le_trans h1.size h2.size, fun k hk hne ho => ?_, fun k hk => ?_⟩
  · refine (h2.block k (Nat.lt_of_lt_of_le hk h1.size) hne (fun e => ?_)).trans (h1.block k hk hne ho)
    rcases h1.own k e.symm with h | h
    · exact ho h.symm
    · omega
  · rcases h2.own k hk with h | h
    · exact h1.own k h
    · right; have := h1.size; omega
theorem Owp.after {B j : Nat} {w w' : World} (hB : B < w.heap.size) (h : After w w') : Owp B j w w' :=
  ⟨h.size, fun k hk _ _ => h.block k hk, fun k hk => .inl (by rw [wown_same (h.block B hB)] at hk; exact hk)⟩
theorem Owp.drew {B j : Nat} {w : World} : Owp B j w w.drew := ⟨Nat.le_refl _, fun _ _ _ _ => rfl, fun _ h => .inl h⟩
/-- Where only other, new blocks change. -/
theorem Owp.row {B j : Nat} {w w' : World} {r : Option Nat} {N : Nat} (hg : w.grownBy w' r) (hB : B < w.heap.size) (hr : ∀ k, r = some k → N ≤ k) {w0 : World} (h0 : Owp B j w0 w) (hBN : B < N) (hN : w0.heap.size ≤ N) : Owp B j w0 w' :=
  ⟨Nat.le_trans h0.size hg.size, fun k hk hne ho => (hg.block k (Nat.lt_of_lt_of_le hk h0.size) (fun e => by have := hr k e.symm; omega)).trans (h0.block k hk hne ho),
    fun k hk => h0.own k (by rw [← wown_same (hg.block B hB (fun e => by have := hr B e.symm; omega))]; exact hk)⟩
/-- The block's slice is set to another one of its own. -/
theorem Owp.set {B j : Nat} {w w' : World} {c : Array Value} {T : TypeId} {v : Value} {q : Option Nat} (hH : w'.heap[B]? = some (.cells c T (0, 0))) (hj : j < c.size) (hg : w.grownBy w' q) (hq : ∀ k, q = some k → wown B j w = some k) (hv : ∀ k, v.ownBlock = some k → wown B j w = some k ∨ w.heap.size ≤ k) : Owp B j w (w'.setCell ⟨B, j, none⟩ v) := by
  refine ⟨by simpa [World.setCell] using hg.size, fun k hk hne ho => ?_, fun k hk => ?_⟩
  · exact (Below.heap_setCell _ _ _ _ hne).trans (hg.block k hk (fun e => ho (hq k e.symm).symm))
  · have e : wown B j (w'.setCell ⟨B, j, none⟩ v) = v.ownBlock := wown_at (held_set hH j v) (by simp [hj])
    rw [e] at hk
    exact hv k hk
/-- Another cell of the block is set. -/
theorem Owp.cell {B j i : Nat} {w : World} {c : Array Value} {T : TypeId} {v : Value} (hH : w.heap[B]? = some (.cells c T (0, 0))) (hij : i ≠ j) (hj : j < c.size) : Owp B j w (w.setCell ⟨B, i, none⟩ v) := by
  refine ⟨by simp [World.setCell], fun k hk hne ho => Below.heap_setCell _ _ _ _ hne, fun k hk => .inl ?_⟩
  have e : wown B j (w.setCell ⟨B, i, none⟩ v) = wown B j w := by
    rw [wown_at (held_set hH i v) (v := c[j]) (by simp [hij, hj]), wown_at hH (v := c[j]) (by simp [hj])]
  rw [e] at hk; exact hk
theorem Owp.mark {B j : Nat} {w W : World} {D : Nat} {o : Obj} (h : Owp B j w W) (hD : w.heap.size ≤ D) (hB : B < w.heap.size) : Owp B j w (W.putObj D o) :=
  ⟨by rw [World.putObj_size]; exact h.size, fun k hk hne ho => (World.putObj_heap_other (by omega)).trans (h.block k hk hne ho), fun k hk => h.own k (by rw [← wown_same (World.putObj_heap_other (show B ≠ D by omega))]; exact hk)⟩
/-- Numbers stay where only a block without any changes. -/
theorem Sl.other {k : IntKind} {w w' : World} {a : Option Addr} {len cap : Nat} {zs : List Int} (h : Sl k w a len cap zs) {B : Nat} {c : Array Value} {T : TypeId} (hB : w.heap[B]? = some (.cells c T (0, 0))) (hv : ∀ (i : Nat) (x : Int), c[i]? ≠ some (.int k x)) (hw : ∀ b, b ≠ B → w'.heap[b]? = w.heap[b]?) : Sl k w' a len cap zs := by
  obtain ⟨h1, h2, h3, h4, h5⟩ := h
  refine ⟨h1, h2, h3, h4, fun i hi => ?_⟩
  obtain ⟨b, off, e, hc⟩ := h5 i hi
  refine ⟨b, off, e, ?_⟩
  have hne : b ≠ B := by
    intro e2
    subst e2
    rw [cell_of_row w b (off + i) _ T (0, 0) hB] at hc
    exact hv _ _ hc
  exact (World.cell?_of_block (w := w) (a := ⟨b, off + i, none⟩) (hw b hne)).trans hc
theorem no_int2 {k : IntKind} {a : Option Addr} {l c : Nat} {b : Bool} (i : Nat) (x : Int) : (#[Value.slice a l c, .bool b] : Array Value)[i]? ≠ some (.int k x) := by
  intro h
  match i with
  | 0 => cases h
  | 1 => cases h
  | n + 2 => simp at h

end Go.Proofs.Ytjeiclfdhdcfnaa
