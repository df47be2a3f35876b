/- Ranges over a function: what is general: which blocks a round keeps; a region of a round from the plain one. -/
import Derived.RangeFuncNested
import Derived.RangeFuncBound
import Derived.RangeFuncCalls
import Derived.RangeFuncLeaves
import Derived.RangeFuncBox
import Derived.Shelf.Abstract
import Derived.Shelf.RegionOpen
import Derived.WalkKit
import Derived.OwnWalkIn
import Derived.TacticsInMore
import Derived.LoopNIn
import Derived.LoopIn
import Derived.Maps.AppendAt
import Derived.OrdersIn
import Derived.Test.YtekilpmmadhpoaaOps
namespace Go.Proofs.Ytekilpmmadhpoaa
open Go.RowKit Go.Shelf

/-- Block b lies as it lay. -/
def KpAt (b : Nat) (A B : World) : Prop := A.heap.size ≤ B.heap.size ∧ B.heap[b]? = A.heap[b]?
theorem kpAt_t {b : Nat} {A B C : World} (h : KpAt b A B) (k : KpAt b B C) : KpAt b A C := ⟨Nat.le_trans h.1 k.1, k.2.trans h.2⟩
theorem kpAt_b {b : Nat} {w : World} (hb : b < w.heap.size) (W : World) (l : Nat) (o o' : Obj) (hl : w.heap.size ≤ l) (_ : W.heap[l]? = some o) (_ : o.isCells = false) (_ : o.isWalk = false) : KpAt b W (W.putObj l o') :=
  ⟨by simp, World.putObj_heap_other (by omega)⟩
theorem kpAt_refl (b : Nat) (A : World) : KpAt b A A := ⟨Nat.le_refl _, rfl⟩
theorem kpAt_cell {b : Nat} {A B : World} (h : KpAt b A B) (j : Nat) : B.cell? ⟨b, j, none⟩ = A.cell? ⟨b, j, none⟩ := by
  unfold World.cell?; simp only [h.2]

theorem wpIn_of_plain {l n : Nat} {P : Program} {o : Oper} {a : Act} {w : World} {K : Act → World → Prop} {Q : Exit → Act → World → Prop} (hd : ∀ c, o.op ≠ .defer c) (h : o.wp P a w K Q) :
    o.wpIn (Fence.wide.inRound l) n P a w K Q := by
  unfold Oper.wpIn
  refine ⟨fun _ _ => trivial, ?_⟩
  rw [Oper.semAt_eq _ _ _ hd]
  unfold Oper.wp at h
  generalize (execOp a.eval o).run P w = r at *
  cases r with
  | halt x w' => cases x <;> first | exact h | exact (show False from h).elim
  | ok x w' =>
    cases x
    case enter f args => exact ⟨fun h => (by cases h), (callsIn_wide (n := n - 1)).2 h⟩
    case row r args => exact ⟨fun h => (by cases h), fun c cs _ => by
        obtain ⟨v, w'', hr, hs⟩ := h c cs
        exact ⟨v, w'', hr, stepsIn_wide.2 hs⟩⟩
    all_goals first | exact h | exact (show False from h).elim

def noDefer (ops : Array Oper) : Bool := ops.all fun o => match o.op with | .defer _ => false | _ => true
theorem noDefer_spec {ops : Array Oper} (h : noDefer ops = true) (i : Nat) (o : Oper) (ho : ops[i]? = some o) (c : Call) : o.op ≠ .defer c := by
  intro e
  have := Array.all_eq_true_iff_forall_mem.1 h o (Array.mem_of_getElem? ho)
  rw [e] at this; cases this
theorem wpAnyIn_of_plain {l m : Nat} {P : Program} {ops : Array Oper} {Q : Exit → Act → World → Prop} {md : Region.Mode} (hd : noDefer ops = true) (hQ : ¬ LetsOut Q) :
    ∀ (n : Nat) (listed : Array Bool) (a : Act) (w : World), wpAny P md ops Q n listed a w → wpAnyIn (Fence.wide.inRound l) m P md ops Q n listed a w
  | 0, _, _, _, h => h
  | n + 1, listed, a, w, h => ⟨h.1, fun i hi => by
      have hk := h.2 i hi
      unfold wpOp at hk
      unfold wpOpIn
      cases ho : ops[i]? with
      | none => rw [ho] at hk; exact wpAnyIn_of_plain hd hQ n _ _ _ hk
      | some o =>
        rw [ho] at hk
        simp only at hk ⊢
        by_cases c : Region.wanted o (yielded ops a.tmps) = true
        · rw [if_pos c] at hk ⊢
          rcases hk with hk | ⟨_, hk⟩
          · exact Oper.wpIn_mono (fun a w h => wpAnyIn_of_plain hd hQ n _ a w h) (wpIn_of_plain (noDefer_spec hd i o ho) hk)
          · exact (hQ hk).elim
        · rw [if_neg c] at hk ⊢
          exact ⟨fun _ _ => trivial, wpAnyIn_of_plain hd hQ n _ _ _ hk⟩⟩

section
variable {P : Program} {ops : Array Oper} {Q : Exit → Act → World → Prop} {E : List Ent} {l n : Nat} {w : World} {a : Act}
/-- As wp_region_partX, in a round. -/
theorem wpIn_region_partX {id : Nat} {S : List Sh} (X : List (Nat × Obj)) (m k : Nat) (hd : noDefer ops = true) (hQ : ¬ LetsOut Q) (hm : P.follows .mixedOrders = true) (hS : E.map Ent.sh = S) (hok : Seg.ok ops S 0 = true) (hlen : E.length = m) (hk : ops.size = m + k)
    (hXw : ∀ (b g : Nat) (o : Obj), X[b]? = some (g, o) → w.heap[g]? = some o) (hXd : ∀ (b b' g : Nat) (o o' : Obj), X[b]? = some (g, o) → X[b']? = some (g, o') → b = b') (hXe : ∀ (x b : Nat) pv v o, E[x]? = some (Ent.ef b pv v o) → ∃ g o0, X[b]? = some (g, o0))
    (H : ∀ th : Nat → Nat, (∀ x z k, E[x]? = some (.al z k) → w.heap.size ≤ th (0 + x)) → (∀ x y z k z' k', E[x]? = some (.al z k) → E[y]? = some (.al z' k') → x ≠ y → th (0 + x) ≠ th (0 + y)) →
      Seg.steps P ops E X 0 w th (fun a' => ∀ U, Seg.base X w U → Seg.known E 0 th (fun _ => True) U → Seg.endX E X 0 U → wpAny P .any ops Q k (Seg.marks ops.size m) a' U) E 0 a) :
    (Code.region id ops true).wpIn (Fence.wide.inRound l) n P Q a w := by
  refine wpIn_region_any hm (wpAnyIn_of_plain hd hQ _ _ _ _ ?_)
  rw [Seg.marks_start]
  subst hlen
  have hk2 : ops.size - (0 + E.length) = k := by omega
  refine wpAny_segX (X := X) (l := 0) (w := w) (w0 := w.drew) (Rest := fun a' U => wpAny P .any ops Q k (Seg.marks ops.size E.length) a' U) hS hok ((Below.refl _ w).drew) hXw hXd hXe (fun a' U hR => ?_) H
  rw [hk2, Nat.zero_add]; exact hR
theorem wpIn_region_part {id : Nat} {S : List Sh} (m k : Nat) (hd : noDefer ops = true) (hQ : ¬ LetsOut Q) (hm : P.follows .mixedOrders = true) (hS : E.map Ent.sh = S) (hok : Seg.ok ops S 0 = true) (hlen : E.length = m) (hk : ops.size = m + k) (hmild : Seg.mild S = true)
    (H : ∀ th : Nat → Nat, (∀ x z k, E[x]? = some (.al z k) → w.heap.size ≤ th (0 + x)) → (∀ x y z k z' k', E[x]? = some (.al z k) → E[y]? = some (.al z' k') → x ≠ y → th (0 + x) ≠ th (0 + y)) →
      Seg.steps P ops E [] 0 w th (fun a' => ∀ U, After w U → Seg.known E 0 th (fun _ => True) U → wpAny P .any ops Q k (Seg.marks ops.size m) a' U) E 0 a) :
    (Code.region id ops true).wpIn (Fence.wide.inRound l) n P Q a w := by
  refine wpIn_region_any hm (wpAnyIn_of_plain hd hQ _ _ _ _ ?_)
  rw [Seg.marks_start]
  subst hlen
  have hk2 : ops.size - (0 + E.length) = k := by omega
  refine wpAny_seg (l := 0) (w := w) (w0 := w.drew) (Rest := fun a' U => wpAny P .any ops Q k (Seg.marks ops.size E.length) a' U) hS hok ((Below.refl _ w).drew) (Seg.mild_spec hS hmild) (fun a' U hR => ?_) H
  rw [hk2, Nat.zero_add]; exact hR
theorem ownPost_no {α : Type} {Kp : World → World → Prop} {I : List α → World → Prop} {Ix : Code → List α → World → Prop} {xs : List α} {W : World} : ¬ LetsOut (ownPostK Kp I Ix xs W) := fun ⟨_, _, h⟩ => h
end

section
variable {P : Program}
theorem calls_of_marks {f : FuncId} {fn : Func} {c : Code} {args : Array Value} {w : World} {R : Ending → World → Prop} (hf : P.funcs[f]? = some fn) (hb : fn.body = some c)
    (h : c.wp P (bodyPostM Fence.wide 9 P fn R) { tmps := args ++ Array.replicate (fn.ntmps - args.size) undef, defers := [] } w) : Calls P f args w R :=
  (callsIn_wide (n := 9)).1 (callsIn_of_wp_marks hf hb trivial (wpIn_wide.2 h) rfl)
/-- It returns, no mark being there. -/
theorem marks_ret0 {n : Nat} {fn : Func} {R : Ending → World → Prop} {T : Array Value} {w : World} {v : Value} (hr : (results fn T).run P w = .ok v w) (hR : R (.returned v) w) :
    bodyPostM Fence.wide n P fn R .ret { tmps := T, defers := [] } w := ⟨v, hr, hR⟩
/-- It returns, a loop's mark being there. -/
theorem marks_ret1 {n : Nat} {fn : Func} {R : Ending → World → Prop} {T : Array Value} {w : World} {D : Nat} {v : Value} (hK : w.heap[D]? = some (.deferred (some [])))
    (hr : (results fn T).run P (w.putObj D (.deferred none)) = .ok v (w.putObj D (.deferred none))) (hR : R (.returned v) (w.putObj D (.deferred none))) :
    bodyPostM Fence.wide n P fn R .ret { tmps := T, defers := [{ target := .collected D, args := #[] }] } w :=
  ⟨by simp, .inl ⟨_, _, rfl, run_takeDeferred hK, v, hr, hR⟩⟩
theorem marks_end1 {n : Nat} {fn : Func} {R : Ending → World → Prop} {T : Array Value} {w : World} {D : Nat} {v : Value} (hK : w.heap[D]? = some (.deferred (some [])))
    (hr : (results fn T).run P (w.putObj D (.deferred none)) = .ok v (w.putObj D (.deferred none))) (hR : R (.returned v) (w.putObj D (.deferred none))) :
    bodyPostM Fence.wide n P fn R .normal { tmps := T, defers := [{ target := .collected D, args := #[] }] } w :=
  ⟨by simp, .inl ⟨_, _, rfl, run_takeDeferred hK, v, hr, hR⟩⟩

/-- A range over a function, in a function that is walked plainly. -/
theorem wp_rangeFunc_F {α : Type} {g : Operand} {ps : Array Tmp} {assign body : Code} {Q : Exit → Act → World → Prop} {a : Act} {w : World}
    {gf : Nat} {lb : Array Value} (hg : a.eval g = .func (.func gf) #[] lb) (eg : ∀ args w, (callFunc gf args).run P w = .ok (.enter gf args) w)
    {encs : α → Array Value} {Kp : World → World → Prop} {S Sp : List α → Prop} {N : Nat} {w0 : World} (hseq : SeqStopsK Fence.wide 8 P gf lb encs Kp S Sp N w0)
    (hKt : ∀ {A B C : World}, Kp A B → Kp B C → Kp A C) (hKb : ∀ (W : World) (l : Nat) (o o' : Obj), w.heap.size ≤ l → W.heap[l]? = some o → o.isCells = false → o.isWalk = false → Kp W (W.putObj l o')) (hb0 : Below w0.heap.size w0 w) (hps : ∀ x, (encs x).size = ps.size)
    (I : List α → World → Prop) (Ix : Code → List α → World → Prop) (hI : OwnFrom w.heap.size I) (hIx : ∀ c, OwnFrom w.heap.size (Ix c)) (h0 : I [] w) (a₁ : α → Act)
    (hassign : ∀ (l : Nat) (x : α) (W : World) (K : Act → World → Prop), K (a₁ x) W →
      assign.wpIn (Fence.wide.inRound l) 7 P (Exit.then K (fun _ _ _ => False)) { tmps := (ps.zip (encs x)).foldl (fun t (p, v) => t.setIfInBounds p v) a.tmps, defers := [] } W)
    (hbody : ∀ (l : Nat) (pre : List α) (x : α) (W : World), I pre W → pre.length < N → body.wpIn (Fence.wide.inRound l) 7 P (ownPostK Kp I Ix (pre ++ [x]) W) (a₁ x) W)
    (hdone : ∀ (D : Nat) (xs : List α) (W : World), w.heap.size ≤ D → S xs → I xs W → W.heap[D]? = some (.deferred (some [])) → Q .normal { a with defers := { target := .collected D, args := #[] } :: a.defers } W)
    (hstop : ∀ (D : Nat) (c : Code) (pre : List α) (W : World), w.heap.size ≤ D → Sp pre → Ix c pre W → W.heap[D]? = some (.deferred (some [])) → c.wp P Q { a with defers := { target := .collected D, args := #[] } :: a.defers } W) :
    (Code.rangeFunc g ps assign body).wp P Q a w :=
  wpIn_wide.1 (wpIn_rangeFunc_ownF (F := Fence.wide) (n := 9) rfl (by omega) hg trivial eg hseq hKt hKb hb0 hps I Ix hI hIx h0 a₁ hassign hbody hdone (fun D c pre W h1 h2 h3 h4 => wpIn_wide.2 (hstop D c pre W h1 h2 h3 h4)))

/-- What an invariant may say, that the law's own blocks do not turn: blocks of cells; what lies below B. -/
theorem ownFrom_row {β : Type} (B : Nat) (f : β → Nat × Obj) (hc : ∀ s, (f s).2.isCells = true) : OwnFrom (β := β) B (fun s W => W.heap[(f s).1]? = some (f s).2) := by
  intro s W W' row hs hg hr
  have hlt := (Array.getElem?_eq_some_iff.1 hs).1
  refine (hg.block _ hlt (fun e => ?_)).trans hs
  obtain ⟨_, o, ho, hc2⟩ := hr _ e.symm
  rw [hs] at ho; cases ho; rw [hc s] at hc2; cases hc2
theorem keeps_row {W W' : World} {row : Option Nat} {B g : Nat} {o : Obj} (h : W.heap[g]? = some o) (hc : o.isCells = true) (hg : W.grownBy W' row) (hr : ∀ r, row = some r → B ≤ r ∧ ∃ o : Obj, W.heap[r]? = some o ∧ o.isCells = false) : W'.heap[g]? = some o := by
  have hlt := (Array.getElem?_eq_some_iff.1 h).1
  refine (hg.block _ hlt (fun e => ?_)).trans h
  obtain ⟨_, o, ho, hc2⟩ := hr _ e.symm
  rw [h] at ho; cases ho; rw [hc] at hc2; cases hc2
theorem keeps_below {W W' w : World} {row : Option Nat} {B C : Nat} (h : Below C w W) (hC : C ≤ B) (hB : C ≤ W.heap.size) (hg : W.grownBy W' row) (hr : ∀ r, row = some r → B ≤ r ∧ ∃ o : Obj, W.heap[r]? = some o ∧ o.isCells = false) : Below C w W' :=
  h.grown hg hB (fun k e => by have := (hr k e).1; omega)
end

theorem info_one {P : Program} {E : TypeId} {k : IntKind} {b : Nat} (hi : (P.info? E).map (fun i => (i.zero, i.size, i.bytes)) = some (some (.int k 0), 1, b)) :
    ∃ i, P.info? E = some i ∧ i.zero = some (.int k 0) ∧ i.size = 1 ∧ i.bytes = b := by
  cases hP : P.info? E with
  | none => rw [hP] at hi; cases hi
  | some i => rw [hP] at hi; simp at hi; exact ⟨i, rfl, hi.1, hi.2.1, hi.2.2⟩
/-- One more element, that lies in a new block. -/
theorem wp_app1 {P : Program} {w : World} {o : Oper} {a : Act} {K : Act → World → Prop} {Q : Exit → Act → World → Prop} (s x : Operand) (t : TypeId)
    (ho : o.op = .call { callee := .builtin .append, args := #[s, x], argTypes := #[t, t] }) (base : Nat) (E : TypeId) (k : IntKind) (b : Nat) (hT : IntsOf P t E k b)
    (v : Value) (zs : List Int) (hs : a.eval s = v) (hown : Own k E w base v zs) (q : Nat) (y : Int) (T : TypeId) (hx : a.eval x = .slice (some ⟨q, 0, none⟩) 1 1) (hq : w.heap[q]? = some (.cells #[.int k y] T (0, 0)))
    (hlen : zs.length + 1 ≤ 140737488355328 / b) (hb0 : 0 < b) (hbase : base ≤ w.heap.size)
    (h : ∀ a' cap' w', Own k E w' base (.slice a' (zs.length + 1) cap') (zs ++ [y]) → w.grownBy w' v.ownBlock → K (a.put o.dst (.slice a' (zs.length + 1) cap')) w') : o.wp P a w K Q := by
  obtain ⟨ht, hi⟩ := hT
  obtain ⟨i, hi1, hz, hsz, hby⟩ := info_one hi
  have hle : zs.length + 1 ≤ 140737488355328 := Nat.le_trans hlen (Nat.div_le_self _ _)
  have hmul : (zs.length + 1) * b ≤ 140737488355328 := (Nat.le_div_iff_mul_le hb0).1 hlen
  refine wp_append_own w s x t ho base E i (.int k 0) 1 b ht hi1 hz hsz hby rfl (by decide) v zs.length (zs.map (Value.int k)) hs hown ⟨q, 0, none⟩ 1 1 [.int k y] hx (by simp) ?_ (by simp [Value.oneCell']) (by unfold maxLen; omega) hmul hbase ?_
  · intro j u hj
    cases j with
    | zero =>
      simp at hj
      subst hj
      exact held_cell hq 0 _ rfl
    | succ j => simp at hj
  · intro v' w' h2 h3 _
    have h4 : Own k E w' base v' (zs ++ [y]) := by simpa [Own, List.map_append] using h2
    obtain ⟨a', cap', hv, -⟩ := h4.sl
    rw [List.length_append, List.length_singleton] at hv
    subst hv
    exact h a' cap' w' h4 h3
theorem keeps_own {k : IntKind} {E : TypeId} {W W' : World} {base : Nat} {v : Value} {zs : List Int} {row : Option Nat} {B : Nat} (h : Own k E W base v zs) (hg : W.grownBy W' row) (hr : ∀ r, row = some r → B ≤ r ∧ ∃ o : Obj, W.heap[r]? = some o ∧ o.isCells = false) : Own k E W' base v zs := by
  refine World.ownsRow.kept h hg ?_
  rcases h.2 with ⟨rfl, _⟩ | ⟨g, cap, cur, rfl, _, hgb, _⟩
  · exact .inl rfl
  · refine .inr fun e' => ?_
    obtain ⟨_, o, ho, hc⟩ := hr g (by simpa [Value.ownBlock] using e'.symm)
    rw [hgb] at ho; cases ho; cases hc
/-- An owned row of another type is not this block. -/
theorem own_ne {k : IntKind} {E T : TypeId} {W : World} {base : Nat} {v : Value} {zs : List Int} {g : Nat} {c : Array Value} {f : Nat × Nat} (h : Own k E W base v zs) (hg : W.heap[g]? = some (.cells c T f)) (hT : T ≠ E) : some g ≠ v.ownBlock := by
  rcases h.2 with ⟨rfl, _⟩ | ⟨g', cap, cur, rfl, _, hgb, _⟩
  · simp [Value.ownBlock]
  · intro e'
    obtain rfl : g = g' := by simpa [Value.ownBlock] using e'
    rw [hgb] at hg
    simp at hg
    exact hT hg.2.1.symm
theorem held_grown {W W' : World} {row : Option Nat} {g : Nat} {o : Obj} (h : W.heap[g]? = some o) (hg : W.grownBy W' row) (hne : some g ≠ row) : W'.heap[g]? = some o :=
  (hg.block g (Array.getElem?_eq_some_iff.1 h).1 hne).trans h
theorem Own.oth {k : IntKind} {E T : TypeId} {W : World} {base : Nat} {v : Value} {zs : List Int} {g : Nat} {c : Array Value} {f : Nat × Nat} (h : Own k E W base v zs) (hg : W.heap[g]? = some (.cells c T f)) (hT : T ≠ E) (j : Nat) (u : Value) : Own k E (W.setCell ⟨g, j, none⟩ u) base v zs :=
  ownsRow_setCell_other h (fun e => own_ne h hg hT e.symm) u
theorem keepsOthers_after {W U : World} (h : After W U) : KeepsOthers W U := ⟨h.size, fun k _ hk _ => (h.block k (Array.getElem?_eq_some_iff.1 hk).1).trans hk⟩
theorem held_oth {U : World} {p q j : Nat} {o : Obj} {v : Value} (h : p ≠ q) (hp : U.heap[p]? = some o) : (U.setCell ⟨q, j, none⟩ v).heap[p]? = some o := (Below.heap_setCell _ _ _ _ h).trans hp
theorem three_new (V : World) (a b c : Obj) : (((V.alloc a).alloc b).alloc c).heap[V.heap.size]? = some a ∧ (((V.alloc a).alloc b).alloc c).heap[V.heap.size + 1]? = some b ∧ (((V.alloc a).alloc b).alloc c).heap[V.heap.size + 1 + 1]? = some c ∧ (((V.alloc a).alloc b).alloc c).heap.size = V.heap.size + 1 + 1 + 1 ∧ After V (((V.alloc a).alloc b).alloc c) := by
  have h1 := World.alloc_heap_new V a
  have h2 := World.alloc_heap_new (V.alloc a) b
  have h3 := World.alloc_heap_new ((V.alloc a).alloc b) c
  simp only [World.size_alloc] at h2 h3
  refine ⟨?_, ?_, h3, by simp only [World.size_alloc], ((((Below.refl _ V).alloc (Nat.le_refl _) a).alloc (by simp) b).alloc (by simp; omega) c)⟩
  · rw [Below.heap_alloc _ _ _ (by simp; omega), Below.heap_alloc _ _ _ (by simp)]; exact h1
  · rw [Below.heap_alloc _ _ _ (by simp)]; exact h2
theorem below_mark {w W0 W : World} {D : Nat} {B : Nat} (h : Below B w W) (hB : B ≤ W0.heap.size) (hD : W0.heap.size ≤ D) (hK : W.heap[D]? = some (.deferred (some []))) : Below B w (W.putObj D (.deferred none)) :=
  h.trans (belowK_b (w := W0) hB W D _ _ hD hK rfl rfl)
theorem own_cells {k : IntKind} {E : TypeId} {W : World} {base : Nat} {v : Value} {zs : List Int} (h : Own k E W base v zs) {j : Nat} {o : Obj} (e : v.ownBlock = some j) (hj : W.heap[j]? = some o) : o.isCells = true := by
  rcases h.2 with ⟨rfl, _⟩ | ⟨g', cap, cur, rfl, _, hgb, _⟩
  · cases e
  · simp [Value.ownBlock] at e
    subst e
    rw [hgb] at hj; cases hj; rfl
/-- As wpList_app1; and what else lies where it lay. -/
theorem wpList_app2 {P : Program} (w aw : World) {ops : Array Oper} {rest : List Oper} {o : Oper} {a : Act} {Q : Exit → Act → World → Prop} (hw : Region.wanted o (yielded ops a.tmps) = true) (s x : Operand) (t : TypeId)
    (ho : o.op = .call { callee := .builtin .append, args := #[s, x], argTypes := #[t, t] })
    (B base : Nat) (E : TypeId) (k : IntKind) (b : Nat) (hT : IntsOf P t E k b)
    (v : Value) (zs : List Int) (hs : a.eval s = v) (hown : Own k E w base v zs)
    (y : Int) (hx : a.eval x = .slice (some ⟨w.heap.size, 0, none⟩) 1 1)
    (hlen : zs.length + 1 ≤ 140737488355328 / b) (hb0 : 0 < b) (hbel : Below B aw w) (hB : B ≤ base) (hbase : base ≤ w.heap.size)
    (h : ∀ a' cap' w', Own k E w' base (.slice a' (zs.length + 1) cap') (zs ++ [y]) → Below B aw w' → (∀ (g : Nat) (c : Array Value) (T : TypeId) (f : Nat × Nat), T ≠ E → w.heap[g]? = some (.cells c T f) → w'.heap[g]? = some (.cells c T f)) →
      wpList P ops Q rest (a.put o.dst (.slice a' (zs.length + 1) cap')) w') : wpList P ops Q (o :: rest) a (w.alloc (.cells #[.int k y] E)) := by
  refine wpList_app _ hw s x t ho base E k b hT v zs hs (hown.alloc _) (some ⟨w.heap.size, 0, none⟩) 1 [y] hx (rd_one _ _ _ _) (by intro h; cases h) hlen hb0 (by simp; omega) ?_
  intro v' w' h1 h2
  obtain ⟨a', cap', hv, -⟩ := h1.sl
  rw [List.length_append, List.length_singleton] at hv
  subst hv
  refine h a' cap' w' h1 ((hown.alloc _).grew h2 (hbel.alloc (by omega) _) hB (by simp; omega)) fun g c T f hT hg => ?_
  have hg2 := (Below.heap_alloc w (.cells #[.int k y] E) g (Array.getElem?_eq_some_iff.1 hg).1).trans hg
  exact held_grown hg2 h2 (own_ne (hown.alloc _) hg2 hT)
/-- A cell of one's own slice is written. -/
theorem Own.cellSet {k : IntKind} {E : TypeId} {w : World} {base : Nat} {a : Option Addr} {n cap : Nat} {zs : List Int} (h : Own k E w base (.slice a n cap) zs) (i : Nat) (hi : i < zs.length) :
    ∃ g, a = some ⟨g, 0, none⟩ ∧ base ≤ g ∧ w.cell? ⟨g, i, none⟩ = some (.int k (zs.getD i 0)) ∧ w.frozen? ⟨g, i, none⟩ = false ∧ ∀ x, Own k E (w.setCell ⟨g, i, none⟩ (.int k x)) base (.slice a n cap) (zs.set i x) := by
  rcases h.2 with ⟨h1, h2⟩ | ⟨g, c, cur, h1, h2, h3, h4, h5, h6, h7⟩
  · omega
  · cases h1
    rw [Nat.mul_one] at h6 h7
    have hc : i < cur.size := by omega
    have e1 : cur[i]? = some (.int k (zs.getD i 0)) := by
      have e2 := congrArg (fun l => l[i]?) h7
      simp only [List.getElem?_take_of_lt hi, Array.getElem?_toList, List.getElem?_map] at e2
      rw [e2]; simp [hi]
    refine ⟨g, rfl, h2, ?_, frozen_of_row w g i cur E h3, fun x => ?_⟩
    · rw [cell_of_row w g i cur E (0, 0) h3]; exact e1
    · refine ⟨by simp, .inr ⟨g, _, cur.setIfInBounds i (.int k x), by rw [List.length_set], h2, heap_setCell_same w g i cur E _ h3, by rw [List.length_set]; exact h4, h5, by simp; omega, ?_⟩⟩
      rw [List.length_set, Nat.mul_one, Array.toList_setIfInBounds, List.map_set, List.take_set, h7]
end Go.Proofs.Ytekilpmmadhpoaa
