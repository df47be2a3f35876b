/- Several texts in one: Range3, Range4. -/
import Derived.Test.YtpbekdkobmgndaaDoorKB
import Derived.Test.YtpbekdkobmgndaaDoorEls

/- A range over a function whose elements lie in memory: at each yield its word of the element (El) holds; what the loop's body keeps for the iterator is any relation Kp. -/
namespace Go.Proofs.YtpbekdkobmgndaaDoor
open Go.RowKit Go.Shelf
set_option linter.unusedVariables false

/-- The contract of such an iterator. -/
def TellsE {α : Type} (P : Program) (gf : Nat) (lb : Array Value) (encs : α → Array Value) (El : α → World → Prop) (Kp : World → World → Prop) (S Sp : List α → Prop) (N : Nat) (w0 : World) : Prop :=
  ∀ (l : Nat) (J Jx : List α → World → Prop) (W : World), Below w0.heap.size w0 W → (∀ s A A', J s A → After A A' → J s A') →
    (∀ pre x W1, J pre W1 → El x W1 → pre.length < N → YieldAt Fence.wide 7 P l (encs x) W1 fun e W' =>
      (e = .returned (.bool true) ∧ J (pre ++ [x]) W' ∧ Kp W1 W') ∨ (e = .returned (.bool false) ∧ Jx (pre ++ [x]) W')) →
    J [] W →
    CallsIn Fence.wide 8 P gf (#[.func (.yield l) #[] #[]] ++ lb) W fun e W' => (∃ v, e = .returned v) ∧ ((∃ xs, S xs ∧ J xs W') ∨ (∃ pre, Sp pre ∧ Jx pre W'))
/-- How a round may end: it goes on, or returns. -/
def roundEndsE {α : Type} (Kp : World → World → Prop) (I Ix : List α → World → Prop) (xs : List α) (W : World) : Exit → Act → World → Prop
  | .normal, _, W' => KeepsOthers W W' ∧ Kp W W' ∧ I xs W'
  | .ret, _, W' => KeepsOthers W W' ∧ Ix xs W'
  | _, _, _ => False
/-- Old blocks but one stay. -/
def KpX (q M : Nat) (A B : World) : Prop := A.heap.size ≤ B.heap.size ∧ ∀ k, k < M → k ≠ q → B.heap[k]? = A.heap[k]?
theorem kpX_t {q M : Nat} {A B C : World} (h : KpX q M A B) (k : KpX q M B C) : KpX q M A C := ⟨Nat.le_trans h.1 k.1, fun j h1 h2 => (k.2 j h1 h2).trans (h.2 j h1 h2)⟩
theorem kpX_b {q M : Nat} (W : World) (l : Nat) (o' : Obj) (h : M ≤ l) : KpX q M W (W.putObj l o') := ⟨by simp, fun k hk _ => World.putObj_heap_other (by omega)⟩
theorem kpX_after {q M : Nat} {A B : World} (h : After A B) (hM : M ≤ A.heap.size) : KpX q M A B := ⟨h.size, fun k hk _ => h.block k (by omega)⟩
theorem kpX_held {q M g : Nat} {A B : World} {o : Obj} (h : KpX q M A B) (hg : A.heap[g]? = some o) (h1 : g < M) (h2 : g ≠ q) : B.heap[g]? = some o := (h.2 g h1 h2).trans hg
/-- A readable slice stays where its blocks stay. -/
theorem own_sl {W W' : World} {row : Option Nat} {B : Nat} {k : IntKind} {a : Option Addr} {len cap : Nat} {zs : List Int} (h : Sl k W a len cap zs) (hg : W.grownBy W' row) (hr : ∀ r, row = some r → B ≤ r ∧ ∃ o : Obj, W.heap[r]? = some o ∧ o.isCells = false) : Sl k W' a len cap zs := by
  refine ⟨h.1, h.2.1, h.2.2.1, h.2.2.2.1, fun i hi => ?_⟩
  obtain ⟨b, off, e, hc⟩ := h.2.2.2.2 i hi
  refine ⟨b, off, e, ?_⟩
  have hlt := World.block_lt_of_cell? (w := W) _ hc
  refine (World.cell?_of_block (w := W) (hg.block _ hlt fun e2 => ?_)).trans hc
  obtain ⟨_, o, ho, hcl⟩ := hr _ e2.symm
  unfold World.cell? at hc
  rw [ho] at hc
  cases o <;> simp_all [Obj.isCells]

section
variable {P : Program} {α : Type}
theorem wp_rangeFunc_el {g : Operand} {ps : Array Tmp} {assign body : Code} {Q : Exit → Act → World → Prop} {a : Act} {w : World}
    {gf : Nat} {lb : Array Value} (hg : a.eval g = .func (.func gf) #[] lb) (eg : ∀ args w, (callFunc gf args).run P w = .ok (.enter gf args) w)
    {encs : α → Array Value} {El : α → World → Prop} {Kp : World → World → Prop} {S Sp : List α → Prop} {N : Nat} (hseq : TellsE P gf lb encs El Kp S Sp N w) (hKt : ∀ {A B C : World}, Kp A B → Kp B C → Kp A C) (hKb : ∀ (W : World) (l : Nat) (o' : Obj), w.heap.size ≤ l → Kp W (W.putObj l o')) (hEl : OwnFrom w.heap.size El) (hps : ∀ x, (encs x).size = ps.size)
    (I Ix : List α → World → Prop) (hI : OwnFrom w.heap.size I) (hIx : OwnFrom w.heap.size Ix) (hst : ∀ s A A', I s A → After A A' → I s A') (h0 : I [] w) (a₁ : α → Act)
    (hassign : ∀ (l : Nat) (x : α) (W : World) (K : Act → World → Prop), K (a₁ x) W →
      assign.wpIn (Fence.wide.inRound l) 7 P (Exit.then K (fun _ _ _ => False)) { tmps := (ps.zip (encs x)).foldl (fun t (p, v) => t.setIfInBounds p v) a.tmps, defers := [] } W)
    (hbody : ∀ (l : Nat) (pre : List α) (x : α) (W : World), I pre W → El x W → pre.length < N → body.wpIn (Fence.wide.inRound l) 7 P (roundEndsE Kp I Ix (pre ++ [x]) W) (a₁ x) W)
    (hdone : ∀ (D : Nat) (xs : List α) (W : World), w.heap.size ≤ D → S xs → I xs W → W.heap[D]? = some (.deferred (some [])) → Q .normal { a with defers := { target := .collected D, args := #[] } :: a.defers } W)
    (hstop : ∀ (D : Nat) (pre : List α) (W : World), w.heap.size ≤ D → Sp pre → Ix pre W → W.heap[D]? = some (.deferred (some [])) → Code.ret.wp P Q { a with defers := { target := .collected D, args := #[] } :: a.defers } W) :
    (Code.rangeFunc g ps assign body).wp P Q a w := by
  refine wpIn_wide.1 (wpIn_rangeFunc (F := Fence.wide) (n := 9) fun fn hfn => ?_)
  have hD0 := World.alloc_heap_new w (.deferred (some []))
  obtain ⟨D, hD⟩ : ∃ D, D = w.heap.size := ⟨_, rfl⟩
  let loop : LoopState → Option Code → Obj := fun st pe => .loop { state := st, pending := pe, fn, tmps := a.tmps, params := ps, assign, body, defers := D }
  obtain ⟨W0, eW⟩ : ∃ W0, (w.alloc (.deferred (some []))).alloc (loop .ready none) = W0 := ⟨_, rfl⟩
  have bL : W0.heap[D + 1]? = some (loop .ready none) := by
    have h := World.alloc_heap_new (w.alloc (.deferred (some []))) (loop .ready none)
    rw [World.size_alloc, eW, ← hD] at h; exact h
  have bD : W0.heap[D]? = some (.deferred (some [])) := by
    rw [← eW, hD]; exact (Below.heap_alloc _ _ _ (by simp)).trans hD0
  have hW0 : Below w.heap.size w W0 := by rw [← eW]; exact ((Below.refl _ w).alloc (Nat.le_refl _) _).alloc (by simp) _
  refine ⟨D + 1, [{ target := .collected D, args := #[] }], W0, { target := .fn (.func gf) lb, args := #[.func (.yield (D + 1)) #[] #[]] }, W0, gf, #[.func (.yield (D + 1)) #[] #[]] ++ lb, W0, ?_, ?_, fun _ _ => trivial, ?_, fun _ => by omega, ?_⟩
  · subst hD; rw [← eW]; exact run_enterLoop_outer _ _ _ _ _
  · simp only [resolve, hg]
    simp [go_sem]
  · simp [invoke, go_sem, eg]
  -- the caller's word, and the two blocks of the loop
  let J : List α → World → Prop := fun pre W => I pre W ∧ W.heap[D + 1]? = some (loop .ready none) ∧ W.heap[D]? = some (.deferred (some []))
  let Jx : List α → World → Prop := fun pre W => Ix pre W ∧ W.heap[D + 1]? = some (loop .done (some .ret)) ∧ W.heap[D]? = some (.deferred (some []))
  have hJ : ∀ s A A', J s A → After A A' → J s A' := fun s A A' h e => ⟨hst s A A' h.1 e, held_after e h.2.1, held_after e h.2.2⟩
  have swapI : ∀ {pre W o} (o' : Obj), I pre W → W.heap[D + 1]? = some o → o.isCells = false → I pre (W.putObj (D + 1) o') := fun o' h1 h2 h3 => hI.putObj o' h1 (by omega) h2 h3
  have swapX : ∀ {pre W o} (o' : Obj), Ix pre W → W.heap[D + 1]? = some o → o.isCells = false → Ix pre (W.putObj (D + 1) o') := fun o' h1 h2 h3 => hIx.putObj o' h1 (by omega) h2 h3
  have side : ∀ {W : World} (o' : Obj), W.heap[D]? = some (.deferred (some [])) → (W.putObj (D + 1) o').heap[D]? = some (.deferred (some [])) := fun o' h => (World.putObj_heap_other (by omega)).trans h
  have kp : ∀ (W : World) (o' : Obj), Kp W (W.putObj (D + 1) o') := fun W o' => hKb W _ o' (by omega)
  have swapE : ∀ {x W o} (o' : Obj), El x W → W.heap[D + 1]? = some o → o.isCells = false → El x (W.putObj (D + 1) o') := fun o' h1 h2 h3 => hEl.putObj o' h1 (by omega) h2 h3
  have h1 : I [] W0 := by rw [← eW]; exact hI.alloc _ (hI.alloc _ h0)
  refine (hseq (D + 1) J Jx W0 hW0 hJ ?_ ⟨h1, bL, bD⟩).mono ?_
  · rintro pre x W ⟨hi, hl, hd⟩ hx hlen
    refine ⟨fn, _, assign, body, run_yield (P := P) (args := encs x) hl (hps x), roundIn_of_wpIn hfn (hassign _ x W _ ⟨_, run_beginRound hl rfl, ?_⟩)⟩
    have hl2 := putObj_at (o' := loop .busy none) hl
    refine wpIn_mono (hbody _ pre x _ (swapI _ hi hl rfl) (swapE _ hx hl rfl) hlen) ?_
    rintro e a3 V hp
    cases e with
    | normal =>
      obtain ⟨ko, kb, hi3⟩ := hp
      have hl3 := ko.same _ _ hl2 rfl
      exact ⟨_, _, run_endRound (P := P) none hl3, .inl ⟨rfl, ⟨swapI _ hi3 hl3 rfl, putObj_at hl3, side _ (ko.same _ _ (side _ hd) rfl)⟩, hKt (hKt (kp _ _) kb) (kp _ _)⟩⟩
    | ret =>
      obtain ⟨ko, hi3⟩ := hp
      have hl3 := ko.same _ _ hl2 rfl
      exact ⟨_, _, run_endRound (P := P) (some .ret) hl3, .inr ⟨rfl, swapX _ hi3 hl3 rfl, putObj_at hl3, side _ (ko.same _ _ (side _ hd) rfl)⟩⟩
    | exit _ => exact hp.elim
    | goto _ => exact hp.elim
    | panic _ => exact hp.elim
    | outgrown => exact hp.elim
  · rintro e V ⟨⟨v, rfl⟩, (⟨xs, hS, hi, hl, hd⟩ | ⟨pre, hSp, hi, hl, hd⟩)⟩
    · exact ⟨none, _, run_endLoop (P := P) hl (by simp), hdone D xs _ (by omega) hS (swapI _ hi hl rfl) (side _ hd)⟩
    · exact ⟨some .ret, _, run_endLoop (P := P) hl (by simp), wpIn_wide.2 (hstop D pre _ (by omega) hSp (swapX _ hi hl rfl) (side _ hd))⟩
end
end Go.Proofs.YtpbekdkobmgndaaDoor

/- A range over a function whose loop variables lie in new blocks: the assignment at the head of a round makes memory. -/
namespace Go.Proofs.YtpbekdkobmgndaaDoor
open Go.RowKit Go.Shelf
set_option linter.unusedVariables false

section
variable {P : Program} {α : Type}
theorem wp_rangeFunc_as {g : Operand} {ps : Array Tmp} {assign body : Code} {Q : Exit → Act → World → Prop} {a : Act} {w : World}
    {gf : Nat} {lb : Array Value} (hg : a.eval g = .func (.func gf) #[] lb) (eg : ∀ args w, (callFunc gf args).run P w = .ok (.enter gf args) w)
    {encs : α → Array Value} {El : α → World → Prop} {Kp : World → World → Prop} {S Sp : List α → Prop} {N : Nat} (hseq : TellsE P gf lb encs El Kp S Sp N w) (hKt : ∀ {A B C : World}, Kp A B → Kp B C → Kp A C) (hKb : ∀ (W : World) (l : Nat) (o' : Obj), w.heap.size ≤ l → Kp W (W.putObj l o')) (hEl : OwnFrom w.heap.size El) (hps : ∀ x, (encs x).size = ps.size)
    (I Ix : List α → World → Prop) (hI : OwnFrom w.heap.size I) (hIx : OwnFrom w.heap.size Ix) (hst : ∀ s A A', I s A → After A A' → I s A') (h0 : I [] w)
    (Bd : α → Act → World → Prop) (hBd : ∀ a, OwnFrom w.heap.size (fun x W => Bd x a W)) (hElA : ∀ x A A', El x A → After A A' → El x A') (hKa : ∀ pre W W', I pre W → After W W' → Kp W W')
    (hassign : ∀ (l : Nat) (x : α) (W : World) (K : Act → World → Prop), w.heap.size ≤ W.heap.size → (∀ a W', After W W' → Bd x a W' → K a W') →
      assign.wpIn (Fence.wide.inRound l) 7 P (Exit.then K (fun _ _ _ => False)) { tmps := (ps.zip (encs x)).foldl (fun t (p, v) => t.setIfInBounds p v) a.tmps, defers := [] } W)
    (hbody : ∀ (l : Nat) (pre : List α) (x : α) (a : Act) (W : World), I pre W → El x W → Bd x a W → pre.length < N → body.wpIn (Fence.wide.inRound l) 7 P (roundEndsE Kp I Ix (pre ++ [x]) W) a W)
    (hdone : ∀ (D : Nat) (xs : List α) (W : World), w.heap.size ≤ D → S xs → I xs W → W.heap[D]? = some (.deferred (some [])) → Q .normal { a with defers := { target := .collected D, args := #[] } :: a.defers } W)
    (hstop : ∀ (D : Nat) (pre : List α) (W : World), w.heap.size ≤ D → Sp pre → Ix pre W → W.heap[D]? = some (.deferred (some [])) → Code.ret.wp P Q { a with defers := { target := .collected D, args := #[] } :: a.defers } W) :
    (Code.rangeFunc g ps assign body).wp P Q a w := by
  refine wpIn_wide.1 (wpIn_rangeFunc (F := Fence.wide) (n := 9) fun fn hfn => ?_)
  have hD0 := World.alloc_heap_new w (.deferred (some []))
  obtain ⟨D, hD⟩ : ∃ D, D = w.heap.size := ⟨_, rfl⟩
  let loop : LoopState → Option Code → Obj := fun st pe => .loop { state := st, pending := pe, fn, tmps := a.tmps, params := ps, assign, body, defers := D }
  obtain ⟨W0, eW⟩ : ∃ W0, (w.alloc (.deferred (some []))).alloc (loop .ready none) = W0 := ⟨_, rfl⟩
  have bL : W0.heap[D + 1]? = some (loop .ready none) := by
    have h := World.alloc_heap_new (w.alloc (.deferred (some []))) (loop .ready none)
    rw [World.size_alloc, eW, ← hD] at h; exact h
  have bD : W0.heap[D]? = some (.deferred (some [])) := by
    rw [← eW, hD]; exact (Below.heap_alloc _ _ _ (by simp)).trans hD0
  have hW0 : Below w.heap.size w W0 := by rw [← eW]; exact ((Below.refl _ w).alloc (Nat.le_refl _) _).alloc (by simp) _
  refine ⟨D + 1, [{ target := .collected D, args := #[] }], W0, { target := .fn (.func gf) lb, args := #[.func (.yield (D + 1)) #[] #[]] }, W0, gf, #[.func (.yield (D + 1)) #[] #[]] ++ lb, W0, ?_, ?_, fun _ _ => trivial, ?_, fun _ => by omega, ?_⟩
  · subst hD; rw [← eW]; exact run_enterLoop_outer _ _ _ _ _
  · simp only [resolve, hg]
    simp [go_sem]
  · simp [invoke, go_sem, eg]
  -- the caller's word, and the two blocks of the loop
  let J : List α → World → Prop := fun pre W => I pre W ∧ W.heap[D + 1]? = some (loop .ready none) ∧ W.heap[D]? = some (.deferred (some []))
  let Jx : List α → World → Prop := fun pre W => Ix pre W ∧ W.heap[D + 1]? = some (loop .done (some .ret)) ∧ W.heap[D]? = some (.deferred (some []))
  have hJ : ∀ s A A', J s A → After A A' → J s A' := fun s A A' h e => ⟨hst s A A' h.1 e, held_after e h.2.1, held_after e h.2.2⟩
  have swapI : ∀ {pre W o} (o' : Obj), I pre W → W.heap[D + 1]? = some o → o.isCells = false → I pre (W.putObj (D + 1) o') := fun o' h1 h2 h3 => hI.putObj o' h1 (by omega) h2 h3
  have swapX : ∀ {pre W o} (o' : Obj), Ix pre W → W.heap[D + 1]? = some o → o.isCells = false → Ix pre (W.putObj (D + 1) o') := fun o' h1 h2 h3 => hIx.putObj o' h1 (by omega) h2 h3
  have side : ∀ {W : World} (o' : Obj), W.heap[D]? = some (.deferred (some [])) → (W.putObj (D + 1) o').heap[D]? = some (.deferred (some [])) := fun o' h => (World.putObj_heap_other (by omega)).trans h
  have kp : ∀ (W : World) (o' : Obj), Kp W (W.putObj (D + 1) o') := fun W o' => hKb W _ o' (by omega)
  have swapE : ∀ {x W o} (o' : Obj), El x W → W.heap[D + 1]? = some o → o.isCells = false → El x (W.putObj (D + 1) o') := fun o' h1 h2 h3 => hEl.putObj o' h1 (by omega) h2 h3
  have swapB : ∀ {x a W o} (o' : Obj), Bd x a W → W.heap[D + 1]? = some o → o.isCells = false → Bd x a (W.putObj (D + 1) o') := fun {x a W o} o' h1 h2 h3 => (hBd a).putObj (s := x) o' h1 (by omega) h2 h3
  have h1 : I [] W0 := by rw [← eW]; exact hI.alloc _ (hI.alloc _ h0)
  refine (hseq (D + 1) J Jx W0 hW0 hJ ?_ ⟨h1, bL, bD⟩).mono ?_
  · rintro pre x W ⟨hi, hl, hd⟩ hx hlen
    refine ⟨fn, _, assign, body, run_yield (P := P) (args := encs x) hl (hps x), roundIn_of_wpIn hfn (hassign _ x W _ (by have := held_lt hl; omega) fun a1 W1 hA hB => ⟨_, run_beginRound (held_after hA hl) rfl, ?_⟩)⟩
    have hl1 := held_after hA hl
    have hd1 := held_after hA hd
    have hi1 := hst _ _ _ hi hA
    have hx1 := hElA _ _ _ hx hA
    have hka := hKa _ _ _ hi hA
    have hl2 := putObj_at (o' := loop .busy none) hl1
    refine wpIn_mono (hbody _ pre x a1 _ (swapI _ hi1 hl1 rfl) (swapE _ hx1 hl1 rfl) (swapB _ hB hl1 rfl) hlen) ?_
    rintro e a3 V hp
    cases e with
    | normal =>
      obtain ⟨ko, kb, hi3⟩ := hp
      have hl3 := ko.same _ _ hl2 rfl
      exact ⟨_, _, run_endRound (P := P) none hl3, .inl ⟨rfl, ⟨swapI _ hi3 hl3 rfl, putObj_at hl3, side _ (ko.same _ _ (side _ hd1) rfl)⟩, hKt hka (hKt (hKt (kp _ _) kb) (kp _ _))⟩⟩
    | ret =>
      obtain ⟨ko, hi3⟩ := hp
      have hl3 := ko.same _ _ hl2 rfl
      exact ⟨_, _, run_endRound (P := P) (some .ret) hl3, .inr ⟨rfl, swapX _ hi3 hl3 rfl, putObj_at hl3, side _ (ko.same _ _ (side _ hd1) rfl)⟩⟩
    | exit _ => exact hp.elim
    | goto _ => exact hp.elim
    | panic _ => exact hp.elim
    | outgrown => exact hp.elim
  · rintro e V ⟨⟨v, rfl⟩, (⟨xs, hS, hi, hl, hd⟩ | ⟨pre, hSp, hi, hl, hd⟩)⟩
    · exact ⟨none, _, run_endLoop (P := P) hl (by simp), hdone D xs _ (by omega) hS (swapI _ hi hl rfl) (side _ hd)⟩
    · exact ⟨some .ret, _, run_endLoop (P := P) hl (by simp), wpIn_wide.2 (hstop D pre _ (by omega) hSp (swapX _ hi hl rfl) (side _ hd))⟩
/-- As wp_rangeFunc_as, where each round makes one block of cells. -/
theorem wp_rangeFunc_box {g : Operand} {ps : Array Tmp} {assign body : Code} {Q : Exit → Act → World → Prop} {a : Act} {w : World}
    {gf : Nat} {lb : Array Value} (hg : a.eval g = .func (.func gf) #[] lb) (eg : ∀ args w, (callFunc gf args).run P w = .ok (.enter gf args) w)
    {encs : α → Array Value} {El : α → World → Prop} {Kp : World → World → Prop} {S Sp : List α → Prop} {N : Nat} (hseq : TellsE P gf lb encs El Kp S Sp N w) (hKt : ∀ {A B C : World}, Kp A B → Kp B C → Kp A C) (hKb : ∀ (W : World) (l : Nat) (o' : Obj), w.heap.size ≤ l → Kp W (W.putObj l o')) (hEl : OwnFrom w.heap.size El) (hps : ∀ x, (encs x).size = ps.size)
    (I Ix : List α → World → Prop) (hI : OwnFrom w.heap.size I) (hIx : OwnFrom w.heap.size Ix) (hst : ∀ s A A', I s A → After A A' → I s A') (h0 : I [] w)
    (cs : α → Array Value) (E : TypeId) (A1 : Nat → α → Act) (hElA : ∀ x A A', El x A → After A A' → El x A') (hKa : ∀ pre W W', I pre W → After W W' → Kp W W')
    (hassign : ∀ (l : Nat) (x : α) (W : World) (K : Act → World → Prop) (p : Nat) (W' : World), p = W.heap.size → W' = W.alloc (.cells (cs x) E) → K (A1 p x) W' →
      assign.wpIn (Fence.wide.inRound l) 7 P (Exit.then K (fun _ _ _ => False)) { tmps := (ps.zip (encs x)).foldl (fun t (p, v) => t.setIfInBounds p v) a.tmps, defers := [] } W)
    (hbody : ∀ (l : Nat) (pre : List α) (x : α) (p : Nat) (W : World), I pre W → El x W → w.heap.size ≤ p → W.heap[p]? = some (.cells (cs x) E (0, 0)) → pre.length < N → body.wpIn (Fence.wide.inRound l) 7 P (roundEndsE Kp I Ix (pre ++ [x]) W) (A1 p x) W)
    (hdone : ∀ (D : Nat) (xs : List α) (W : World), w.heap.size ≤ D → S xs → I xs W → W.heap[D]? = some (.deferred (some [])) → Q .normal { a with defers := { target := .collected D, args := #[] } :: a.defers } W)
    (hstop : ∀ (D : Nat) (pre : List α) (W : World), w.heap.size ≤ D → Sp pre → Ix pre W → W.heap[D]? = some (.deferred (some [])) → Code.ret.wp P Q { a with defers := { target := .collected D, args := #[] } :: a.defers } W) :
    (Code.rangeFunc g ps assign body).wp P Q a w :=
  wp_rangeFunc_as hg eg hseq hKt hKb hEl hps I Ix hI hIx hst h0 (fun x a W => ∃ p, w.heap.size ≤ p ∧ W.heap[p]? = some (.cells (cs x) E (0, 0)) ∧ a = A1 p x)
    (fun a => by
      rintro x A B row ⟨p, h1, h2, h3⟩ hg hr
      exact ⟨p, h1, keeps_row h2 rfl hg hr, h3⟩) hElA hKa
    (fun l x W K hW hK => hassign l x W K _ _ rfl rfl (hK _ _ (alloc_new W (.cells (cs x) E)).2.1 ⟨_, hW, (alloc_new W (.cells (cs x) E)).2.2, rfl⟩))
    (fun l pre x a W hI hx hb hl => by
      obtain ⟨p, h1, h2, rfl⟩ := hb
      exact hbody l pre x p W hI hx h1 h2 hl) hdone hstop
end
theorem keeps_ownE {E : TypeId} {W W' : World} {base m : Nat} {v : Value} {n : Nat} {xs : List Value} {row : Option Nat} {B : Nat} (h : OwnE E W base m v n xs) (hg : W.grownBy W' row) (hr : ∀ r, row = some r → B ≤ r ∧ ∃ o : Obj, W.heap[r]? = some o ∧ o.isCells = false) : OwnE E W' base m v n xs :=
  h.kept (fun g e => by
    obtain ⟨_, hlt, cur, hc⟩ := h.lt g e
    refine hg.block g hlt (fun e2 => ?_)
    obtain ⟨_, o, ho, hn⟩ := hr g e2.symm
    rw [hc] at ho; cases ho; cases hn)
theorem ownE_cells {E : TypeId} {W : World} {base m : Nat} {v : Value} {n : Nat} {xs : List Value} (h : OwnE E W base m v n xs) {j : Nat} {o : Obj} (e : v.ownBlock = some j) (hj : W.heap[j]? = some o) : o.isCells = true := by
  obtain ⟨_, _, cur, hc⟩ := h.lt j e
  rw [hc] at hj; cases hj; rfl
theorem kpX_appE {E : TypeId} {q M m : Nat} {W w' : World} {v : Value} {n : Nat} {xs : List Value} (hO : OwnE E W M m v n xs) (hG : W.grownBy w' v.ownBlock) (hM : M ≤ W.heap.size) : KpX q M W w' :=
  ⟨hG.size, fun j hj _ => hG.block j (by omega) (fun e => by have := (hO.lt j e.symm).1; omega)⟩
theorem kpX_setJ {q M : Nat} (A : World) (j : Nat) (v : Value) : KpX q M A (A.setCell ⟨q, j, none⟩ v) := ⟨by simp, fun k _ hk => Below.heap_setCell A ⟨q, j, none⟩ v k hk⟩
theorem wpListIn_appE {P : Program} {fl nn : Nat} {w : World} {ops : Array Oper} {rest : List Oper} {o : Oper} {a : Act} {Q : Exit → Act → World → Prop} (hg : o.guard = none) (s x : Operand) (t : TypeId)
    (ho : o.op = .call { callee := .builtin .append, args := #[s, x], argTypes := #[t, t] })
    (base : Nat) (E : TypeId) (m bytes : Nat) (hT : CellsOf P t E m bytes) (hm : 0 < m)
    (v : Value) (n : Nat) (xs : List Value) (hs : a.eval s = v) (hown : OwnE E w base m v n xs)
    (ad : Option Addr) (cnt c : Nat) (ys : List (List Value)) (hx : a.eval x = .slice ad cnt c) (hys : Els w m ad cnt c ys) (h1 : ∀ y ∈ ys, ∀ u ∈ y, u.oneCell' = true)
    (h63 : n + cnt ≤ maxLen) (hbytes : (n + cnt) * bytes ≤ 140737488355328) (hbase : base ≤ w.heap.size)
    (h : ∀ a' cap' w', OwnE E w' base m (.slice a' (n + cnt) cap') (n + cnt) (xs ++ ys.flatten) → w.grownBy w' v.ownBlock → (∀ g, (Value.slice a' (n + cnt) cap').ownBlock = some g → v.ownBlock = some g ∨ w.heap.size ≤ g) → wpListIn (Fence.wide.inRound fl) nn P ops Q rest (a.put o.dst (.slice a' (n + cnt) cap')) w') : wpListIn (Fence.wide.inRound fl) nn P ops Q (o :: rest) a w :=
  wpListIn_plain hg fun K hK => wpIn_of_plain (by rw [ho]; intro c e; cases e) (wp_appE s x t ho base E m bytes hT hm v n xs hs hown ad cnt c ys hx hys h1 h63 hbytes hbase fun a' cap' w' h1 h2 h3 => hK _ _ (h a' cap' w' h1 h2 h3))
end Go.Proofs.YtpbekdkobmgndaaDoor
