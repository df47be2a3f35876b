/- A range over a function whose iterator keeps its state in a block of cells of its own: the caller's word stays where that block is written. -/
import Derived.Test.YtcodglhepkdjeaaRange
namespace Go.Proofs.Ytcodglhepkdjeaa
open Go.RowKit Go.Shelf
set_option linter.unusedVariables false

/-- What is said of a list and a world stays where only block B (and what is new) changes. -/
def Stays {β : Type} (B : Nat) (J : β → World → Prop) : Prop := ∀ s A A', J s A → Eff B A A' → J s A'
/-- The contract of such an iterator. -/
def Tells {α : Type} (P : Program) (gf : Nat) (lb : Array Value) (encs : α → Array Value) (B : Nat) (S Sp : List α → Prop) (N : Nat) (w0 : World) : Prop :=
  ∀ (l : Nat) (J Jx : List α → World → Prop) (W : World), Below w0.heap.size w0 W → Stays B J →
    (∀ pre x W1, J pre W1 → pre.length < N → YieldAt Fence.wide 7 P l (encs x) W1 fun e W' =>
      (e = .returned (.bool true) ∧ J (pre ++ [x]) W' ∧ KpAt B W1 W') ∨ (e = .returned (.bool false) ∧ Jx (pre ++ [x]) W')) →
    J [] W →
    CallsIn Fence.wide 8 P gf (#[.func (.yield l) #[] #[]] ++ lb) W fun e W' => (∃ v, e = .returned v) ∧ ((∃ xs, S xs ∧ J xs W') ∨ (∃ pre, Sp pre ∧ Jx pre W'))
/-- How a round may end: it goes on, or returns. -/
def roundEnds {α : Type} (B : Nat) (I Ix : List α → World → Prop) (xs : List α) (W : World) : Exit → Act → World → Prop
  | .normal, _, W' => KeepsOthers W W' ∧ KpAt B W W' ∧ I xs W'
  | .ret, _, W' => KeepsOthers W W' ∧ Ix xs W'
  | _, _, _ => False
/-- A block that lies beyond B and is not B stays. -/
theorem eff_block {B k : Nat} {A A' : World} {o : Obj} (h : Eff B A A') (hk : A.heap[k]? = some o) (hn : k ≠ B) : A'.heap[k]? = some o := (h.block k (held_lt hk) hn).trans hk
theorem putObj_at {W : World} {l : Nat} {o o' : Obj} (h : W.heap[l]? = some o) : (W.putObj l o').heap[l]? = some o' := World.putObj_heap_same (held_lt h)

section
variable {P : Program} {α : Type}
theorem wp_rangeFunc_cell {g : Operand} {ps : Array Tmp} {assign body : Code} {Q : Exit → Act → World → Prop} {a : Act} {w : World}
    {gf : Nat} {lb : Array Value} (hg : a.eval g = .func (.func gf) #[] lb) (eg : ∀ args w, (callFunc gf args).run P w = .ok (.enter gf args) w)
    {encs : α → Array Value} {B : Nat} {S Sp : List α → Prop} {N : Nat} (hseq : Tells P gf lb encs B S Sp N w) (hB : B < w.heap.size) (hps : ∀ x, (encs x).size = ps.size)
    (I Ix : List α → World → Prop) (hI : OwnFrom w.heap.size I) (hIx : OwnFrom w.heap.size Ix) (hst : Stays B I) (h0 : I [] w) (a₁ : α → Act)
    (hassign : ∀ (l : Nat) (x : α) (W : World) (K : Act → World → Prop), K (a₁ x) W →
      assign.wpIn (Fence.wide.inRound l) 7 P (Exit.then K (fun _ _ _ => False)) { tmps := (ps.zip (encs x)).foldl (fun t (p, v) => t.setIfInBounds p v) a.tmps, defers := [] } W)
    (hbody : ∀ (l : Nat) (pre : List α) (x : α) (W : World), I pre W → pre.length < N → body.wpIn (Fence.wide.inRound l) 7 P (roundEnds B I Ix (pre ++ [x]) W) (a₁ x) W)
    (hdone : ∀ (D : Nat) (xs : List α) (W : World), w.heap.size ≤ D → S xs → I xs W → W.heap[D]? = some (.deferred (some [])) → Q .normal { a with defers := { target := .collected D, args := #[] } :: a.defers } W)
    (hstop : ∀ (D : Nat) (pre : List α) (W : World), w.heap.size ≤ D → Sp pre → Ix pre W → W.heap[D]? = some (.deferred (some [])) → Code.ret.wp P Q { a with defers := { target := .collected D, args := #[] } :: a.defers } W) :
    (Code.rangeFunc g ps assign body).wp P Q a w := by
  refine wpIn_wide.1 (wpIn_rangeFunc (F := Fence.wide) (n := 9) fun fn hfn => ?_)
  have hD0 := World.alloc_heap_new w (.deferred (some []))
  obtain ⟨D, hD⟩ : ∃ D, D = w.heap.size := ⟨_, rfl⟩
  let loop : LoopState → Option Code → Obj := fun st pe => .loop { state := st, pending := pe, fn, tmps := a.tmps, params := ps, assign, body, defers := D }
  obtain ⟨W0, eW⟩ : ∃ W0, (w.alloc (.deferred (some []))).alloc (loop .ready none) = W0 := ⟨_, rfl⟩
  have bL : W0.heap[D + 1]? = some (loop .ready none) := by
    have h := World.alloc_heap_new (w.alloc (.deferred (some []))) (loop .ready none)
    rw [World.size_alloc, eW, ← hD] at h; exact h
  have bD : W0.heap[D]? = some (.deferred (some [])) := by
    rw [← eW, hD]; exact (Below.heap_alloc _ _ _ (by simp)).trans hD0
  have hW0 : Below w.heap.size w W0 := by rw [← eW]; exact ((Below.refl _ w).alloc (Nat.le_refl _) _).alloc (by simp) _
  refine ⟨D + 1, [{ target := .collected D, args := #[] }], W0, { target := .fn (.func gf) lb, args := #[.func (.yield (D + 1)) #[] #[]] }, W0, gf, #[.func (.yield (D + 1)) #[] #[]] ++ lb, W0, ?_, ?_, fun _ _ => trivial, ?_, fun _ => by omega, ?_⟩
  · subst hD; rw [← eW]; exact run_enterLoop_outer _ _ _ _ _
  · simp only [resolve, hg]
    simp [go_sem]
  · simp [invoke, go_sem, eg]
  -- the caller's word, and the two blocks of the loop
  let J : List α → World → Prop := fun pre W => I pre W ∧ W.heap[D + 1]? = some (loop .ready none) ∧ W.heap[D]? = some (.deferred (some []))
  let Jx : List α → World → Prop := fun pre W => Ix pre W ∧ W.heap[D + 1]? = some (loop .done (some .ret)) ∧ W.heap[D]? = some (.deferred (some []))
  have hJ : Stays B J := fun s A A' h e => ⟨hst s A A' h.1 e, eff_block e h.2.1 (by omega), eff_block e h.2.2 (by omega)⟩
  have swapI : ∀ {pre W o} (o' : Obj), I pre W → W.heap[D + 1]? = some o → o.isCells = false → I pre (W.putObj (D + 1) o') := fun o' h1 h2 h3 => hI.putObj o' h1 (by omega) h2 h3
  have swapX : ∀ {pre W o} (o' : Obj), Ix pre W → W.heap[D + 1]? = some o → o.isCells = false → Ix pre (W.putObj (D + 1) o') := fun o' h1 h2 h3 => hIx.putObj o' h1 (by omega) h2 h3
  have side : ∀ {W : World} (o' : Obj), W.heap[D]? = some (.deferred (some [])) → (W.putObj (D + 1) o').heap[D]? = some (.deferred (some [])) := fun o' h => (World.putObj_heap_other (by omega)).trans h
  have kp : ∀ (W : World) (o' : Obj), KpAt B W (W.putObj (D + 1) o') := fun W o' => ⟨by simp, World.putObj_heap_other (by omega)⟩
  have h1 : I [] W0 := by rw [← eW]; exact hI.alloc _ (hI.alloc _ h0)
  refine (hseq (D + 1) J Jx W0 hW0 hJ ?_ ⟨h1, bL, bD⟩).mono ?_
  · rintro pre x W ⟨hi, hl, hd⟩ hlen
    refine ⟨fn, _, assign, body, run_yield (P := P) (args := encs x) hl (hps x), roundIn_of_wpIn hfn (hassign _ x W _ ⟨_, run_beginRound hl rfl, ?_⟩)⟩
    have hl2 := putObj_at (o' := loop .busy none) hl
    refine wpIn_mono (hbody _ pre x _ (swapI _ hi hl rfl) hlen) ?_
    rintro e a3 V hp
    cases e with
    | normal =>
      obtain ⟨ko, kb, hi3⟩ := hp
      have hl3 := ko.same _ _ hl2 rfl
      exact ⟨_, _, run_endRound (P := P) none hl3, .inl ⟨rfl, ⟨swapI _ hi3 hl3 rfl, putObj_at hl3, side _ (ko.same _ _ (side _ hd) rfl)⟩, kpAt_t (kpAt_t (kp _ _) kb) (kp _ _)⟩⟩
    | ret =>
      obtain ⟨ko, hi3⟩ := hp
      have hl3 := ko.same _ _ hl2 rfl
      exact ⟨_, _, run_endRound (P := P) (some .ret) hl3, .inr ⟨rfl, swapX _ hi3 hl3 rfl, putObj_at hl3, side _ (ko.same _ _ (side _ hd) rfl)⟩⟩
    | exit _ => exact hp.elim
    | goto _ => exact hp.elim
    | panic _ => exact hp.elim
    | outgrown => exact hp.elim
  · rintro e V ⟨⟨v, rfl⟩, (⟨xs, hS, hi, hl, hd⟩ | ⟨pre, hSp, hi, hl, hd⟩)⟩
    · exact ⟨none, _, run_endLoop (P := P) hl (by simp), hdone D xs _ (by omega) hS (swapI _ hi hl rfl) (side _ hd)⟩
    · exact ⟨some .ret, _, run_endLoop (P := P) hl (by simp), wpIn_wide.2 (hstop D pre _ (by omega) hSp (swapX _ hi hl rfl) (side _ hd))⟩
end
end Go.Proofs.Ytcodglhepkdjeaa
