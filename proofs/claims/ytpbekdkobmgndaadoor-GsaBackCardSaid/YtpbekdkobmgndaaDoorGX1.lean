/- Several texts in one: Range5, Range6, Gsa3, Gsa. -/
import Derived.Test.YtpbekdkobmgndaaDoorKP
import Derived.Laws.Tables
import Derived.Deep.DeepCutAuto
import Derived.Test.YtpbekdkobmgndaaDoorMsg

/- What a loop's body keeps for an iterator: the blocks below L and the block B. -/
namespace Go.Proofs.YtpbekdkobmgndaaDoor
open Go.RowKit Go.Shelf
set_option linter.unusedVariables false

def KpW (L B : Nat) (A A' : World) : Prop := A.heap.size ≤ A'.heap.size ∧ ∀ k, (k < L ∨ k = B) → A'.heap[k]? = A.heap[k]?
theorem kpW_t {L B : Nat} {A A1 A2 : World} (h : KpW L B A A1) (k : KpW L B A1 A2) : KpW L B A A2 := ⟨Nat.le_trans h.1 k.1, fun j h1 => (k.2 j h1).trans (h.2 j h1)⟩
theorem kpW_b {L B M : Nat} (hL : L ≤ M) (hB : B < M) (W : World) (l : Nat) (o' : Obj) (h : M ≤ l) : KpW L B W (W.putObj l o') := ⟨by simp, fun k hk => World.putObj_heap_other (by omega)⟩
theorem kpW_after {L B : Nat} {A A' : World} (h : After A A') (hL : L ≤ A.heap.size) (hB : B < A.heap.size) : KpW L B A A' := ⟨h.size, fun k hk => h.block k (by omega)⟩
theorem kpW_held {L B : Nat} {A A' : World} {o : Obj} (h : KpW L B A A') (hg : A.heap[B]? = some o) : A'.heap[B]? = some o := (h.2 B (.inr rfl)).trans hg
theorem sl_kpW {L B : Nat} {k : IntKind} {w w' : World} {a : Option Addr} {len cap : Nat} {zs : List Int} (h : Sl k w a len cap zs) (hk : KpW L B w w') (hb : ∀ b off, a = some ⟨b, off, none⟩ → 0 < len → b < L) : Sl k w' a len cap zs :=
  ⟨h.1, h.2.1, h.2.2.1, h.2.2.2.1, fun i hi => by
    obtain ⟨b, off, e, hc⟩ := h.2.2.2.2 i hi
    have h2 := hb b off e (by have := h.1; omega)
    exact ⟨b, off, e, (World.cell?_of_block (w := w) (hk.2 b (.inl h2))).trans hc⟩⟩
end Go.Proofs.YtpbekdkobmgndaaDoor

/- A range over a function whose iterator writes a block B of old cells (an eye): what it has done is told with the list (S xs W); the body goes on always and keeps for it any relation Kp. -/
namespace Go.Proofs.YtpbekdkobmgndaaDoor
open Go.RowKit Go.Shelf
set_option linter.unusedVariables false

/-- The contract of such an iterator. -/
def TellsB {α : Type} (P : Program) (gf : Nat) (lb : Array Value) (encs : α → Array Value) (El : α → Prop) (B : Nat) (Kp : World → World → Prop) (S : List α → World → Prop) (N : Nat) (w0 : World) : Prop :=
  ∀ (l : Nat) (J : List α → World → Prop) (W : World), Below w0.heap.size w0 W → Stays B J →
    (∀ pre x W1, J pre W1 → El x → pre.length < N → YieldAt Fence.wide 7 P l (encs x) W1 fun e W' => e = .returned (.bool true) ∧ J (pre ++ [x]) W' ∧ Kp W1 W') →
    J [] W →
    CallsIn Fence.wide 8 P gf (#[.func (.yield l) #[] #[]] ++ lb) W fun e W' => (∃ v, e = .returned v) ∧ ∃ xs, S xs W' ∧ J xs W'
/-- How a round ends: it goes on. -/
def roundGoes {α : Type} (Kp : World → World → Prop) (I : List α → World → Prop) (xs : List α) (W : World) : Exit → Act → World → Prop
  | .normal, _, W' => KeepsOthers W W' ∧ Kp W W' ∧ I xs W'
  | _, _, _ => False
section
variable {P : Program} {α : Type}
theorem wp_rangeFunc_eye {g : Operand} {ps : Array Tmp} {assign body : Code} {Q : Exit → Act → World → Prop} {a : Act} {w : World}
    {gf : Nat} {lb : Array Value} (hg : a.eval g = .func (.func gf) #[] lb) (eg : ∀ args w, (callFunc gf args).run P w = .ok (.enter gf args) w)
    {encs : α → Array Value} {El : α → Prop} {B : Nat} {Kp : World → World → Prop} {S : List α → World → Prop} {N : Nat} (hseq : TellsB P gf lb encs El B Kp S N w) (hKt : ∀ {A B C : World}, Kp A B → Kp B C → Kp A C) (hKb : ∀ (W : World) (l : Nat) (o o' : Obj), w.heap.size ≤ l → W.heap[l]? = some o → o.isCells = false → Kp W (W.putObj l o')) (hSo : OwnFrom w.heap.size S) (hB : B < w.heap.size) (hps : ∀ x, (encs x).size = ps.size)
    (I : List α → World → Prop) (hI : OwnFrom w.heap.size I) (hst : Stays B I) (h0 : I [] w) (a₁ : α → Act)
    (hassign : ∀ (l : Nat) (x : α) (W : World) (K : Act → World → Prop), K (a₁ x) W →
      assign.wpIn (Fence.wide.inRound l) 7 P (Exit.then K (fun _ _ _ => False)) { tmps := (ps.zip (encs x)).foldl (fun t (p, v) => t.setIfInBounds p v) a.tmps, defers := [] } W)
    (hbody : ∀ (l : Nat) (pre : List α) (x : α) (W : World), I pre W → El x → pre.length < N → body.wpIn (Fence.wide.inRound l) 7 P (roundGoes Kp I (pre ++ [x]) W) (a₁ x) W)
    (hdone : ∀ (D : Nat) (xs : List α) (W : World), w.heap.size ≤ D → S xs W → I xs W → W.heap[D]? = some (.deferred (some [])) → Q .normal { a with defers := { target := .collected D, args := #[] } :: a.defers } W) :
    (Code.rangeFunc g ps assign body).wp P Q a w := by
  refine wpIn_wide.1 (wpIn_rangeFunc (F := Fence.wide) (n := 9) fun fn hfn => ?_)
  have hD0 := World.alloc_heap_new w (.deferred (some []))
  obtain ⟨D, hD⟩ : ∃ D, D = w.heap.size := ⟨_, rfl⟩
  let loop : LoopState → Option Code → Obj := fun st pe => .loop { state := st, pending := pe, fn, tmps := a.tmps, params := ps, assign, body, defers := D }
  obtain ⟨W0, eW⟩ : ∃ W0, (w.alloc (.deferred (some []))).alloc (loop .ready none) = W0 := ⟨_, rfl⟩
  have bL : W0.heap[D + 1]? = some (loop .ready none) := by
    have h := World.alloc_heap_new (w.alloc (.deferred (some []))) (loop .ready none)
    rw [World.size_alloc, eW, ← hD] at h; exact h
  have bD : W0.heap[D]? = some (.deferred (some [])) := by
    rw [← eW, hD]; exact (Below.heap_alloc _ _ _ (by simp)).trans hD0
  have hW0 : Below w.heap.size w W0 := by rw [← eW]; exact ((Below.refl _ w).alloc (Nat.le_refl _) _).alloc (by simp) _
  refine ⟨D + 1, [{ target := .collected D, args := #[] }], W0, { target := .fn (.func gf) lb, args := #[.func (.yield (D + 1)) #[] #[]] }, W0, gf, #[.func (.yield (D + 1)) #[] #[]] ++ lb, W0, ?_, ?_, fun _ _ => trivial, ?_, fun _ => by omega, ?_⟩
  · subst hD; rw [← eW]; exact run_enterLoop_outer _ _ _ _ _
  · simp only [resolve, hg]
    simp [go_sem]
  · simp [invoke, go_sem, eg]
  -- the caller's word, and the two blocks of the loop
  let J : List α → World → Prop := fun pre W => I pre W ∧ W.heap[D + 1]? = some (loop .ready none) ∧ W.heap[D]? = some (.deferred (some []))
  have hJ : Stays B J := fun s A A' h e => ⟨hst s A A' h.1 e, eff_block e h.2.1 (by omega), eff_block e h.2.2 (by omega)⟩
  have swapI : ∀ {pre W o} (o' : Obj), I pre W → W.heap[D + 1]? = some o → o.isCells = false → I pre (W.putObj (D + 1) o') := fun o' h1 h2 h3 => hI.putObj o' h1 (by omega) h2 h3
  have swapS : ∀ {pre W o} (o' : Obj), S pre W → W.heap[D + 1]? = some o → o.isCells = false → S pre (W.putObj (D + 1) o') := fun o' h1 h2 h3 => hSo.putObj o' h1 (by omega) h2 h3
  have side : ∀ {W : World} (o' : Obj), W.heap[D]? = some (.deferred (some [])) → (W.putObj (D + 1) o').heap[D]? = some (.deferred (some [])) := fun o' h => (World.putObj_heap_other (by omega)).trans h
  have kp : ∀ {W : World} {o : Obj} (o' : Obj), W.heap[D + 1]? = some o → o.isCells = false → Kp W (W.putObj (D + 1) o') := fun o' h1 h2 => hKb _ _ _ o' (by omega) h1 h2
  have h1 : I [] W0 := by rw [← eW]; exact hI.alloc _ (hI.alloc _ h0)
  refine (hseq (D + 1) J W0 hW0 hJ ?_ ⟨h1, bL, bD⟩).mono ?_
  · rintro pre x W ⟨hi, hl, hd⟩ hx hlen
    refine ⟨fn, _, assign, body, run_yield (P := P) (args := encs x) hl (hps x), roundIn_of_wpIn hfn (hassign _ x W _ ⟨_, run_beginRound hl rfl, ?_⟩)⟩
    have hl2 := putObj_at (o' := loop .busy none) hl
    refine wpIn_mono (hbody _ pre x _ (swapI _ hi hl rfl) hx hlen) ?_
    rintro e a3 V hp
    cases e with
    | normal =>
      obtain ⟨ko, kb, hi3⟩ := hp
      have hl3 := ko.same _ _ hl2 rfl
      exact ⟨_, _, run_endRound (P := P) none hl3, rfl, ⟨swapI _ hi3 hl3 rfl, putObj_at hl3, side _ (ko.same _ _ (side _ hd) rfl)⟩, hKt (hKt (kp _ hl rfl) kb) (kp _ hl3 rfl)⟩
    | ret => exact hp.elim
    | exit _ => exact hp.elim
    | goto _ => exact hp.elim
    | panic _ => exact hp.elim
    | outgrown => exact hp.elim
  · rintro e V ⟨⟨v, rfl⟩, xs, hS, hi, hl, hd⟩
    exact ⟨none, _, run_endLoop (P := P) hl (by simp), hdone D xs _ (by omega) (swapS _ hS hl rfl) (swapI _ hi hl rfl) (side _ hd)⟩
end
end Go.Proofs.YtpbekdkobmgndaaDoor

/- Package gsa: places and its iterator. -/
namespace Go.Proofs.YtpbekdkobmgndaaDoor
open Go.ChangeShapes Go.WideShapes Go.ChangeAt Go.RowKit
set_option linter.unusedVariables false
set_option linter.unusedSimpArgs false

/-- What stands in the places of ids. -/
def plP (zs : List Int) (k : Nat) : Bool × Int := (decide (k < zs.length), zs.getD k 0)
def plN (zs : List Int) : List (Bool × Int) := (List.range 12).map (plP zs)
theorem plN_len (zs : List Int) : (plN zs).length = 12 := by simp [plN]
theorem plN_at (zs : List Int) {k : Nat} (h : k < 12) : (plN zs)[k]? = some (plP zs k) := by
  unfold plN; rw [List.getElem?_map, List.getElem?_range h]; rfl
theorem plN_take (zs : List Int) {k : Nat} (h : k < 12) : (plN zs).take (k + 1) = (plN zs).take k ++ [plP zs k] := by
  rw [List.take_add_one, plN_at zs h]; rfl
theorem alloc_set2 (w : World) (x0 x1 v0 v1 : Value) (T : TypeId) : ((w.alloc (.cells #[x0, x1] T)).setCell ⟨w.heap.size, 0, none⟩ v0).setCell ⟨w.heap.size, 1, none⟩ v1 = w.alloc (.cells #[v0, v1] T) := by
  rw [World.setCell_alloc_new, World.setCell_alloc_new]
  rfl
def El27 (x : Bool × Int) (_ : World) : Prop := -9223372036854775808 ≤ x.2 ∧ x.2 ≤ 9223372036854775807
def encN (x : Bool × Int) : Array Value := #[.agg #[.bool x.1, .int .i64 x.2]]
theorem places_any (a : Option Addr) (len cap : Nat) (w : World) : Calls Tryd.prog 14 #[.slice a len cap] w fun e w' => e = .returned (.func (.func 31) #[] #[.pointer (some ⟨w.heap.size, 0, none⟩)]) ∧ w' = w.alloc (.cells #[.slice a len cap] 22) := by
  have hmf : ∀ (fn : Fn) (first cap : Array Value) (w : World), (Instr.makeFunc fn first cap).run Tryd.prog w = .ok (.func fn first cap) w := fun _ _ _ _ => rfl
  go_enter Tryd.func14, Tryd.ntmps14
  go_wp2_with fail
  go_ret
  exact ⟨rfl, rfl⟩
attribute [local go_sem] Oper.semAt_some
set_option maxRecDepth 100000 in
set_option maxHeartbeats 16000000 in
theorem places_tells (a : Option Addr) (len cap : Nat) (zs : List Int) (L B : Nat) (w0 : World) (hL : L ≤ w0.heap.size) (hB : B < w0.heap.size) (hc : w0.heap[B]? = some (.cells #[.slice a len cap] 22 (0, 0))) (hS : Sl .i64 w0 a len cap zs) (hSb : ∀ b off, a = some ⟨b, off, none⟩ → 0 < len → b < L) (hzb : ∀ x ∈ zs, -9223372036854775808 ≤ x ∧ x ≤ 9223372036854775807) :
    TellsE Tryd.prog 31 #[.pointer (some ⟨B, 0, none⟩)] encN El27 (KpW L B) (fun xs => xs = plN zs) (fun _ => True) 12 w0 := by
  intro ly J Jx W hW hst hY h0
  have hc0 := (hW.block B hB).trans hc
  refine callsIn_of_wp Tryd.func31 rfl trivial ?_ rfl
  simp only [Tryd.ntmps31, List.size_toArray, List.length_cons, List.length_nil, Nat.reduceAdd, Nat.reduceSub, Array.replicate_succ, Array.replicate_zero, List.push_toArray, List.append_toArray, List.nil_append, List.cons_append]
  have hS0 := hS.below hW
  have hWM := hW.size
  have hcc := hS.2.1
  have hzl := hid hS.1
  have hMB : B < W.heap.size := by omega
  have hML : L ≤ W.heap.size := by omega
  have b0 := held_cell hc0 0 _ rfl
  clear hS hc hW hL hB hWM
  replace hst := hid hst
  replace hY := hid hY
  replace hSb := hid hSb
  replace hzb := hid hzb
  replace hS0 := hid hS0
  replace hc0 := hid hc0
  gi_wp2
  gi_loopw [5] (fun ix wr => ∃ k : Nat, ix = .int .i64 k ∧ k ≤ 12 ∧ J ((plN zs).take k) wr ∧ Sl .i64 wr a len cap zs ∧ wr.heap[B]? = some (.cells #[.slice a len cap] 22 (0, 0)) ∧ W.heap.size ≤ wr.heap.size) (fun ix _ => 12 - (intOf ix).toNat)
  case atStart => exact ⟨0, rfl, by omega, by simpa using h0, hS0.out, hc0.out, Nat.le_refl _⟩
  case round =>
    clear h0 hS0 hc0 b0
    obtain ⟨k, rfl, hk, hJ, hS1, rb, hMr⟩ := hrel
    have bx := held_cell rb 0 _ rfl
    by_cases hlt : (k : Int) < 12
    case neg =>
      obtain rfl : k = 12 := by omega
      rw [show (plN zs).take 12 = plN zs from List.take_of_length_le (by rw [plN_len]; exact Nat.le_refl _)] at hJ
      replace hS1 := hid hS1
      replace hMr := hid hMr
      clear hk
      gi_wp2
      go_end0
      exact ⟨⟨_, rfl⟩, .inl hJ⟩
    have wk : IntKind.i64.wrap ((k : Int) + 1) = (k : Int) + 1 := by rw [IntKind.wrap_i64]; omega
    have hk1 := hid (show k + 1 ≤ 12 by omega)
    have htk := hid (plN_take zs (show k < 12 by omega))
    have hlen := hid (show ((plN zs).take k).length < 12 by rw [List.length_take, plN_len]; omega)
    by_cases hlz : (k : Int) < len
    case neg =>
      have hpl := hid (show plP zs k = (false, 0) from by unfold plP; rw [decide_eq_false (by rw [hzl.out]; omega), List.getD_eq_getElem?_getD, List.getElem?_eq_none (by rw [hzl.out]; omega)]; rfl)
      rw [hpl.out] at htk
      skip
      have nw := alloc_new wr (.cells #[.bool false, .int .i64 0] 24)
      have rb2 := nw.2.2
      have hA3 := nw.2.1
      have hJ3 := hid (hst.out _ _ _ hJ hA3)
      have hS3 := hid (hS1.below hA3)
      have rb3 := hid (held_after hA3 rb)
      have hM3 := hid (Nat.le_trans hMr hA3.size)
      have x0 := held_cell rb2 0 _ rfl
      have x1 := held_cell rb2 1 _ rfl
      have f0 := held_free rb2 0
      have bx3 := held_cell rb3.out 0 _ rfl
      obtain ⟨W3, hW3⟩ : ∃ X, wr.alloc (.cells #[.bool false, .int .i64 0] 24) = X := ⟨_, rfl⟩
      obtain ⟨pb, hpb⟩ : ∃ X, wr.heap.size = X := ⟨_, rfl⟩
      have hz0 := alloc_set2 wr (.bool false) (.int .i64 0) (.bool false) (.int .i64 0) 24
      rw [hW3, hpb] at hz0
      rw [hW3] at rb2 hA3 hJ3 hS3 rb3 hM3 x0 x1 f0 bx3
      rw [hpb] at rb2 x0 x1 f0
      have s0 := held_set rb2 0 (.bool false)
      have s1 := held_cell s0 1 _ rfl
      have s2 := held_free s0 1
      clear nw s0 hA3 hJ rb bx rb2 hS1 hMr
      obtain ⟨fn, tmps, assign, body, hy, hR⟩ := hY.out _ (false, 0) W3 hJ3.out ⟨by decide, by decide⟩ hlen.out
      replace hy : (Instr.yield ly #[.agg #[.bool false, .int .i64 0]]).run Tryd.prog W3 = .ok (.round ly fn tmps assign body) W3 := hy
      gi_wp2
      refine hR.mono ?_
      rintro e W4 (⟨rfl, hJ4, hk4b⟩ | ⟨rfl, hJx4⟩)
      · have hS4 := hid (sl_kpW hS3.out hk4b hSb.out)
        have rb4 := hid (kpW_held hk4b rb3.out)
        have hM4 := hid (Nat.le_trans hM3.out hk4b.1)
        clear hk4b
        gi_wp2
        go_roundw
        case rel => exact ⟨k + 1, by simp, hk1.out, by rw [htk.out]; exact hJ4, hS4.out, rb4.out, hM4.out⟩
        case measure => simp [intOf]; omega
      · gi_wp2
        refine bodyPost_ret (results_none rfl _ _ _) rfl ?_
        exact ⟨⟨_, rfl⟩, .inr ⟨_, trivial, hJx4⟩⟩
    have hpl := hid (show plP zs k = (true, zs.getD k 0) from by unfold plP; rw [decide_eq_true (by rw [hzl.out]; omega)])
    rw [hpl.out] at htk
    obtain ⟨b, off, ha, hcn⟩ := hS1.2.2.2.2 k (by rw [hzl.out]; omega)
    obtain ⟨z, hz⟩ : ∃ z, zs.getD k 0 = z := ⟨_, rfl⟩
    rw [hz] at htk hcn
    have hzz := hid (hzb.out z (by rw [← hz, List.getD_eq_getElem?_getD, List.getElem?_eq_getElem (show k < zs.length by rw [hzl.out]; omega)]; exact List.getElem_mem _))
    have nw := alloc_new wr (.cells #[.bool true, .int .i64 z] 24)
    have rb2 := nw.2.2
    have hA3 := nw.2.1
    have hJ3 := hid (hst.out _ _ _ hJ hA3)
    have hS3 := hid (hS1.below hA3)
    have rb3 := hid (held_after hA3 rb)
    have hM3 := hid (Nat.le_trans hMr hA3.size)
    have x0 := held_cell rb2 0 _ rfl
    have x1 := held_cell rb2 1 _ rfl
    have f0 := held_free rb2 0
    have bx3 := held_cell rb3.out 0 _ rfl
    obtain ⟨W4, hW4⟩ : ∃ X, wr.alloc (.cells #[.bool false, .int .i64 0] 24) = X := ⟨_, rfl⟩
    obtain ⟨W3, hW3⟩ : ∃ X, wr.alloc (.cells #[.bool true, .int .i64 z] 24) = X := ⟨_, rfl⟩
    obtain ⟨pb, hpb⟩ : ∃ X, wr.heap.size = X := ⟨_, rfl⟩
    have nz := alloc_new wr (.cells #[.bool false, .int .i64 0] 24)
    have hz0 := alloc_set2 wr (.bool false) (.int .i64 0) (.bool false) (.int .i64 0) 24
    have hz1 := alloc_set2 wr (.bool false) (.int .i64 0) (.bool true) (.int .i64 z) 24
    rw [hW4, hpb] at hz0 hz1
    rw [hW3] at hz1 rb2 hA3 hJ3 hS3 rb3 hM3 x0 x1 f0 bx3
    rw [hpb] at rb2 x0 x1 f0
    rw [hW4, hpb] at nz
    have f4 := held_free nz.2.2 0
    have m4 := held_set nz.2.2 0 (.bool false)
    have m5 := held_set nz.2.2 0 (.bool true)
    have s1 := held_cell m4 1 _ rfl
    have s2 := held_free m4 1
    have s3 := held_cell m5 1 _ rfl
    have s4 := held_free m5 1
    have y0 := held_cell nz.2.2 0 _ rfl
    clear m4 m5
    have bx4 := held_cell (held_after nz.2.1 rb) 0 _ rfl
    have g4 := (World.cell?_of_block (nz.2.1.block _ (World.block_lt_of_cell? _ _ hcn))).trans hcn
    clear nw nz hA3 hJ rb bx rb2 hS1 hMr hcn
    subst ha
    obtain ⟨fn, tmps, assign, body, hy, hR⟩ := hY.out _ (true, z) W3 hJ3.out hzz.out hlen.out
    replace hy : (Instr.yield ly #[.agg #[.bool true, .int .i64 z]]).run Tryd.prog W3 = .ok (.round ly fn tmps assign body) W3 := hy
    gi_wp2
    refine hR.mono ?_
    rintro e W4 (⟨rfl, hJ4, hk4b⟩ | ⟨rfl, hJx4⟩)
    · have hS4 := hid (sl_kpW hS3.out hk4b hSb.out)
      have rb4 := hid (kpW_held hk4b rb3.out)
      have hM4 := hid (Nat.le_trans hM3.out hk4b.1)
      clear hk4b
      gi_wp2
      go_roundw
      case rel => exact ⟨k + 1, by simp, hk1.out, by rw [htk.out]; exact hJ4, hS4.out, rb4.out, hM4.out⟩
      case measure => simp [intOf]; omega
    · gi_wp2
      refine bodyPost_ret (results_none rfl _ _ _) rfl ?_
      exact ⟨⟨_, rfl⟩, .inr ⟨_, trivial, hJx4⟩⟩

end Go.Proofs.YtpbekdkobmgndaaDoor

/- Package gsa: the small functions. -/
namespace Go.Proofs.YtpbekdkobmgndaaDoor
open Go.ChangeShapes Go.WideShapes Go.ChangeAt Go.RowKit
set_option linter.unusedVariables false
set_option linter.unusedSimpArgs false

/-- How one looks for satellites, as a text. -/
def mdS (b : Bool) : ByteArray := if b = true then ⟨#[65]⟩ else ⟨#[77]⟩
def rfB (n : Int) : Bool := decide (1 ≤ n ∧ n ≤ 3)
/-- The digit that a text is, from 1 to 3, and why it is none. -/
def fxS (s : ByteArray) : Int × Int := if (dgS s 1 3).2 = 0 then dgS s 1 3 else (0, (dgS s 1 3).2)
set_option maxRecDepth 100000 in
set_option maxHeartbeats 2000000 in
theorem p27idCol_any (w : World) : Calls Tryd.prog 16 #[] w fun r w' => r = .returned (.agg #[.int .i64 1, .int .i64 3, .int .i64 0, .int .i64 1, .int .i64 255]) ∧ After w w' := by
  go_enter Tryd.func16, Tryd.ntmps16
  go_upto_region 0 with (fail)
  apply wp_region_seg0 (w := w) (S := [.al 1000]) (E := [.al ((fun p => .pointer (some ⟨p, 0, none⟩)), _) 1000]) rfl (by kernel_rfl) rfl rfl
  intro th hge hne
  refine Seg.step _ rfl ⟨by rfl, fun U hU => ?_⟩ ?_
  · go_simp; exact vp_alloc rfl rfl rfl
  refine Seg.sa ?_
  refine Seg.stop (fun U1 hU hk => ?_)
  have nb0 := hge 0 _ _ rfl
  have rb0 := (hk 0 _ _ rfl trivial).1.2 (by simp)
  clear hk hge hne
  generalize th (0 + 0) = p0_0 at *
  dsimp only at rb0
  have r_p0_0 := rb0
  clear rb0
  have n_p0_0 := nb0
  clear nb0
  have sz1 := hU.size
  have hB : Below w.heap.size w U1 := hU
  clear hU
  have g0 := held_free r_p0_0 0
  have g1 := held_free r_p0_0 1
  have g2 := held_free r_p0_0 2
  have g3 := held_free r_p0_0 3
  have g4 := held_free r_p0_0 4
  have z0 := held_cell r_p0_0 0 _ rfl
  have z1 := held_cell r_p0_0 1 _ rfl
  have z2 := held_cell r_p0_0 2 _ rfl
  have z3 := held_cell r_p0_0 3 _ rfl
  have z4 := held_cell r_p0_0 4 _ rfl
  obtain ⟨W9, hW9, ya, yO⟩ := st5 r_p0_0 (.int .i64 1) (.int .i64 3) (.int .i64 0) (.int .i64 1) (.int .i64 255)
  have hB9 := hid (belowS hB yO (by omega))
  have ez0 := held_cell ya 0 _ rfl
  have ez1 := held_cell ya 1 _ rfl
  have ez2 := held_cell ya 2 _ rfl
  have ez3 := held_cell ya 3 _ rfl
  have ez4 := held_cell ya 4 _ rfl
  clear ya yO r_p0_0 hB
  go_wp2_with fail
  refine bodyPost_ret (v := .agg #[.int .i64 1, .int .i64 3, .int .i64 0, .int .i64 1, .int .i64 255]) (by simp [results, Tryd.results16, go_sem, ez0, ez1, ez2, ez3, ez4]) rfl ⟨rfl, hB9.out⟩
set_option maxRecDepth 100000 in
set_option maxHeartbeats 2000000 in
theorem p27dopCol_any (w : World) : Calls Tryd.prog 17 #[] w fun r w' => r = .returned (.agg #[.int .i64 1, .int .i64 3, .int .i64 2, .int .i64 0, .int .i64 99999]) ∧ After w w' := by
  go_enter Tryd.func17, Tryd.ntmps17
  go_upto_region 0 with (fail)
  apply wp_region_seg0 (w := w) (S := [.al 1000]) (E := [.al ((fun p => .pointer (some ⟨p, 0, none⟩)), _) 1000]) rfl (by kernel_rfl) rfl rfl
  intro th hge hne
  refine Seg.step _ rfl ⟨by rfl, fun U hU => ?_⟩ ?_
  · go_simp; exact vp_alloc rfl rfl rfl
  refine Seg.sa ?_
  refine Seg.stop (fun U1 hU hk => ?_)
  have nb0 := hge 0 _ _ rfl
  have rb0 := (hk 0 _ _ rfl trivial).1.2 (by simp)
  clear hk hge hne
  generalize th (0 + 0) = p0_0 at *
  dsimp only at rb0
  have r_p0_0 := rb0
  clear rb0
  have n_p0_0 := nb0
  clear nb0
  have sz1 := hU.size
  have hB : Below w.heap.size w U1 := hU
  clear hU
  have g0 := held_free r_p0_0 0
  have g1 := held_free r_p0_0 1
  have g2 := held_free r_p0_0 2
  have g3 := held_free r_p0_0 3
  have g4 := held_free r_p0_0 4
  have z0 := held_cell r_p0_0 0 _ rfl
  have z1 := held_cell r_p0_0 1 _ rfl
  have z2 := held_cell r_p0_0 2 _ rfl
  have z3 := held_cell r_p0_0 3 _ rfl
  have z4 := held_cell r_p0_0 4 _ rfl
  obtain ⟨W9, hW9, ya, yO⟩ := st5 r_p0_0 (.int .i64 1) (.int .i64 3) (.int .i64 2) (.int .i64 0) (.int .i64 99999)
  have hB9 := hid (belowS hB yO (by omega))
  have ez0 := held_cell ya 0 _ rfl
  have ez1 := held_cell ya 1 _ rfl
  have ez2 := held_cell ya 2 _ rfl
  have ez3 := held_cell ya 3 _ rfl
  have ez4 := held_cell ya 4 _ rfl
  clear ya yO r_p0_0 hB
  go_wp2_with fail
  refine bodyPost_ret (v := .agg #[.int .i64 1, .int .i64 3, .int .i64 2, .int .i64 0, .int .i64 99999]) (by simp [results, Tryd.results17, go_sem, ez0, ez1, ez2, ez3, ez4]) rfl ⟨rfl, hB9.out⟩
theorem mode27_any (b : Bool) (w : World) : Calls Tryd.prog 12 #[.bool b] w fun r w' => r = .returned (.string (mdS b)) ∧ w' = w := by
  cases b
  · go_enter Tryd.func12, Tryd.ntmps12
    go_wp2_with fail
    go_ret
    exact ⟨rfl, rfl⟩
  · go_enter Tryd.func12, Tryd.ntmps12
    go_wp2_with fail
    go_ret
    exact ⟨rfl, rfl⟩
theorem rfix27_any (n : Int) (w : World) : Calls Tryd.prog 30 #[.int .i64 n] w fun r w' => r = .returned (.bool (rfB n)) ∧ w' = w := by
  by_cases c1 : 1 ≤ n
  case neg =>
    have b1 : decide (1 ≤ n) = false := by simpa using c1
    rw [show rfB n = false from by unfold rfB; exact decide_eq_false (fun h => c1 h.1)]
    clear c1
    go_enter Tryd.func30, Tryd.ntmps30
    go_wp2_with fail
    go_ret
    exact ⟨rfl, rfl⟩
  have b1 : decide (1 ≤ n) = true := by simpa using c1
  have hq : rfB n = decide (n ≤ 3) := by unfold rfB; simp [c1]
  rw [hq]
  clear hq c1
  go_enter Tryd.func30, Tryd.ntmps30
  go_wp2_with fail
  go_ret
  exact ⟨rfl, rfl⟩
set_option maxRecDepth 100000 in
set_option maxHeartbeats 4000000 in
theorem putfix27_any (n : Int) (w : World) : Calls Tryd.prog 13 #[.int .i64 n] w fun r w' => r = .returned (.tuple #[.string (nb (dgP n 1 3).1), .int .i64 (dgP n 1 3).2]) ∧ After w w' := by
  by_cases c : 1 ≤ n ∧ n ≤ 3
  case neg =>
    have hd : dgP n 1 3 = ([], 5) := by unfold dgP; rw [if_pos (by omega)]
    have b1 : rfB n = false := by unfold rfB; exact decide_eq_false c
    rw [hd]
    replace hd := hid hd
    clear c
    go_enter Tryd.func13, Tryd.ntmps13
    go_wp2_with fail
    refine (rfix27_any n _).mono ?_
    rintro r V ⟨rfl, hv⟩
    obtain rfl : w = V := hv.symm
    rw [b1]
    go_wp2_with fail
    go_ret2
    exact ⟨by rfl, After.refl _⟩
  have hd : dgP n 1 3 = ([48 + n.toNat], 0) := by unfold dgP; rw [if_neg (by omega)]
  have b1 : rfB n = true := by unfold rfB; exact decide_eq_true c
  have e1 : IntKind.i64.wrap (48 + n) = 48 + n := by simp [IntKind.wrap, IntKind.bits, IntKind.signed]; omega
  have e2 : IntKind.u8.wrap (48 + n) = 48 + n := by simp [IntKind.wrap, IntKind.bits, IntKind.signed]; omega
  have hds := digit_str (48 + n.toNat) (48 + n) (by omega) (by omega) w
  have hA := hid (alloc_new w (.cells #[.int .u8 (48 + n)] 5)).2.1
  rw [hd]
  replace hd := hid hd
  clear c
  go_enter Tryd.func13, Tryd.ntmps13
  go_wp2_with fail
  refine (rfix27_any n _).mono ?_
  rintro r V ⟨rfl, hv⟩
  obtain rfl : w = V := hv.symm
  rw [b1]
  go_wp2_with fail
  go_ret2
  exact ⟨by rfl, hA.out⟩
set_option maxRecDepth 100000 in
set_option maxHeartbeats 2000000 in
theorem takemode27_any (s : ByteArray) (w : World) : Calls Tryd.prog 20 #[.string s] w fun r w' => r = .returned (.tuple #[.bool (decide (s = ⟨#[65]⟩)), .int .i64 (onE s ⟨#[65]⟩ ⟨#[77]⟩)]) ∧ w' = w := by
  have hA := seqC s [65]
  have hM := seqC s [77]
  by_cases c1 : s = ⟨#[65]⟩
  case pos =>
    have q := strEq (by rw [hA]; exact decide_eq_true c1)
    clear hA hM
    have hd := hid (show onE s ⟨#[65]⟩ ⟨#[77]⟩ = 0 by unfold onE; rw [if_neg (fun h => h.1 c1)])
    have hv := hid (show decide (s = ⟨#[65]⟩) = true by exact decide_eq_true c1)
    go_enter Tryd.func20, Tryd.ntmps20
    go_wp2_with fail
    go_ret2
    exact ⟨by rw [hd.out, hv.out]; rfl, rfl⟩
  have q := strNe (by rw [hA]; exact decide_eq_false c1)
  by_cases c2 : s = ⟨#[77]⟩
  case pos =>
    have q2 := strEq (by rw [hM]; exact decide_eq_true c2)
    have q3 : ¬ ([77] : List UInt8) = [65] := by decide
    clear hA hM
    have hd := hid (show onE s ⟨#[65]⟩ ⟨#[77]⟩ = 0 by unfold onE; rw [if_neg (fun h => h.2 c2)])
    have hv := hid (show decide (s = ⟨#[65]⟩) = false by exact decide_eq_false c1)
    go_enter Tryd.func20, Tryd.ntmps20
    go_wp2_with fail
    go_ret2
    exact ⟨by rw [hd.out, hv.out]; rfl, rfl⟩
  have q2 : (s.toList == [77]) = false := by rw [hM]; exact decide_eq_false c2
  have q1 : (s.toList == [65]) = false := by rw [hA]; exact decide_eq_false c1
  clear q hA hM
  have hd := hid (show onE s ⟨#[65]⟩ ⟨#[77]⟩ = 3 by unfold onE; rw [if_pos ⟨c1, c2⟩])
  have hv := hid (show decide (s = ⟨#[65]⟩) = false by exact decide_eq_false c1)
  go_enter Tryd.func20, Tryd.ntmps20
  go_wp2_with fail
  go_ret2
  exact ⟨by rw [hd.out, hv.out]; rfl, rfl⟩
set_option maxRecDepth 100000 in
set_option maxHeartbeats 4000000 in
theorem takefix27_any (s : ByteArray) (w : World) : Calls Tryd.prog 23 #[.string s] w fun r w' => r = .returned (.tuple #[.int .i64 (fxS s).1, .int .i64 (fxS s).2]) ∧ w' = w := by
  by_cases c1 : s.size = 1
  case neg =>
    have b1 : ((s.size : Int) != 1) = true := by simp; omega
    have hd := hid (show fxS s = (0, 3) by (unfold fxS; rw [show dgS s 1 3 = (0, 3) from by unfold dgS; rw [if_neg (by omega)]]; rfl))
    clear c1
    go_enter Tryd.func23, Tryd.ntmps23
    go_wp2_with fail
    go_ret2
    exact ⟨by rw [hd.out]; rfl, rfl⟩
  obtain ⟨c, hc⟩ : ∃ c, (sb s).getD 0 0 = c := ⟨_, rfl⟩
  have hix := fun W => tidx (P := Tryd.prog) 9 Tryd.underlying9 s 0 c (by omega) hc .i64 0 rfl W
  have hcb : c ≤ 255 := by rw [← hc, List.getD_eq_getElem?_getD, List.getElem?_eq_getElem (show 0 < (sb s).length by rw [sb_len]; omega)]; have := sb_lt s _ (List.getElem_mem (show 0 < (sb s).length by rw [sb_len]; omega)); simp only [Option.getD_some]; omega
  have b1 : ((s.size : Int) != 1) = false := by simp; omega
  by_cases c2 : c < 48
  case pos =>
    have b3 : decide ((c : Int) < 48) = true := by simp; omega
    have hd := hid (show fxS s = (0, 3) by (unfold fxS; rw [show dgS s 1 3 = (0, 3) from by unfold dgS; rw [if_neg (by omega)]]; rfl))
    clear c1
    go_enter Tryd.func23, Tryd.ntmps23
    go_wp2_with fail
    go_ret2
    exact ⟨by rw [hd.out]; rfl, rfl⟩
  have b3 : decide ((c : Int) < 48) = false := by simp; omega
  by_cases c3 : 57 < c
  case pos =>
    have b4 : decide ((57 : Int) < (c : Int)) = true := by simp; omega
    have hd := hid (show fxS s = (0, 3) by (unfold fxS; rw [show dgS s 1 3 = (0, 3) from by unfold dgS; rw [if_neg (by omega)]]; rfl))
    clear c1
    go_enter Tryd.func23, Tryd.ntmps23
    go_wp2_with fail
    go_ret2
    exact ⟨by rw [hd.out]; rfl, rfl⟩
  have b4 : decide ((57 : Int) < (c : Int)) = false := by simp; omega
  have e1 : ((c : Int) - 48) % 256 = (c : Int) - 48 := by omega
  have e2 : IntKind.i64.wrap ((c : Int) - 48) = (c : Int) - 48 := by simp [IntKind.wrap, IntKind.bits, IntKind.signed]; omega
  by_cases c5 : 1 ≤ (c : Int) - 48 ∧ (c : Int) - 48 ≤ 3
  case neg =>
    have r1 : rfB ((c : Int) - 48) = false := by unfold rfB; exact decide_eq_false c5
    have hd := hid (show fxS s = (0, 5) by (unfold fxS; rw [show dgS s 1 3 = ((c : Int) - 48, 5) from by unfold dgS; rw [if_pos (by omega), hc, if_pos (by omega)]]; rfl))
    go_enter Tryd.func23, Tryd.ntmps23
    go_wp2_with fail
    refine (rfix27_any ((c : Int) - 48) _).mono ?_
    rintro r V ⟨rfl, hv⟩
    obtain rfl : w = V := hv.symm
    rw [r1]
    go_wp2_with fail
    go_ret2
    exact ⟨by rw [hd.out]; rfl, rfl⟩
  have r1 : rfB ((c : Int) - 48) = true := by unfold rfB; exact decide_eq_true c5
  have hd := hid (show fxS s = ((c : Int) - 48, 0) by (unfold fxS; rw [show dgS s 1 3 = ((c : Int) - 48, 0) from by unfold dgS; rw [if_pos (by omega), hc, if_neg (by omega)]]; rfl))
  go_enter Tryd.func23, Tryd.ntmps23
  go_wp2_with fail
  refine (rfix27_any ((c : Int) - 48) _).mono ?_
  rintro r V ⟨rfl, hv⟩
  obtain rfl : w = V := hv.symm
  rw [r1]
  go_wp2_with fail
  go_ret2
  exact ⟨by rw [hd.out]; rfl, rfl⟩

end Go.Proofs.YtpbekdkobmgndaaDoor
