/- Lists of lines. -/
import Derived.Test.YtjeiclfdhdcfnaaGap6
import Derived.Laws.Tables
namespace Go.Proofs.Ytjeiclfdhdcfnaa
open Go.ChangeShapes Go.WideShapes Go.ChangeAt Go.RowKit
set_option linter.unusedVariables false
set_option linter.unusedSimpArgs false

def enL (x : Ln) : List Value := [.int .i64 x.y, .int .i64 x.c, .int .i64 x.q, .int .i64 x.h, .int .i64 x.l]
theorem flat33 : ∀ {S : List (Int × Int)} {i : Nat} {x : Int × Int}, S[i]? = some x → (S.map en33).flatten[i * 2]? = some (.int .i64 x.1) ∧ (S.map en33).flatten[i * 2 + 1]? = some (.int .i64 x.2)
  | [], i, x, h => by simp at h
  | z :: S, 0, x, h => by simp at h; subst h; exact ⟨rfl, rfl⟩
  | z :: S, i + 1, x, h => by
    have ih := flat33 (S := S) (i := i) (x := x) (by simpa using h)
    have e1 : (i + 1) * 2 = i * 2 + 2 := by omega
    have e2 : (i + 1) * 2 + 1 = (i * 2 + 1) + 2 := by omega
    rw [e1, Nat.add_right_comm (i * 2) 2 1]
    show (_ :: _ :: (S.map en33).flatten)[i * 2 + 2]? = _ ∧ (_ :: _ :: (S.map en33).flatten)[i * 2 + 1 + 2]? = _
    exact ih
theorem key_cells {w : World} {N g n cap : Nat} {S : List (Int × Int)} (h : OwnE 51 w N 2 (.slice (some ⟨g, 0, none⟩) n cap) n (S.map en33).flatten) : ∀ i x, S[i]? = some x → (w.cell? ⟨g, 0 + i * 2, none⟩ = some (.int .i64 x.1) ∧ w.cell? ⟨g, 0 + i * 2 + 1, none⟩ = some (.int .i64 x.2)) ∧ ∀ j, w.frozen? ⟨g, j, none⟩ = false := by
  intro i x hx
  obtain ⟨h1, h2⟩ := flat33 hx
  obtain ⟨-, -, cur, hc⟩ := h.lt g rfl
  rw [Nat.zero_add]
  exact ⟨⟨h.cells g rfl _ _ h1, h.cells g rfl _ _ h2⟩, fun j => held_free hc j⟩
/-- The senders, in order. -/
def KeysIn (w : World) (g : Nat) (S : List (Int × Int)) : Prop := ∀ i x, S[i]? = some x → w.cell? ⟨g, 0 + i * 2, none⟩ = some (.int .i64 x.1) ∧ w.cell? ⟨g, 0 + i * 2 + 1, none⟩ = some (.int .i64 x.2)
theorem KeysIn.kept {w w2 : World} {g : Nat} {S : List (Int × Int)} (h : KeysIn w g S) (hk : w2.heap[g]? = w.heap[g]?) : KeysIn w2 g S := fun i x hx => by
  obtain ⟨h1, h2⟩ := h i x hx
  exact ⟨(World.cell?_of_block (w := w) (a := ⟨g, 0 + i * 2, none⟩) hk).trans h1, (World.cell?_of_block (w := w) (a := ⟨g, 0 + i * 2 + 1, none⟩) hk).trans h2⟩
/-- The first lines of a list. -/
def OutAt (w : World) (p j n : Nat) (S : List Ln) : Prop := ∃ C, w.heap[p]? = some (.cells C 43 (0, 0)) ∧ n * 5 ≤ C.size ∧ ∀ i x, i < j → S[i]? = some x → C[i * 5]? = some (.int .i64 x.y) ∧ C[i * 5 + 1]? = some (.int .i64 x.c) ∧ C[i * 5 + 2]? = some (.int .i64 x.q) ∧ C[i * 5 + 3]? = some (.int .i64 x.h) ∧ C[i * 5 + 4]? = some (.int .i64 x.l)
theorem OutAt.kept {w w2 : World} {p j n : Nat} {S : List Ln} (h : OutAt w p j n S) (hk : w2.heap[p]? = w.heap[p]?) : OutAt w2 p j n S := by
  obtain ⟨C, h1, h2, h3⟩ := h
  exact ⟨C, hk.trans h1, h2, h3⟩
theorem OutAt.els {w : World} {p n : Nat} {S : List Ln} (h : OutAt w p n n S) (hn : S.length = n) (hm : n ≤ 1000) : Els w 5 (some ⟨p, 0, none⟩) n n (S.map enL) := by
  obtain ⟨C, h1, h2, h3⟩ := h
  refine ⟨by rw [List.length_map]; exact hn, Nat.le_refl _, by unfold maxLen; omega, (fun e => by cases e), ?_⟩
  intro i x hx
  rw [List.getElem?_map] at hx
  cases hs : S[i]? with
  | none => rw [hs] at hx; cases hx
  | some z =>
    rw [hs] at hx
    cases hx
    have hi := (List.getElem?_eq_some_iff.1 hs).1
    obtain ⟨a0, a1, a2, a3, a4⟩ := h3 i z (by omega) hs
    refine ⟨rfl, p, 0, rfl, ?_⟩
    intro j v hj
    rw [Nat.zero_add]
    match j, hj with
    | 0, hj => cases hj; exact held_cell h1 _ _ a0
    | 1, hj => cases hj; exact held_cell h1 _ _ a1
    | 2, hj => cases hj; exact held_cell h1 _ _ a2
    | 3, hj => cases hj; exact held_cell h1 _ _ a3
    | 4, hj => cases hj; exact held_cell h1 _ _ a4
    | j + 5, hj => simp [enL] at hj
set_option maxRecDepth 100000 in
set_option maxHeartbeats 2000000 in
theorem OutAt.set {w : World} {p j n : Nat} {S : List Ln} {x : Ln} (h : OutAt w p j n S) (hj : j < n) (hx : S[j]? = some x) : (∃ v0 v1 v2 v3 v4 : Value, w.cell? ⟨p, j * 5, none⟩ = some v0 ∧ w.cell? ⟨p, j * 5 + 1, none⟩ = some v1 ∧ w.cell? ⟨p, j * 5 + 2, none⟩ = some v2 ∧ w.cell? ⟨p, j * 5 + 3, none⟩ = some v3 ∧ w.cell? ⟨p, j * 5 + 4, none⟩ = some v4) ∧ (∀ k, w.frozen? ⟨p, k, none⟩ = false) ∧
    ∃ W2, ((((w.setCell ⟨p, j * 5, none⟩ (.int .i64 x.y)).setCell ⟨p, j * 5 + 1, none⟩ (.int .i64 x.c)).setCell ⟨p, j * 5 + 2, none⟩ (.int .i64 x.q)).setCell ⟨p, j * 5 + 3, none⟩ (.int .i64 x.h)).setCell ⟨p, j * 5 + 4, none⟩ (.int .i64 x.l) = W2 ∧ OutAt W2 p (j + 1) n S ∧ Only p w W2 := by
  obtain ⟨C, h1, h2, h3⟩ := h
  have hj5 : j * 5 + 4 < C.size := by omega
  refine ⟨⟨C[j * 5], C[j * 5 + 1], C[j * 5 + 2], C[j * 5 + 3], C[j * 5 + 4], held_cell h1 _ _ (Array.getElem?_eq_getElem (by omega)), held_cell h1 _ _ (Array.getElem?_eq_getElem (by omega)), held_cell h1 _ _ (Array.getElem?_eq_getElem (by omega)), held_cell h1 _ _ (Array.getElem?_eq_getElem (by omega)), held_cell h1 _ _ (Array.getElem?_eq_getElem (by omega))⟩, fun k => held_free h1 k, _, rfl, ⟨_, held_set (held_set (held_set (held_set (held_set h1 (j * 5) _) (j * 5 + 1) _) (j * 5 + 2) _) (j * 5 + 3) _) (j * 5 + 4) _, by simpa using h2, ?_⟩, ((((Only.set p _ _ _).then (Only.set p _ _ _)).then (Only.set p _ _ _)).then (Only.set p _ _ _)).then (Only.set p _ _ _)⟩
  intro i z hi hz
  by_cases hij : i = j
  · subst hij
    rw [hx] at hz
    cases hz
    simp only [Array.getElem?_setIfInBounds, Array.size_setIfInBounds]
    refine ⟨?_, ?_, ?_, ?_, ?_⟩ <;> (repeat rw [if_neg (by omega)]) <;> simp <;> omega
  · obtain ⟨a0, a1, a2, a3, a4⟩ := h3 i z (by omega) hz
    simp only [Array.getElem?_setIfInBounds, Array.size_setIfInBounds]
    refine ⟨?_, ?_, ?_, ?_, ?_⟩ <;> (repeat rw [if_neg (by omega)]) <;> assumption
theorem look33f {w : World} {b : Nat} {L : List Ln} (h : MapAt w b L) (y c : Int) : (Instr.lookup 45 (.map (some b)) (.agg #[.int .i64 y, .int .i64 c]) false).run Try.prog w = .ok (.agg #[.int .i64 (lnOf L (y, c)).q, .int .i64 (lnOf L (y, c)).h, .int .i64 (lnOf L (y, c)).l]) w := by
  have h1 := look33 h y c false
  rw [if_neg (by decide)] at h1
  unfold lnOf
  dsimp only
  cases hp : posG y c L 0 with
  | none => rw [hp] at h1; exact h1
  | some r => rw [hp] at h1; exact h1
theorem senO : CellsOf Try.prog 55 51 2 16 := ⟨Try.underlying55, by kernel_rfl⟩

end Go.Proofs.Ytjeiclfdhdcfnaa
