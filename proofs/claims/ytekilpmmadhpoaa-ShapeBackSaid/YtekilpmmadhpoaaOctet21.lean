/- Stage 4: the reference's writer beside the program's: who owns which block. -/
import Derived.Test.YtekilpmmadhpoaaOctet20
namespace Go.Proofs.Ytekilpmmadhpoaa
open Go.ChangeShapes Go.WideShapes Go.ChangeAt Go.RowKit Go.Shelf
set_option linter.unusedVariables false

/-- What the reference has in block Q, beside an object in block B that owns a slice. -/
def QSt (T : TypeId) (B Q : Nat) (w : World) (zs : List Int) (bad : Bool) : Prop := ∃ a l c, w.heap[Q]? = some (.cells #[.slice a l c, .bool bad] T (0, 0)) ∧ Sl .u8 w a l c zs ∧ Q ≠ B ∧ some Q ≠ wown B 1 w ∧ (bad = true → zs = []) ∧ (bad = false → ∀ p, a = some p → p.block ≠ B ∧ some p.block ≠ wown B 1 w ∧ p.block < w.heap.size)
theorem Sl.kept {k : IntKind} {w w' : World} {a : Option Addr} {len cap : Nat} {zs : List Int} (h : Sl k w a len cap zs) (hw : ∀ p, a = some p → p.block < w.heap.size → w'.heap[p.block]? = w.heap[p.block]?) : Sl k w' a len cap zs := by
  obtain ⟨h1, h2, h3, h4, h5⟩ := h
  refine ⟨h1, h2, h3, h4, fun i hi => ?_⟩
  obtain ⟨b, off, e, hc⟩ := h5 i hi
  have hl := World.block_lt_of_cell? w _ hc
  exact ⟨b, off, e, (World.cell?_of_block (w := w) (a := ⟨b, off + i, none⟩) (hw ⟨b, off, none⟩ e hl)).trans hc⟩
theorem sl_no {k : IntKind} {w w' : World} {a : Option Addr} {len cap : Nat} (h : Sl k w a len cap []) : Sl k w' a len cap [] := ⟨h.1, h.2.1, h.2.2.1, h.2.2.2.1, fun i hi => by simp at hi⟩
theorem QSt.kp {T : TypeId} {B Q : Nat} {w w' : World} {zs : List Int} {bad : Bool} (h : QSt T B Q w zs bad) (hK : Owp B 1 w w') : QSt T B Q w' zs bad := by
  obtain ⟨a, l, c, h1, h2, h3, h4, h5, h6⟩ := h
  have hq := held_lt h1
  have hn : ∀ k, k < w.heap.size → some k ≠ wown B 1 w → some k ≠ wown B 1 w' := fun k hk hne e => by
    rcases hK.own k e.symm with h | h
    · exact hne h.symm
    · omega
  refine ⟨a, l, c, (hK.block Q hq h3 h4).trans h1, ?_, h3, hn Q hq h4, h5, fun hb p hp => ?_⟩
  · cases bad
    · exact h2.kept fun p hp hl => hK.block p.block hl (h6 rfl p hp).1 (h6 rfl p hp).2.1
    · have e := h5 rfl
      subst e
      exact sl_no h2
  · obtain ⟨g1, g2, g3⟩ := h6 hb p hp
    exact ⟨g1, hn _ g3 g2, Nat.lt_of_lt_of_le g3 hK.size⟩
theorem WSt.own_lt {B base : Nat} {w : World} {zs : List Int} {bad : Bool} (h : WSt B base w zs bad) : ∀ g, wown B 1 w = some g → g < w.heap.size := by
  obtain ⟨_, _, h⟩ := h
  intro g hg
  cases bad
  · obtain ⟨a, cap, hH, hO⟩ := h
    rw [wown_at hH rfl] at hg
    exact (World.ownsRow.lt hO g hg).2
  · rw [wown_at h.1 rfl] at hg
    cases hg
/-- Where only block Q changes, a writer stays. -/
theorem WSt.other {B base Q : Nat} {w w' : World} {zs : List Int} {bad : Bool} (h : WSt B base w zs bad) (hne : Q ≠ B) (ho : some Q ≠ wown B 1 w) (hg : w.grownBy w' (some Q)) : WSt B base w' zs bad := by
  obtain ⟨h1, h2, h⟩ := h
  have hb : w'.heap[B]? = w.heap[B]? := hg.block B h1 (fun e => hne (Option.some.inj e).symm)
  refine ⟨Nat.lt_of_lt_of_le h1 hg.size, Nat.le_trans h2 hg.size, ?_⟩
  cases bad
  · obtain ⟨a, cap, hH, hO⟩ := h
    rw [wown_at hH rfl] at ho
    exact ⟨a, cap, hb.trans hH, World.ownsRow.kept hO hg (.inr fun e => ho e.symm)⟩
  · exact ⟨hb.trans h.1, h.2⟩
theorem grown_two {U : World} {Q : Nat} (u0 u1 : Value) : U.grownBy ((U.setCell ⟨Q, 0, none⟩ u0).setCell ⟨Q, 1, none⟩ u1) (some Q) :=
  ⟨rfl, rfl, rfl, by simp [World.setCell], fun k _ hne => (Below.heap_setCell _ _ _ _ (fun e => hne (by rw [e]))).trans (Below.heap_setCell _ _ _ _ (fun e => hne (by rw [e])))⟩
/-- The reference's next state, laid into its block. -/
theorem QSt.next {T : TypeId} {B base Q : Nat} {w U : World} {zs zs' ws : List Int} {bad bad' wb : Bool} {a a' : Option Addr} {l c l' c' : Nat} (hW : WSt B base w ws wb) (h : QSt T B Q w zs bad) (hH : w.heap[Q]? = some (.cells #[.slice a l c, .bool bad] T (0, 0))) (hA : After w U)
    (hs : Sl .u8 U a' l' c' zs') (hw : ∀ p, a' = some p → a = some p ∨ w.heap.size ≤ p.block ∧ p.block < U.heap.size) (hb : bad' = false → bad = false) (hz : bad' = true → zs' = []) :
    QSt T B Q ((U.setCell ⟨Q, 0, none⟩ (.slice a' l' c')).setCell ⟨Q, 1, none⟩ (.bool bad')) zs' bad' ∧ WSt B base ((U.setCell ⟨Q, 0, none⟩ (.slice a' l' c')).setCell ⟨Q, 1, none⟩ (.bool bad')) ws wb := by
  obtain ⟨a2, l2, c2, h1, h2, h3, h4, h5, h6⟩ := h
  rw [hH] at h1
  simp at h1
  obtain ⟨rfl, rfl, rfl⟩ := h1
  have hBw := hW.1
  have hol := hW.own_lt
  have hU := held_after hA hH
  have hWU := hW.later hA
  have eU : wown B 1 U = wown B 1 w := wown_same (hA.block B hBw)
  have hg := grown_two (U := U) (Q := Q) (.slice a' l' c') (.bool bad')
  have e5 : wown B 1 ((U.setCell ⟨Q, 0, none⟩ (.slice a' l' c')).setCell ⟨Q, 1, none⟩ (.bool bad')) = wown B 1 w := by
    rw [wown_same (hg.block B hWU.1 (fun e => h3 (Option.some.inj e).symm)), eU]
  refine ⟨⟨a', l', c', held_set (held_set hU 0 _) 1 _, ?_, h3, by rw [e5]; exact h4, hz, fun hb' p hp => ?_⟩, hWU.other h3 (by rw [eU]; exact h4) hg⟩
  · exact hs.other hU no_int2 (fun b hne => (Below.heap_setCell _ _ _ _ hne).trans (Below.heap_setCell _ _ _ _ hne))
  · rw [e5]
    have hsz : ((U.setCell ⟨Q, 0, none⟩ (.slice a' l' c')).setCell ⟨Q, 1, none⟩ (.bool bad')).heap.size = U.heap.size := by simp [World.setCell]
    rw [hsz]
    rcases hw p hp with e | ⟨g1, g2⟩
    · obtain ⟨k1, k2, k3⟩ := h6 (hb hb') p e
      exact ⟨k1, k2, Nat.lt_of_lt_of_le k3 hA.size⟩
    · exact ⟨by omega, fun e => by have := hol _ e.symm; omega, g2⟩
/-- The reference's block, made. -/
theorem QSt.made {T : TypeId} {B base : Nat} {w : World} {ws : List Int} {wb : Bool} (hW : WSt B base w ws wb) : QSt T B w.heap.size (w.alloc (.cells #[.slice none 0 0, .bool false] T)) [] false := by
  have hA : After w (w.alloc (.cells #[.slice none 0 0, .bool false] T)) := (Below.refl _ w).alloc (Nat.le_refl _) _
  have hol := hW.own_lt
  refine ⟨none, 0, 0, World.alloc_heap_new w _, sl_nil _ _, by have := hW.1; omega, fun e => ?_, fun h => by (cases h), fun _ p hp => by (cases hp)⟩
  rw [wown_same (hA.block B hW.1)] at e
  have := hol _ e.symm
  omega

end Go.Proofs.Ytekilpmmadhpoaa
