/- A map's entries, one by one. -/
import Derived.Test.YtjeiclfdhdcfnaaGap5
import Derived.Maps.RangeRun
import Derived.Laws.Tables
namespace Go.Proofs.Ytjeiclfdhdcfnaa
open Go.ChangeShapes Go.WideShapes Go.ChangeAt Go.RowKit
set_option linter.unusedVariables false
set_option linter.unusedSimpArgs false

theorem enM_mem : ∀ {L : List Ln} {n : Nat} {e : MapEntry}, e ∈ enM n L → ∃ i x, L[i]? = some x ∧ e = ⟨kyG x.y x.c, vlG x.q x.h x.l, n + i⟩
  | [], n, e, h => by cases h
  | x :: L, n, e, h => by
    rcases List.mem_cons.1 (show e ∈ _ :: enM (n + 1) L from h) with h | h
    · exact ⟨0, x, rfl, h⟩
    · obtain ⟨i, z, h1, h2⟩ := enM_mem h
      exact ⟨i + 1, z, h1, by rw [h2, show n + 1 + i = n + (i + 1) by omega]⟩
theorem enM_in {L : List Ln} {n i : Nat} {x : Ln} (h : L[i]? = some x) : (⟨kyG x.y x.c, vlG x.q x.h x.l, n + i⟩ : MapEntry) ∈ enM n L := by
  refine List.mem_of_getElem? (i := i) ?_
  rw [enM_at, h]
  rfl
theorem enM_borns : ∀ (L : List Ln) (n : Nat), (enM n L).map (·.born) = (List.range L.length).map (· + n)
  | [], n => rfl
  | x :: L, n => by
    show n :: (enM (n + 1) L).map (·.born) = _
    rw [enM_borns L (n + 1), List.length_cons, List.range_succ_eq_map, List.map_cons, List.map_map, Nat.zero_add]
    congr 1
    apply List.map_congr_left
    intro a _
    show a + (n + 1) = a + 1 + n
    omega
theorem enM_nodup (L : List Ln) : ((enM 0 L).toArray.toList.map (·.born)).Nodup := by
  show ((enM 0 L).map (·.born)).Nodup
  rw [enM_borns]
  simpa using List.nodup_range
theorem enM_old (L : List Ln) : ∀ x ∈ (enM 0 L).toArray.toList, x.born < L.length := by
  intro e he
  obtain ⟨i, x, h1, rfl⟩ := enM_mem (show e ∈ enM 0 L from by simpa using he)
  have := (List.getElem?_eq_some_iff.1 h1).1
  show 0 + i < _
  omega
theorem left_in {L : List Ln} {P : List Nat} {e : MapEntry} (h : e ∈ (leftOf (enM 0 L).toArray P.toArray).toList) : e ∈ (enM 0 L).toArray.toList ∧ ∃ i x, L[i]? = some x ∧ i ∉ P ∧ e = ⟨kyG x.y x.c, vlG x.q x.h x.l, i⟩ := by
  unfold leftOf at h
  simp at h
  obtain ⟨h1, h2⟩ := h
  obtain ⟨i, x, h3, rfl⟩ := enM_mem h1
  rw [Nat.zero_add] at h2 h1 ⊢
  exact ⟨by simpa using h1, i, x, h3, h2, rfl⟩
theorem left_none {L : List Ln} {P : List Nat} (h : (leftOf (enM 0 L).toArray P.toArray).size = 0) : ∀ i, i < L.length → i ∈ P := by
  intro i hi
  have h1 := enM_in (n := 0) (List.getElem?_eq_getElem hi)
  rw [Nat.zero_add] at h1
  have h0 : leftOf (enM 0 L).toArray P.toArray = #[] := Array.eq_empty_of_size_eq_zero h
  by_cases hp : i ∈ P
  · exact hp
  · exfalso
    have h2 : (⟨kyG L[i].y L[i].c, vlG L[i].q L[i].h L[i].l, i⟩ : MapEntry) ∈ leftOf (enM 0 L).toArray P.toArray := by
      unfold leftOf
      rw [Array.mem_filter]
      exact ⟨by simpa using h1, by simpa using hp⟩
    rw [h0] at h2
    simp at h2
theorem perm_range {P : List Nat} {n : Nat} (hd : P.Nodup) (hb : ∀ i ∈ P, i < n) (ha : ∀ i, i < n → i ∈ P) : P.Perm (List.range n) := by
  rw [List.perm_iff_count]
  intro a
  by_cases h : a < n
  · rw [List.Nodup.count hd, List.Nodup.count List.nodup_range, if_pos (ha a h), if_pos (List.mem_range.2 h)]
  · rw [List.Nodup.count hd, List.Nodup.count List.nodup_range, if_neg (fun h2 => h (hb a h2)), if_neg (fun h2 => h (List.mem_range.1 h2))]
/-- The sender of line i. -/
def keyAt (L : List Ln) (i : Nat) : Int × Int := match L[i]? with
  | some x => (x.y, x.c)
  | none => (0, 0)
theorem keys_range (L : List Ln) : (List.range L.length).map (keyAt L) = L.map (fun x => (x.y, x.c)) := by
  apply List.ext_getElem?
  intro i
  by_cases h : i < L.length
  · simp [h, keyAt]
  · simp [h]
/-- The line of a sender. -/
def lnOf (L : List Ln) (k : Int × Int) : Ln := match posG k.1 k.2 L 0 with
  | some r => r.2
  | none => ⟨k.1, k.2, 0, 0, 0⟩
def Dist (L : List Ln) : Prop := L.Pairwise (fun a b => ¬ (a.y = b.y ∧ a.c = b.c))
theorem posG_self {x : Ln} : ∀ {L : List Ln} {i : Nat}, Dist L → x ∈ L → ∃ j, posG x.y x.c L i = some (j, x)
  | [], i, _, h => by cases h
  | z :: L, i, hd, h => by
    obtain ⟨h1, h2⟩ := List.pairwise_cons.1 hd
    unfold posG
    rcases List.mem_cons.1 h with rfl | h
    · exact ⟨i, by rw [if_pos ⟨rfl, rfl⟩]⟩
    · rw [if_neg (fun h3 => h1 x h ⟨h3.1.symm, h3.2.symm⟩)]
      exact posG_self h2 h
theorem lnOf_self {L : List Ln} (hd : Dist L) : (L.map (fun x => (x.y, x.c))).map (lnOf L) = L := by
  rw [List.map_map]
  have : ∀ x ∈ L, (lnOf L ∘ fun x => (x.y, x.c)) x = id x := by
    intro x hx
    obtain ⟨j, hj⟩ := posG_self (i := 0) hd hx
    show lnOf L (x.y, x.c) = x
    unfold lnOf
    dsimp only
    rw [hj]
  rw [List.map_congr_left this, List.map_id]
theorem lnOf_key {L : List Ln} {k : Int × Int} : (lnOf L k).y = k.1 ∧ (lnOf L k).c = k.2 := by
  unfold lnOf
  split
  · rename_i r h
    obtain ⟨-, -, h1, h2⟩ := posG_at h
    exact ⟨h1, h2⟩
  · exact ⟨rfl, rfl⟩
set_option maxRecDepth 100000 in
set_option maxHeartbeats 2000000 in
theorem next33 {w : World} {r m : Nat} {L : List Ln} {P : List Nat} (hr : w.heap[r]? = some (.mapIter (some m) L.length P.toArray L.length)) (hm : MapAt w m L) :
    ((∀ i, i < L.length → i ∈ P) ∧ ∀ ty, (Instr.next (.pointer (some ⟨r, 0, none⟩)) false ty).run Try.prog w = .ok (.tuple #[.bool false]) w) ∨
    ∃ i x W1, L[i]? = some x ∧ i ∉ P ∧ (∀ ty, (Instr.next (.pointer (some ⟨r, 0, none⟩)) false ty).run Try.prog w = .ok (.tuple #[.bool true, kyG x.y x.c, vlG x.q x.h x.l]) W1) ∧ W1.heap[r]? = some (.mapIter (some m) L.length (P ++ [i]).toArray L.length) ∧ Only r w W1 ∧ (Instr.entry (.pointer (some ⟨r, 0, none⟩))).run Try.prog W1 = .ok (.tuple #[kyG x.y x.c, vlG x.q x.h x.l]) W1 := by
  have hrm : m ≠ r := by
    intro e
    subst e
    rw [hm] at hr
    cases hr
  have hlt := (Array.getElem?_eq_some_iff.1 hr).1
  rcases run_next_at (P := Try.prog) w 0 r m L.length L.length P.toArray (enM 0 L).toArray L.length hr hm (enM_old L) (Nat.le_refl _) with ⟨h0, hrun⟩ | ⟨e, he, w1, hw1, hrun⟩
  · exact .inl ⟨left_none h0, fun ty => hrun⟩
  · obtain ⟨h1, i, x, h2, h3, rfl⟩ := left_in he
    have hpush : (P.toArray.push i) = (P ++ [i]).toArray := by simp
    have hlt1 : r < w1.heap.size := by rcases hw1 with rfl | rfl <;> exact hlt
    have hO : Only r w (Go.ChangeMaps.setBlock w1 r (.mapIter (some m) L.length (P.toArray.push i) L.length)) := by
      rcases hw1 with rfl | rfl
      · exact setB_only _ _ _
      · have := setB_only w.drew r (.mapIter (some m) L.length (P.toArray.push i) L.length)
        exact ⟨this.os, this.tape, this.output, this.size, this.block⟩
    have hat := setB_at w1 r (.mapIter (some m) L.length (P.toArray.push i) L.length) hlt1
    have hm1 : (Go.ChangeMaps.setBlock w1 r (.mapIter (some m) L.length (P.toArray.push i) L.length)).heap[m]? = some (.map (enM 0 L).toArray L.length) := (hO.block m hrm).trans hm
    refine .inr ⟨i, x, _, h2, h3, fun ty => hrun, ?_, hO, run_entry_at _ r m L.length P.toArray _ _ _ hat hm1 h1 (enM_nodup L)⟩
    rw [← hpush]
    exact hat
theorem range33 {w : World} {m : Nat} {L : List Ln} (hm : MapAt w m L) : (Instr.range 45 (.map (some m))).run Try.prog w = .ok (.pointer (some ⟨w.heap.size, 0, none⟩)) (w.alloc (.mapIter (some m) L.length #[] L.length)) := by
  have hg : (getObj m).run Try.prog w = .ok (.map (enM 0 L).toArray L.length) w := by
    simp [getObj, Sem.run, show w.heap[m]? = _ from hm]
  unfold Instr.range
  simp [Sem.run_bind, run_underlying Try.underlying45, Result.andThen_ok, hg]

end Go.Proofs.Ytjeiclfdhdcfnaa
