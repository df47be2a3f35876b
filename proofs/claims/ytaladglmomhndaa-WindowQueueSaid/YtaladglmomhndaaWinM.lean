/- Package window: a ring of 1024 bytes in a block of 1027 cells. -/
import Derived.Test.YtaladglmomhndaaKB
import Derived.Test.YtaladglmomhndaaKA
import Derived.Deep.DeepCutAuto
namespace Go.Proofs.Ytaladglmomhndaa
open Go.RowKit
set_option linter.unusedVariables false
set_option linter.unusedSimpArgs false

/-- The cells of a window: made, the ring, where its bytes begin, how many there are. -/
def wdC (R : List Int) (fr ct : Int) : Array Value := (.bool true :: (R.map (Value.int .u8) ++ [.int .i64 fr, .int .i64 ct])).toArray
theorem wdC_0 (R : List Int) (fr ct : Int) : (wdC R fr ct)[0]? = some (.bool true) := rfl
theorem wdC_ring {R : List Int} (fr ct : Int) {i : Nat} (h : i < R.length) : (wdC R fr ct)[1 + i]? = some (.int .u8 (R.getD i 0)) := by
  unfold wdC
  rw [List.getElem?_toArray, Nat.add_comm, List.getElem?_cons_succ, List.getElem?_append_left (by rw [List.length_map]; exact h), List.getElem?_map, List.getElem?_eq_getElem h, List.getD_eq_getElem?_getD, List.getElem?_eq_getElem h]
  rfl
theorem wdC_from {R : List Int} (hR : R.length = 1024) (fr ct : Int) : (wdC R fr ct)[1025]? = some (.int .i64 fr) := by
  unfold wdC
  rw [List.getElem?_toArray, List.getElem?_cons_succ, List.getElem?_append_right (by rw [List.length_map]; omega), List.length_map, hR]; rfl
theorem wdC_cnt {R : List Int} (hR : R.length = 1024) (fr ct : Int) : (wdC R fr ct)[1026]? = some (.int .i64 ct) := by
  unfold wdC
  rw [List.getElem?_toArray, List.getElem?_cons_succ, List.getElem?_append_right (by rw [List.length_map]; omega), List.length_map, hR]; rfl
theorem wdC_size {R : List Int} (hR : R.length = 1024) (fr ct : Int) : (wdC R fr ct).size = 1027 := by
  unfold wdC; simp [hR]
theorem wdC_setF {R : List Int} (hR : R.length = 1024) (fr ct fr2 : Int) : (wdC R fr ct).setIfInBounds 1025 (.int .i64 fr2) = wdC R fr2 ct := by
  unfold wdC
  rw [List.setIfInBounds_toArray]
  congr 1
  rw [List.set_cons_succ, List.set_append_right _ _ (by rw [List.length_map]; omega), List.length_map, hR]; rfl
theorem wdC_setC {R : List Int} (hR : R.length = 1024) (fr ct ct2 : Int) : (wdC R fr ct).setIfInBounds 1026 (.int .i64 ct2) = wdC R fr ct2 := by
  unfold wdC
  rw [List.setIfInBounds_toArray]
  congr 1
  rw [List.set_cons_succ, List.set_append_right _ _ (by rw [List.length_map]; omega), List.length_map, hR]; rfl
/-- The ring behind a copy. -/
theorem wdC_laid {R : List Int} (hR : R.length = 1024) (fr ct : Int) {tq : Nat} {ys : List Int} (h : tq + ys.length ≤ 1024) : ((wdC R fr ct).toList.take (1 + tq) ++ ys.map (Value.int .u8) ++ (wdC R fr ct).toList.drop (1 + tq + (ys.map (Value.int .u8)).length)).toArray = wdC (laid R tq ys) fr ct := by
  unfold wdC laid
  congr 1
  have e1 : 1 + tq = tq + 1 := by omega
  rw [e1]
  show (Value.bool true :: (R.map (Value.int .u8) ++ _)).take (tq + 1) ++ _ ++ (Value.bool true :: (R.map (Value.int .u8) ++ _)).drop (tq + 1 + _) = _
  rw [List.take_succ_cons, List.take_append_of_le_length (by rw [List.length_map]; omega), List.length_map, show tq + 1 + ys.length = (tq + ys.length) + 1 by omega, List.drop_succ_cons, List.drop_append_of_le_length (by rw [List.length_map]; omega)]
  simp [List.map_take, List.map_drop]
theorem laid_len {R : List Int} {tq : Nat} {ys : List Int} (h : tq + ys.length ≤ R.length) : (laid R tq ys).length = R.length := by
  unfold laid
  rw [List.length_append, List.length_append, List.length_take, List.length_drop]; omega
theorem laid_at {R : List Int} {tq : Nat} {ys : List Int} (h : tq + ys.length ≤ R.length) (i : Nat) : (laid R tq ys).getD i 0 = if i < tq then R.getD i 0 else if i < tq + ys.length then ys.getD (i - tq) 0 else R.getD i 0 := by
  unfold laid
  have e : (R.take tq).length = tq := by rw [List.length_take]; omega
  rw [List.getD_eq_getElem?_getD]
  by_cases c : i < tq
  · rw [if_pos c, List.getElem?_append_left (by omega), List.getElem?_take, if_pos c, ← List.getD_eq_getElem?_getD]
  · rw [if_neg c, List.getElem?_append_right (by omega), e]
    by_cases d : i < tq + ys.length
    · rw [if_pos d, List.getElem?_append_left (by omega), ← List.getD_eq_getElem?_getD]
    · rw [if_neg d, List.getElem?_append_right (by omega), List.getElem?_drop, show tq + ys.length + (i - tq - ys.length) = i by omega, ← List.getD_eq_getElem?_getD]
/-- What a window has: its bytes, in order. -/
def WdI (R : List Int) (fr : Nat) (L : List Int) : Prop := R.length = 1024 ∧ fr < 1024 ∧ L.length ≤ 1024 ∧ (∀ i, i < L.length → R.getD ((fr + i) % 1024) 0 = L.getD i 0) ∧ (∀ x ∈ L, (Lit.int .u8 x).wf = true)
theorem wdI_new : WdI (List.replicate 1024 0) 0 [] := ⟨List.length_replicate, by omega, Nat.zero_le _, fun i h => by simp at h, fun x h => by cases h⟩
theorem getD_appI {a b : List Int} (i : Nat) : (a ++ b).getD i 0 = if i < a.length then a.getD i 0 else b.getD (i - a.length) 0 := by
  rw [List.getD_eq_getElem?_getD]
  by_cases c : i < a.length
  · rw [if_pos c, List.getElem?_append_left c, ← List.getD_eq_getElem?_getD]
  · rw [if_neg c, List.getElem?_append_right (by omega), ← List.getD_eq_getElem?_getD]
theorem getD_takeI {a : List Int} {n i : Nat} (h : i < n) : (a.take n).getD i 0 = a.getD i 0 := by
  rw [List.getD_eq_getElem?_getD, List.getElem?_take, if_pos h, ← List.getD_eq_getElem?_getD]
theorem getD_dropI {a : List Int} {n i : Nat} : (a.drop n).getD i 0 = a.getD (n + i) 0 := by
  rw [List.getD_eq_getElem?_getD, List.getElem?_drop, ← List.getD_eq_getElem?_getD]
/-- Bytes come: as many as there is room for, round the end. -/
theorem wdI_put {R : List Int} {fr : Nat} {L ys : List Int} (h : WdI R fr L) (hy : L.length + ys.length ≤ 1024) (hw : ∀ x ∈ ys, (Lit.int .u8 x).wf = true) : WdI (laid (laid R ((fr + L.length) % 1024) (ys.take (1024 - (fr + L.length) % 1024))) 0 (ys.drop (1024 - (fr + L.length) % 1024))) fr (L ++ ys) := by
  obtain ⟨h1, h2, h3, h4, h5⟩ := h
  obtain ⟨tq, hto⟩ : ∃ tq, (fr + L.length) % 1024 = tq := ⟨_, rfl⟩
  rw [hto]
  have ht : tq < 1024 := by omega
  have lt := List.length_take (i := 1024 - tq) (l := ys)
  have ld := List.length_drop (i := 1024 - tq) (l := ys)
  have l1 : (laid R tq (ys.take (1024 - tq))).length = 1024 := by rw [laid_len (by omega)]; exact h1
  have l2 : (laid (laid R tq (ys.take (1024 - tq))) 0 (ys.drop (1024 - tq))).length = 1024 := by rw [laid_len (by omega)]; exact l1
  refine ⟨l2, h2, by rw [List.length_append]; exact hy, fun i hi => ?_, fun x hx => ?_⟩
  · rw [List.length_append] at hi
    rw [laid_at (by omega), laid_at (by omega), getD_appI]
    rw [if_neg (by omega), Nat.zero_add, Nat.sub_zero]
    by_cases c : i < L.length
    · rw [if_pos c, ← h4 i c]
      rw [if_neg (by omega)]
      by_cases d : (fr + i) % 1024 < tq
      · rw [if_pos d]
      · rw [if_neg d, if_neg (by omega)]
    · rw [if_neg c]
      by_cases d : (fr + i) % 1024 < (ys.drop (1024 - tq)).length
      · by_cases e : fr + L.length + ys.length ≤ fr + L.length + (1024 - tq)
        · omega
        · rw [if_pos d, getD_dropI]
          congr 1; omega
      · rw [if_neg d]
        rw [if_neg (by omega), if_pos (by omega), getD_takeI (by omega)]
        congr 1; omega
  · rcases List.mem_append.1 hx with hx | hx
    · exact h5 x hx
    · exact hw x hx
/-- Bytes go. -/
theorem wdI_drop {R : List Int} {fr : Nat} {L : List Int} (h : WdI R fr L) {n : Nat} (hn : n ≤ L.length) : WdI R ((fr + n) % 1024) (L.drop n) := by
  obtain ⟨h1, h2, h3, h4, h5⟩ := h
  refine ⟨h1, by omega, by rw [List.length_drop]; omega, fun i hi => ?_, fun x hx => h5 x (List.mem_of_mem_drop hx)⟩
  rw [List.length_drop] at hi
  rw [getD_dropI, ← h4 (n + i) (by omega)]
  congr 1; omega
/-- All bytes, as two copies lay them. -/
theorem wdI_peek {R : List Int} {fr : Nat} {L : List Int} (h : WdI R fr L) : laid (laid (List.replicate L.length 0) 0 ((R.drop fr).take L.length)) (min (1024 - fr) L.length) (R.take (L.length - min (1024 - fr) L.length)) = L := by
  obtain ⟨h1, h2, h3, h4, h5⟩ := h
  have la : ((R.drop fr).take L.length).length = min (1024 - fr) L.length := by rw [List.length_take, List.length_drop]; omega
  have lb : (R.take (L.length - min (1024 - fr) L.length)).length = L.length - min (1024 - fr) L.length := by rw [List.length_take]; omega
  have lr : (List.replicate L.length (0 : Int)).length = L.length := List.length_replicate
  have l1 : (laid (List.replicate L.length 0) 0 ((R.drop fr).take L.length)).length = L.length := by rw [laid_len (by omega)]; exact lr
  have l2 := laid_len (R := laid (List.replicate L.length 0) 0 ((R.drop fr).take L.length)) (tq := min (1024 - fr) L.length) (ys := R.take (L.length - min (1024 - fr) L.length)) (by omega)
  refine List.ext_getElem (by omega) fun i q1 q2 => ?_
  have e := laid_at (R := laid (List.replicate L.length 0) 0 ((R.drop fr).take L.length)) (tq := min (1024 - fr) L.length) (ys := R.take (L.length - min (1024 - fr) L.length)) (by omega) i
  rw [List.getD_eq_getElem?_getD, List.getElem?_eq_getElem q1, Option.getD_some] at e
  rw [e]
  have hL := h4 i q2
  rw [List.getD_eq_getElem?_getD (l := L), List.getElem?_eq_getElem q2, Option.getD_some] at hL
  rw [← hL]
  by_cases c : i < min (1024 - fr) L.length
  · rw [if_pos c, laid_at (by omega), if_neg (by omega), if_pos (by omega), Nat.sub_zero, getD_takeI (by omega), getD_dropI]
    congr 1; omega
  · rw [if_neg c, if_pos (by omega), getD_takeI (by omega)]
    congr 1; omega

end Go.Proofs.Ytaladglmomhndaa
