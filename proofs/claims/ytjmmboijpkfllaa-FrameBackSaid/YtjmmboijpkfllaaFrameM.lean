/- Frames: what is put is taken, what is taken is put, what is told stays. -/
import Derived.Test.YtjmmboijpkfllaaFrame3
import Derived.Deep.DeepCutAuto
namespace Go.Proofs.Ytjmmboijpkfllaa
open Go.ChangeShapes Go.WideShapes Go.ChangeAt Go.RowKit
set_option linter.unusedVariables false

theorem putFr_bad {c i : Int} {zs L : List Int} {e : Int} (h : putFr c i zs = (L, e)) (he : e ≠ 0) : L = [] := by
  unfold putFr at h
  split at h
  · split at h
    · simp at h; exact h.1
    · simp at h; omega
  · simp at h; exact h.1
theorem takFr_bad {b : List Int} {f : Int × Int × List Int} {k e : Int} (h : takFr b = (f, k, e)) (he : e ≠ 0) : f = (0, 0, []) ∧ k = 0 := by
  unfold takFr at h
  split at h
  · simp at h; exact ⟨h.1.symm, by omega⟩
  split at h
  · simp at h; exact ⟨h.1.symm, by omega⟩
  split at h
  · simp at h; exact ⟨h.1.symm, by omega⟩
  split at h
  · simp at h; exact ⟨h.1.symm, by omega⟩
  split at h
  · simp at h; omega
  · simp at h; exact ⟨h.1.symm, by omega⟩
theorem takFr_e (b : List Int) : 0 ≤ (takFr b).2.2 ∧ (takFr b).2.2 ≤ 9 := by
  unfold takFr
  repeat' split
  all_goals simp
theorem takFr_bd {b : List Int} (hb : ∀ n ∈ b, 0 ≤ n ∧ n ≤ 255) : ∀ n ∈ (takFr b).1.2.2, 0 ≤ n ∧ n ≤ 255 := by
  unfold takFr
  repeat' split
  all_goals first
    | (intro n hn; exact hb n (List.mem_of_mem_drop (List.mem_of_mem_take hn)))
    | simp
theorem put_takF {c i : Int} {zs L : List Int} (h : putFr c i zs = (L, 0)) (more : List Int) : takFr (L ++ more) = ((c, i, zs), (zs.length : Int) + 8, 0) ∧ L.length = zs.length + 8 ∧ zs.length ≤ 1016 := by
  unfold putFr at h
  split at h
  case isFalse => simp at h
  split at h
  case isTrue => simp at h
  rename_i hcb hn
  simp only [Prod.mk.injEq, and_true] at h
  subst h
  obtain ⟨⟨p, q⟩, hs⟩ : ∃ r, flS 0 0 (inFr c i zs) = r := ⟨_, rfl⟩
  have hL : [181, 98] ++ sealS (inFr c i zs) ++ more = 181 :: 98 :: c :: i :: ((zs.length : Int) % 256) :: ((zs.length : Int) / 256) :: (zs ++ p :: q :: more) := by
    unfold sealS; rw [hs]; simp [inFr]
  rw [hL]
  refine ⟨?_, by simp [sealS, inFr], by omega⟩
  have hv : (zs.length : Int) % 256 + 256 * ((zs.length : Int) / 256) = (zs.length : Int) := by omega
  unfold takFr
  simp only [List.getD_cons_zero, List.getD_cons_succ, hv, Int.toNat_natCast]
  rw [if_neg (by simp), if_neg (by simp), if_neg (by omega), if_neg (by simp; omega)]
  have e1 : ((181 :: 98 :: c :: i :: ((zs.length : Int) % 256) :: ((zs.length : Int) / 256) :: (zs ++ p :: q :: more)).drop 2).take (zs.length + 4) = inFr c i zs := by simp [inFr]
  have e2 : ((181 :: 98 :: c :: i :: ((zs.length : Int) % 256) :: ((zs.length : Int) / 256) :: (zs ++ p :: q :: more)).drop 2).take (zs.length + 6) = inFr c i zs ++ [p, q] := by
    simp [inFr, List.take_append, show zs.length + 2 - zs.length = 2 from by omega]
    exact List.take_of_length_le (by omega)
  rw [if_pos (by rw [e1, e2]; unfold sealS; rw [hs])]
  simp
theorem inFr_o (zs : List Int) (N : Nat) (h6 : 6 ≤ zs.length) (hN : zs.getD 4 0 + 256 * zs.getD 5 0 = (N : Int)) (hl : N + 8 ≤ zs.length) (b4 : 0 ≤ zs.getD 4 0 ∧ zs.getD 4 0 ≤ 255) (b5 : 0 ≤ zs.getD 5 0) : inFr (zs.getD 2 0) (zs.getD 3 0) ((zs.drop 6).take N) = (zs.drop 2).take (N + 4) := by
  match zs, h6 with
  | a0 :: a1 :: a2 :: a3 :: a4 :: a5 :: r, _ =>
    simp only [List.getD_cons_zero, List.getD_cons_succ] at *
    have hr : N ≤ r.length := by simp at hl; omega
    have hq : (r.take N).length = N := by rw [List.length_take]; omega
    show [a2, a3, ((r.take N).length : Int) % 256, ((r.take N).length : Int) / 256] ++ r.take N = (a2 :: a3 :: a4 :: a5 :: r).take (N + 4)
    rw [hq]
    simp
    omega
theorem front2 (zs : List Int) (N : Nat) (h6 : 6 ≤ zs.length) (h0 : zs.getD 0 181 = 181) (h1 : zs.getD 1 98 = 98) : [181, 98] ++ (zs.drop 2).take (N + 6) = zs.take (N + 8) := by
  match zs, h6 with
  | a0 :: a1 :: r, _ =>
    simp only [List.getD_cons_zero, List.getD_cons_succ] at *
    subst h0 h1
    simp
theorem take_putF {b : List Int} {c i k : Int} {P : List Int} (h : takFr b = ((c, i, P), k, 0)) (hb : ∀ n ∈ b, 0 ≤ n ∧ n ≤ 255) : ∃ K : Nat, k = (K : Int) ∧ putFr c i P = (b.take K, 0) ∧ K ≤ b.length ∧ 8 ≤ K ∧ P.length ≤ 1016 := by
  have hg : ∀ j, 0 ≤ b.getD j 0 ∧ b.getD j 0 ≤ 255 := fun j => getD_bd hb j
  unfold takFr at h
  split at h
  · simp at h
  rename_i n0
  split at h
  · simp at h
  rename_i n1
  split at h
  · simp at h
  rename_i n2
  split at h
  · simp at h
  rename_i n3
  split at h
  case isFalse => simp at h
  rename_i n4
  have h4 := hg 4
  have h5 := hg 5
  obtain ⟨N, hN⟩ := Int.eq_ofNat_of_zero_le (show 0 ≤ b.getD 4 0 + 256 * b.getD 5 0 by omega)
  rw [hN] at h n2 n3 n4
  simp only [Int.toNat_natCast, Prod.mk.injEq, and_true] at h n4
  obtain ⟨⟨rfl, rfl, rfl⟩, rfl⟩ := h
  have i0 : b.getD 0 181 = 181 := by apply Classical.byContradiction; intro hh; exact n0 (.inl hh)
  have i1 : b.getD 1 98 = 98 := by apply Classical.byContradiction; intro hh; exact n0 (.inr hh)
  have hPl : ((b.drop 6).take N).length = N := by rw [List.length_take, List.length_drop]; omega
  have hIn := inFr_o b N (by omega) hN (by omega) h4 h5.1
  refine ⟨N + 8, by omega, ?_, by omega, by omega, by omega⟩
  unfold putFr isB
  rw [if_pos (by have g2 := hg 2; have g3 := hg 3; simp only [Bool.and_eq_true, decide_eq_true_eq]; omega), if_neg (by rw [hPl]; omega), hIn, n4, front2 b N (by omega) i0 i1]
theorem steadyF {b : List Int} {f : Int × Int × List Int} {m e : Int} (h : takFr b = (f, m, e)) (he : e ≠ 2) (hb : ∀ n ∈ b, 0 ≤ n ∧ n ≤ 255) (more : List Int) : takFr (b ++ more) = (f, m, e) := by
  have hg : ∀ j, 0 ≤ b.getD j 0 ∧ b.getD j 0 ≤ 255 := fun j => getD_bd hb j
  have gl : ∀ (j : Nat) (d : Int), j < b.length → (b ++ more).getD j d = b.getD j d := by
    intro j d hj
    simp [List.getElem?_append_left hj]
  have g0 : ∀ (j : Nat) (d : Int), b.getD j d ≠ d → j < b.length := by
    intro j d hd
    apply Classical.byContradiction
    intro hj
    apply hd
    simp [List.getElem?_eq_none (Nat.le_of_not_lt hj)]
  unfold takFr at h
  split at h
  · rename_i n0
    unfold takFr
    rw [if_pos, ← h]
    rcases n0 with n0 | n0
    · left; rw [gl _ _ (g0 _ _ n0)]; exact n0
    · right; rw [gl _ _ (g0 _ _ n0)]; exact n0
  rename_i n0
  split at h
  · simp at h; omega
  rename_i n1
  unfold takFr
  rw [gl 0 _ (by omega), gl 1 _ (by omega), gl 2 _ (by omega), gl 3 _ (by omega), gl 4 _ (by omega), gl 5 _ (by omega), if_neg n0, if_neg (by rw [List.length_append]; omega)]
  split at h
  · rename_i n2; rw [if_pos n2]; exact h
  rename_i n2
  rw [if_neg n2]
  split at h
  · simp at h; omega
  rename_i n3
  rw [if_neg (by rw [List.length_append]; omega)]
  have h4 := hg 4
  have h5 := hg 5
  obtain ⟨N, hN⟩ := Int.eq_ofNat_of_zero_le (show 0 ≤ b.getD 4 0 + 256 * b.getD 5 0 by omega)
  rw [hN] at h n3 ⊢
  simp only [Int.toNat_natCast] at h ⊢
  have d2 : ∀ k, k ≤ N + 6 → ((b ++ more).drop 2).take k = (b.drop 2).take k := by
    intro k hk
    rw [List.drop_append_of_le_length (by omega), List.take_append_of_le_length (by rw [List.length_drop]; omega)]
  have d6 : ((b ++ more).drop 6).take N = (b.drop 6).take N := by
    rw [List.drop_append_of_le_length (by omega), List.take_append_of_le_length (by rw [List.length_drop]; omega)]
  rw [d2 _ (by omega), d2 _ (by omega), d6]
  exact h

end Go.Proofs.Ytjmmboijpkfllaa
