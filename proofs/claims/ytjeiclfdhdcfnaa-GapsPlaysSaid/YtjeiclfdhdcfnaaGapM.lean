/- The document's list: its lines stand by their senders (math only). -/
import Derived.Test.YtjeiclfdhdcfnaaGap9
import Derived.Test.YtjeiclfdhdcfnaaGap5
namespace Go.Proofs.Ytjeiclfdhdcfnaa
set_option linter.unusedVariables false
set_option linter.unusedSimpArgs false

theorem set_perm33 {z : Ln} (x : Ln) : ∀ {L : List Ln} {k : Nat}, L[k]? = some z → ∃ R, L.Perm (z :: R) ∧ (L.set k x).Perm (x :: R)
  | [], k, h => by simp at h
  | a :: L, 0, h => by
    simp at h
    subst h
    exact ⟨L, .refl _, by rw [List.set_cons_zero]⟩
  | a :: L, k + 1, h => by
    obtain ⟨R, h1, h2⟩ := set_perm33 x (L := L) (k := k) (by simpa using h)
    refine ⟨a :: R, (h1.cons a).trans (.swap _ _ _), ?_⟩
    rw [List.set_cons_succ]
    exact (h2.cons a).trans (.swap _ _ _)
theorem lt33_irr (x : Int × Int) : ¬ lt33 x x := by unfold lt33; omega
theorem lt33_tr {x y z : Int × Int} (h : lt33 x y) (k : lt33 y z) : lt33 x z := by unfold lt33 at *; omega
theorem lt33_tri {x y : Int × Int} (h : ¬ lt33 x y) (k : x ≠ y) : lt33 y x := by
  obtain ⟨a, b⟩ := x
  obtain ⟨c, d⟩ := y
  unfold lt33 at *
  dsimp only at *
  have : ¬ (a = c ∧ b = d) := fun ⟨h1, h2⟩ => k (by rw [h1, h2])
  omega
/-- Each line stands behind those of smaller senders. -/
def Srt (T : List Ln) : Prop := T.Pairwise (fun x z => lt33 (ky x) (ky z))
/-- Where a sender's line stands, or should stand. -/
def posL (y c : Int) : List Ln → Nat
  | [] => 0
  | x :: T => if lt33 (ky x) (y, c) then posL y c T + 1 else 0
theorem posL_le (y c : Int) : ∀ (T : List Ln), posL y c T ≤ T.length
  | [] => Nat.le_refl _
  | x :: T => by
    unfold posL
    split
    · have := posL_le y c T
      simp only [List.length_cons]
      omega
    · exact Nat.zero_le _
theorem posL_lt {y c : Int} : ∀ {T : List Ln} {i : Nat} {x : Ln}, i < posL y c T → T[i]? = some x → lt33 (ky x) (y, c)
  | [], i, x, h, hx => by simp at hx
  | z :: T, i, x, h, hx => by
    unfold posL at h
    split at h
    · rename_i hz
      cases i with
      | zero => simp at hx; subst hx; exact hz
      | succ i => exact posL_lt (T := T) (i := i) (by omega) (by simpa using hx)
    · omega
theorem posL_at {y c : Int} : ∀ {T : List Ln} {x : Ln}, T[posL y c T]? = some x → ¬ lt33 (ky x) (y, c)
  | [], x, hx => by simp at hx
  | z :: T, x, hx => by
    unfold posL at hx
    split at hx
    · exact posL_at (by simpa using hx)
    · simp at hx; subst hx; assumption
theorem posL_is {y c : Int} {T : List Ln} {k : Nat} (hk : k ≤ T.length) (h1 : ∀ i x, i < k → T[i]? = some x → lt33 (ky x) (y, c)) (h2 : ∀ x, T[k]? = some x → ¬ lt33 (ky x) (y, c)) : k = posL y c T := by
  rcases Nat.lt_trichotomy k (posL y c T) with h | h | h
  · exfalso
    have hl := posL_le y c T
    obtain ⟨x, hx⟩ : ∃ x, T[k]? = some x := ⟨_, List.getElem?_eq_getElem (by omega)⟩
    exact h2 x hx (posL_lt h hx)
  · exact h
  · exfalso
    obtain ⟨x, hx⟩ : ∃ x, T[posL y c T]? = some x := ⟨_, List.getElem?_eq_getElem (by omega)⟩
    exact posL_at hx (h1 _ x h hx)
theorem srt_idx {T : List Ln} (h : Srt T) {i j : Nat} {x z : Ln} (hij : i < j) (hx : T[i]? = some x) (hz : T[j]? = some z) : lt33 (ky x) (ky z) := by
  obtain ⟨hi, rfl⟩ := List.getElem?_eq_some_iff.1 hx
  obtain ⟨hj, rfl⟩ := List.getElem?_eq_some_iff.1 hz
  exact List.pairwise_iff_getElem.1 h i j hi hj hij
theorem posL_hit {y c : Int} {T : List Ln} (h : Srt T) {z : Ln} (hz : z ∈ T) (hk : ky z = (y, c)) : T[posL y c T]? = some z := by
  obtain ⟨j, hj, rfl⟩ := List.getElem_of_mem hz
  have hj2 := List.getElem?_eq_getElem hj
  have e : j = posL y c T := by
    refine posL_is (by omega) ?_ ?_
    · intro i x hi hx
      rw [← hk]
      exact srt_idx h hi hx hj2
    · intro x hx
      rw [hj2] at hx
      cases hx
      rw [hk]
      exact lt33_irr _
  rw [← e]
  exact hj2
/-- The document's answer. -/
def refH (T : List Ln) (q y c : Int) : List Ln × Int × Bool :=
  if isB q = true ∧ isB y = true ∧ isB c = true then
    match fd y c T with
    | some z => (T.set (posL y c T) ⟨y, c, q, z.h + 1, z.l + (q - z.q + 511) % 256⟩, (q - z.q + 511) % 256, true)
    | none => if 16 ≤ T.length then (T, 0, false) else (T.take (posL y c T) ++ ⟨y, c, q, 1, 0⟩ :: T.drop (posL y c T), 0, true)
  else (T, 0, false)
theorem ref_no {T : List Ln} {q y c : Int} (h : ¬ (isB q = true ∧ isB y = true ∧ isB c = true)) : refH T q y c = (T, 0, false) := if_neg h
theorem ref_old {T : List Ln} {q y c : Int} (h : isB q = true ∧ isB y = true ∧ isB c = true) {z : Ln} (hf : fd y c T = some z) : refH T q y c = (T.set (posL y c T) ⟨y, c, q, z.h + 1, z.l + (q - z.q + 511) % 256⟩, (q - z.q + 511) % 256, true) := by
  unfold refH; rw [if_pos h, hf]
theorem ref_new {T : List Ln} {q y c : Int} (h : isB q = true ∧ isB y = true ∧ isB c = true) (hf : fd y c T = none) : refH T q y c = if 16 ≤ T.length then (T, 0, false) else (T.take (posL y c T) ++ ⟨y, c, q, 1, 0⟩ :: T.drop (posL y c T), 0, true) := by
  unfold refH; rw [if_pos h, hf]
theorem srt_dist {T : List Ln} (h : Srt T) : Dist T := by
  unfold Dist
  refine h.imp ?_
  intro a b h1 h2
  have e : ky a = ky b := by unfold ky; rw [h2.1, h2.2]
  rw [e] at h1
  exact lt33_irr _ h1
theorem fd_perm {T L : List Ln} (hp : T.Perm L) (hd : Dist L) (hT : Dist T) (y c : Int) : fd y c T = fd y c L := by
  cases hL : fd y c L with
  | none =>
    cases hT2 : fd y c T with
    | none => rfl
    | some z =>
      obtain ⟨h1, h2, h3⟩ := fd_mem hT2
      exact absurd ⟨h2, h3⟩ (fd_none hL z (hp.mem_iff.1 h1))
  | some z =>
    obtain ⟨h1, h2, h3⟩ := fd_mem hL
    cases hT2 : fd y c T with
    | none => exact absurd ⟨h2, h3⟩ (fd_none hT2 z (hp.mem_iff.2 h1))
    | some x =>
      obtain ⟨k1, k2, k3⟩ := fd_mem hT2
      rw [dist_one hd (hp.mem_iff.1 k1) h1 (by unfold ky; rw [k2, k3, h2, h3])]
theorem srt_set {T : List Ln} (h : Srt T) {k : Nat} {x z : Ln} (hz : T[k]? = some z) (hk : ky x = ky z) : Srt (T.set k x) := by
  have e : (T.set k x).map ky = T.map ky := by
    rw [List.map_set]
    apply List.ext_getElem?
    intro i
    rw [List.getElem?_set]
    by_cases hki : k = i
    · subst hki
      rw [if_pos rfl]
      have hlt := (List.getElem?_eq_some_iff.1 hz).1
      rw [if_pos (by simpa using hlt), List.getElem?_map, hz, hk]
      rfl
    · rw [if_neg hki]
  have h2 : ∀ (S : List Ln), Srt S ↔ (S.map ky).Pairwise lt33 := fun S => by unfold Srt; rw [List.pairwise_map]
  rw [h2, e, ← h2]
  exact h
theorem srt_ins {T : List Ln} (h : Srt T) {x : Ln} (hf : fd x.y x.c T = none) : Srt (T.take (posL x.y x.c T) ++ x :: T.drop (posL x.y x.c T)) := by
  obtain ⟨k, hk⟩ : ∃ k, posL x.y x.c T = k := ⟨_, rfl⟩
  have hsp : T.take k ++ T.drop k = T := List.take_append_drop k T
  have h0 : Srt (T.take k ++ T.drop k) := by rw [hsp]; exact h
  obtain ⟨p1, p2, p3⟩ := List.pairwise_append.1 h0
  have hlt : ∀ a ∈ T.take k, lt33 (ky a) (ky x) := by
    intro a ha
    obtain ⟨i, hi, rfl⟩ := List.getElem_of_mem ha
    have hi2 : i < k := by have := hi; rw [List.length_take] at this; omega
    rw [List.getElem_take]
    exact posL_lt (y := x.y) (c := x.c) (by omega) (List.getElem?_eq_getElem _)
  have hge : ∀ b ∈ T.drop k, lt33 (ky x) (ky b) := by
    intro b hb
    obtain ⟨i, hi, rfl⟩ := List.getElem_of_mem hb
    rw [List.getElem_drop]
    have hlen : k + i < T.length := by rw [List.length_drop] at hi; omega
    have hb2 : T[k + i]? = some T[k + i] := List.getElem?_eq_getElem hlen
    have hkk : T[k]? = some T[k] := List.getElem?_eq_getElem (by omega)
    have hn : ¬ lt33 (ky T[k + i]) (ky x) := by
      intro hc
      have h9 : ¬ lt33 (ky T[k]) (ky x) := posL_at (y := x.y) (c := x.c) (by rw [hk]; exact hkk)
      rcases Nat.eq_zero_or_pos i with e | e
      · subst e
        exact h9 hc
      · exact h9 (lt33_tr (srt_idx h (by omega) hkk hb2) hc)
    refine lt33_tri hn ?_
    intro e
    have e1 : (T[k + i]).y = x.y := congrArg Prod.fst e
    have e2 : (T[k + i]).c = x.c := congrArg Prod.snd e
    exact fd_none hf _ (List.getElem_mem hlen) ⟨e1, e2⟩
  rw [hk]
  unfold Srt
  rw [List.pairwise_append, List.pairwise_cons]
  refine ⟨p1, ⟨hge, p2⟩, ?_⟩
  intro a ha b hb
  rcases List.mem_cons.1 hb with rfl | hb
  · exact hlt a ha
  · exact p3 a ha b hb
/-- The book and the document's list go together. -/
theorem hear_ref {T L : List Ln} (q y c : Int) (hp : T.Perm L) (hs : Srt T) (hd : Dist L) (h16 : L.length ≤ 16) (hq : ∀ x ∈ L, 0 ≤ x.q ∧ x.q ≤ 255) : (hearS L q y c).2 = (refH T q y c).2 ∧ (refH T q y c).1.Perm (hearS L q y c).1 ∧ Srt (refH T q y c).1 := by
  by_cases hB : isB q = true ∧ isB y = true ∧ isB c = true
  · have hff := fd_perm hp hd (srt_dist hs) y c
    cases hf : fd y c T with
    | none =>
      have hfL : fd y c L = none := hff.symm.trans hf
      have hpos : posG y c L 0 = none := by
        unfold fd at hfL
        simpa using hfL
      rw [ref_new hB hf, hear_new hB hpos]
      have hlen := hp.length_eq
      by_cases h : L.length = 16
      · rw [if_pos h, if_pos (by omega)]
        exact ⟨rfl, hp, hs⟩
      · rw [if_neg h, if_neg (by omega)]
        refine ⟨rfl, ?_, srt_ins (x := ⟨y, c, q, 1, 0⟩) hs hf⟩
        rcases put_cases ⟨y, c, q, 1, 0⟩ L with ⟨-, h2⟩ | ⟨k, z, h1, -⟩
        · rw [h2]
          refine List.perm_middle.trans ?_
          rw [List.take_append_drop]
          exact (hp.cons _).trans (List.perm_append_singleton _ _).symm
        · rw [show fd y c L = some z from h1] at hfL
          cases hfL
    | some z =>
      have hfL : fd y c L = some z := hff.symm.trans hf
      obtain ⟨m1, m2, m3⟩ := fd_mem hf
      have hz := posL_hit hs m1 (show ky z = (y, c) from by unfold ky; rw [m2, m3])
      obtain ⟨r, hr⟩ : ∃ r, posG y c L 0 = some r := by
        unfold fd at hfL
        cases h : posG y c L 0 with
        | none => rw [h] at hfL; cases hfL
        | some r => exact ⟨r, rfl⟩
      have hr2 : r.2 = z := by
        unfold fd at hfL
        rw [hr] at hfL
        exact Option.some.inj hfL
      have hrL := (posG_at hr).2.1
      rw [Nat.sub_zero, hr2] at hrL
      rw [ref_old hB hf, hear_old hB hr, hr2]
      have hq2 := hq z (hp.mem_iff.1 m1)
      have hqb := isB_bd hB.1
      have e : (q - z.q - 1 + 512) % 256 = (q - z.q + 511) % 256 := by
        rw [show q - z.q - 1 + 512 = q - z.q + 511 by omega]
      rw [e]
      refine ⟨rfl, ?_, srt_set hs hz (by unfold ky; rw [m2, m3])⟩
      have e2 : putG ⟨y, c, q, z.h + 1, z.l + (q - z.q + 511) % 256⟩ L = L.set r.1 ⟨y, c, q, z.h + 1, z.l + (q - z.q + 511) % 256⟩ := by
        unfold putG
        rw [show posG (Ln.mk y c q (z.h + 1) (z.l + (q - z.q + 511) % 256)).y (Ln.mk y c q (z.h + 1) (z.l + (q - z.q + 511) % 256)).c L 0 = some r from hr]
      rw [e2]
      obtain ⟨R1, a1, a2⟩ := set_perm33 ⟨y, c, q, z.h + 1, z.l + (q - z.q + 511) % 256⟩ hz
      obtain ⟨R2, b1, b2⟩ := set_perm33 ⟨y, c, q, z.h + 1, z.l + (q - z.q + 511) % 256⟩ hrL
      have hR : R1.Perm R2 := List.Perm.cons_inv ((a1.symm.trans hp).trans b1)
      exact (a2.trans (hR.cons _)).trans b2.symm
  · rw [hear_no hB, ref_no hB]
    exact ⟨rfl, hp, hs⟩
/-- All is the document's list. -/
theorem all_ref {T L S : List Ln} (hp : T.Perm L) (hs : Srt T) (hd : Dist L) (hS : S.Perm L) (hSs : S.Pairwise (fun x z => ¬ lt33 (z.y, z.c) (x.y, x.c))) : S = T := by
  have hdS : Dist S := dist_iff.2 ((hS.map ky).nodup_iff.2 (dist_iff.1 hd))
  have hs2 : Srt S := by
    unfold Srt
    refine (hSs.and hdS).imp ?_
    rintro a b ⟨h1, h2⟩
    refine lt33_tri h1 ?_
    intro e
    exact h2 ⟨(congrArg Prod.fst e).symm, (congrArg Prod.snd e).symm⟩
  exact List.Perm.eq_of_pairwise (le := fun x z => lt33 (ky x) (ky z)) (fun a b _ _ h k => absurd (lt33_tr h k) (lt33_irr _)) hs2 hs (hS.trans hp.symm)
end Go.Proofs.Ytjeiclfdhdcfnaa
