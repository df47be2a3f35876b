/- What Hear keeps. -/
import Derived.Test.YtjeiclfdhdcfnaaGap3
import Derived.Test.YtjeiclfdhdcfnaaGap6
namespace Go.Proofs.Ytjeiclfdhdcfnaa
open Go.ChangeShapes Go.WideShapes Go.ChangeAt Go.RowKit
set_option linter.unusedVariables false
set_option linter.unusedSimpArgs false

def LnB (K : Int) (L : List Ln) : Prop := ∀ x ∈ L, (0 ≤ x.q ∧ x.q ≤ 255) ∧ (0 ≤ x.h ∧ x.h ≤ K) ∧ (0 ≤ x.l ∧ x.l ≤ 256 * K)
theorem LnB.ok {K : Int} {L : List Ln} (h : LnB K L) (hK : K ≤ 1000) : LnOk L := fun x hx => by
  obtain ⟨h1, h2, h3⟩ := h x hx
  exact ⟨h1, by omega, by omega⟩
theorem LnB.mono {K K2 : Int} {L : List Ln} (h : LnB K L) (hK : K ≤ K2) : LnB K2 L := fun x hx => by
  obtain ⟨h1, h2, h3⟩ := h x hx
  exact ⟨h1, by omega, by omega⟩
def ky (x : Ln) : Int × Int := (x.y, x.c)
theorem dist_iff {L : List Ln} : Dist L ↔ (L.map ky).Nodup := by
  unfold Dist List.Nodup
  rw [List.pairwise_map]
  constructor
  · intro h
    exact h.imp fun {a b} h1 h2 => h1 ⟨congrArg Prod.fst h2, congrArg Prod.snd h2⟩
  · intro h
    exact h.imp fun {a b} h1 h2 => h1 (Prod.ext h2.1 h2.2)
/-- A sender's line. -/
def fd (y c : Int) (L : List Ln) : Option Ln := (posG y c L 0).map (·.2)
theorem posG_shift (y c : Int) : ∀ (L : List Ln) (i : Nat), (posG y c L i).map (·.2) = fd y c L
  | [], i => rfl
  | x :: L, i => by
    unfold fd posG
    by_cases h : y = x.y ∧ c = x.c
    · rw [if_pos h, if_pos h]; rfl
    · rw [if_neg h, if_neg h, posG_shift y c L (i + 1), posG_shift y c L 1]
theorem fd_cons (y c : Int) (x : Ln) (L : List Ln) : fd y c (x :: L) = if y = x.y ∧ c = x.c then some x else fd y c L := by
  unfold fd
  rw [show posG y c (x :: L) 0 = if y = x.y ∧ c = x.c then some (0, x) else posG y c L 1 from rfl]
  split
  · rfl
  · exact posG_shift y c L 1
theorem fd_app (y c : Int) (x : Ln) : ∀ (L : List Ln), fd y c (L ++ [x]) = match fd y c L with | some z => some z | none => if y = x.y ∧ c = x.c then some x else none
  | [] => by rw [List.nil_append, fd_cons]; rfl
  | z :: L => by
    rw [List.cons_append, fd_cons, fd_cons, fd_app y c x L]
    split
    · rfl
    · rfl
theorem fd_set {y c : Int} {x : Ln} (hne : ¬ (y = x.y ∧ c = x.c)) : ∀ (L : List Ln) (k : Nat), (L[k]?.map ky = some (ky x)) → fd y c (L.set k x) = fd y c L
  | [], k, h => by simp at h
  | z :: L, 0, h => by
    have hz : ky z = ky x := by simpa using h
    have h1 : z.y = x.y := congrArg Prod.fst hz
    have h2 : z.c = x.c := congrArg Prod.snd hz
    rw [List.set_cons_zero, fd_cons, fd_cons, if_neg hne, if_neg (by rw [h1, h2]; exact hne)]
  | z :: L, k + 1, h => by
    rw [List.set_cons_succ, fd_cons, fd_cons, fd_set hne L k (by simpa using h)]
theorem pos_set {x : Ln} : ∀ {L : List Ln} {i : Nat} {r : Nat × Ln}, posG x.y x.c L i = some r → fd x.y x.c (L.set (r.1 - i) x) = some x
  | [], i, r, h => by cases h
  | z :: L, i, r, h => by
    unfold posG at h
    split at h
    · cases h
      rw [Nat.sub_self, List.set_cons_zero, fd_cons, if_pos ⟨rfl, rfl⟩]
    · rename_i h1
      have h2 := (posG_at h).1
      rw [show r.1 - i = (r.1 - (i + 1)) + 1 by omega, List.set_cons_succ, fd_cons, if_neg h1]
      exact pos_set h
theorem put_cases (x : Ln) (L : List Ln) : (fd x.y x.c L = none ∧ putG x L = L ++ [x]) ∨ ∃ k z, fd x.y x.c L = some z ∧ posG x.y x.c L 0 = some (k, z) ∧ putG x L = L.set k x ∧ L[k]?.map ky = some (ky x) := by
  unfold putG fd
  cases h : posG x.y x.c L 0 with
  | none => exact .inl ⟨rfl, rfl⟩
  | some r =>
    obtain ⟨-, h2, h3, h4⟩ := posG_at h
    rw [Nat.sub_zero] at h2
    exact .inr ⟨r.1, r.2, rfl, rfl, rfl, by rw [h2]; simp [ky, h3, h4]⟩
theorem put_same (x : Ln) (L : List Ln) : fd x.y x.c (putG x L) = some x := by
  rcases put_cases x L with ⟨h1, h2⟩ | ⟨k, z, h1, h2, h3, h4⟩
  · rw [h2, fd_app, h1]
    simp
  · rw [h3]
    have := pos_set h2
    simpa using this
theorem put_other {x : Ln} {L : List Ln} {y c : Int} (hne : ¬ (y = x.y ∧ c = x.c)) : fd y c (putG x L) = fd y c L := by
  rcases put_cases x L with ⟨h1, h2⟩ | ⟨k, z, h1, h2, h3, h4⟩
  · rw [h2, fd_app]
    cases fd y c L with
    | none => simp [hne]
    | some z => rfl
  · rw [h3]
    exact fd_set hne L k h4
theorem fd_none {y c : Int} {L : List Ln} (h : fd y c L = none) : ∀ x ∈ L, ¬ (x.y = y ∧ x.c = c) := by
  unfold fd at h
  exact posG_none (by simpa using h)
theorem put_dist {x : Ln} {L : List Ln} (hd : Dist L) : Dist (putG x L) := by
  rcases put_cases x L with ⟨h1, h2⟩ | ⟨k, z, h1, h2, h3, h4⟩
  · rw [h2]
    unfold Dist
    rw [List.pairwise_append]
    refine ⟨hd, List.pairwise_singleton _ _, fun a ha b hb => ?_⟩
    rw [List.mem_singleton.1 hb]
    exact fd_none h1 a ha
  · rw [h3, dist_iff]
    have e : (L.set k x).map ky = L.map ky := by
      rw [List.map_set]
      apply List.ext_getElem?
      intro i
      rw [List.getElem?_set]
      by_cases hk : k = i
      · subst hk
        rw [if_pos rfl]
        cases hL : L[k]? with
        | none => rw [hL] at h4; cases h4
        | some w =>
          rw [hL] at h4
          have hlt := (List.getElem?_eq_some_iff.1 hL).1
          rw [if_pos (by simpa using hlt), List.getElem?_map, hL]
          exact h4.symm
      · rw [if_neg hk]
    rw [e]
    exact dist_iff.1 hd
theorem put_mem {x z : Ln} {L : List Ln} (h : z ∈ putG x L) : z = x ∨ z ∈ L := by
  rcases put_cases x L with ⟨h1, h2⟩ | ⟨k, y, h1, h2, h3, h4⟩
  · rw [h2] at h
    rcases List.mem_append.1 h with h | h
    · exact .inr h
    · exact .inl (List.mem_singleton.1 h)
  · rw [h3] at h
    rcases List.mem_or_eq_of_mem_set h with h | h
    · exact .inr h
    · exact .inl h
theorem put_len {x : Ln} {L : List Ln} : (putG x L).length ≤ L.length + 1 ∧ (fd x.y x.c L ≠ none → (putG x L).length = L.length) := by
  rcases put_cases x L with ⟨h1, h2⟩ | ⟨k, y, h1, h2, h3, h4⟩
  · rw [h2]
    exact ⟨by simp, fun h => absurd h1 h⟩
  · rw [h3]
    exact ⟨by simp, fun _ => by simp⟩
theorem isB_bd {n : Int} (h : isB n = true) : 0 ≤ n ∧ n ≤ 255 := of_decide_eq_true h
theorem hear_keep {L : List Ln} {q y c K : Int} (hd : Dist L) (h16 : L.length ≤ 16) (hb : LnB K L) (hK : 0 ≤ K) : Dist (hearS L q y c).1 ∧ (hearS L q y c).1.length ≤ 16 ∧ LnB (K + 1) (hearS L q y c).1 := by
  by_cases hg : isB q = true ∧ isB y = true ∧ isB c = true
  · cases hp : posG y c L 0 with
    | none =>
      rw [hear_new hg hp]
      split
      · exact ⟨hd, h16, hb.mono (by omega)⟩
      · rename_i hl
        refine ⟨put_dist hd, by have := (put_len (x := ⟨y, c, q, 1, 0⟩) (L := L)).1; dsimp only; omega, ?_⟩
        intro x hx
        rcases put_mem hx with rfl | hx
        · exact ⟨isB_bd hg.1, ⟨by show (0 : Int) ≤ 1; omega, by show (1 : Int) ≤ _; omega⟩, ⟨Int.le_refl _, by show (0 : Int) ≤ _; omega⟩⟩
        · exact hb.mono (by omega) x hx
    | some r =>
      rw [hear_old hg hp]
      have hf : fd y c L ≠ none := by unfold fd; rw [hp]; simp
      obtain ⟨-, h2, h3, h4⟩ := posG_at hp
      rw [Nat.sub_zero] at h2
      obtain ⟨b1, b2, b3⟩ := hb r.2 (List.mem_of_getElem? h2)
      refine ⟨put_dist hd, by rw [(put_len (x := ⟨y, c, q, _, _⟩) (L := L)).2 hf]; exact h16, ?_⟩
      intro x hx
      rcases put_mem hx with rfl | hx
      · refine ⟨isB_bd hg.1, ?_, ?_⟩
        · show 0 ≤ r.2.h + 1 ∧ r.2.h + 1 ≤ K + 1
          omega
        · show 0 ≤ r.2.l + (q - r.2.q - 1 + 512) % 256 ∧ r.2.l + (q - r.2.q - 1 + 512) % 256 ≤ 256 * (K + 1)
          omega
      · exact hb.mono (by omega) x hx
  · rw [hear_no hg]
    exact ⟨hd, h16, hb.mono (by omega)⟩
theorem hear_other {L : List Ln} {q y c : Int} (hy : y ≠ 7) : fd 7 7 (hearS L q y c).1 = fd 7 7 L := by
  have ho : ∀ h l : Int, fd 7 7 (putG ⟨y, c, q, h, l⟩ L) = fd 7 7 L := fun h l => put_other (fun h => hy h.1.symm)
  by_cases hg : isB q = true ∧ isB y = true ∧ isB c = true
  · cases hp : posG y c L 0 with
    | none =>
      rw [hear_new hg hp]
      split
      · rfl
      · exact ho _ _
    | some r =>
      rw [hear_old hg hp]
      exact ho _ _
  · rw [hear_no hg]
theorem hear_seven {L : List Ln} {s n t u : Int} (hf : fd 7 7 L = some ⟨7, 7, s, n, t⟩) (hs : 0 ≤ s ∧ s ≤ 255) (hu : 0 ≤ u ∧ u ≤ 255) : (hearS L ((s + u + 1) % 256) 7 7).2 = (u, true) ∧ fd 7 7 (hearS L ((s + u + 1) % 256) 7 7).1 = some ⟨7, 7, (s + u + 1) % 256, n + 1, t + u⟩ := by
  have hg : isB ((s + u + 1) % 256) = true ∧ isB 7 = true ∧ isB 7 = true := ⟨decide_eq_true (by omega), by decide, by decide⟩
  unfold fd at hf
  cases hp : posG 7 7 L 0 with
  | none => rw [hp] at hf; cases hf
  | some r =>
    rw [hp] at hf
    obtain ⟨k, x⟩ := r
    have hx : x = ⟨7, 7, s, n, t⟩ := by simpa using hf
    subst hx
    rw [hear_old hg hp]
    have e : ((s + u + 1) % 256 - s - 1 + 512) % 256 = u := by omega
    dsimp only
    rw [e]
    exact ⟨rfl, put_same ⟨7, 7, (s + u + 1) % 256, n + 1, t + u⟩ L⟩
theorem fd_mem {y c : Int} {L : List Ln} {x : Ln} (h : fd y c L = some x) : x ∈ L ∧ x.y = y ∧ x.c = c := by
  unfold fd at h
  cases hp : posG y c L 0 with
  | none => rw [hp] at h; cases h
  | some r =>
    rw [hp] at h
    have hx : r.2 = x := by simpa using h
    obtain ⟨-, h2, h3, h4⟩ := posG_at hp
    rw [Nat.sub_zero, hx] at h2
    rw [hx] at h3 h4
    exact ⟨List.mem_of_getElem? h2, h3, h4⟩
theorem dist_one {L : List Ln} (hd : Dist L) {x z : Ln} (hx : x ∈ L) (hz : z ∈ L) (h : ky x = ky z) : x = z := by
  obtain ⟨j, hj⟩ := posG_self (i := 0) hd hx
  obtain ⟨k, hk⟩ := posG_self (i := 0) hd hz
  have h1 : x.y = z.y := congrArg Prod.fst h
  have h2 : x.c = z.c := congrArg Prod.snd h
  rw [h1, h2, hk] at hj
  exact (congrArg Prod.snd (Option.some.inj hj)).symm

end Go.Proofs.Ytjeiclfdhdcfnaa
