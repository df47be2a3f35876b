/- What package valset puts, it takes as it was; and back. -/
import Derived.Test.YtdgmmndklmomkaaVal7
import Derived.Test.YtdgmmndklmomkaaVal8
import Derived.Deep.DeepCutAuto
namespace Go.Proofs.Ytdgmmndklmomkaa
open Go.ChangeShapes Go.WideShapes Go.ChangeAt Go.RowKit
set_option linter.unusedVariables false
set_option linter.unusedSimpArgs false

theorem put_numB {n : Nat} {bs : List Int} (hl : bs.length = n) (hb : ∀ x ∈ bs, 0 ≤ x ∧ x ≤ 255) : bytesL ((numB bs n : Nat) : Int) n = bs := by
  have hg := fun i => getD_bd hb i
  have hg2 : ∀ i, (bs.getD i 0).toNat ≤ 255 := fun i => by have := hg i; omega
  refine List.ext_getElem (by rw [bytesL_len, hl]) fun i hi1 hi2 => ?_
  rw [bytesL_len] at hi1
  have e1 := bytesL_get ((numB bs n : Nat) : Int) n i hi1
  rw [List.getD_eq_getElem?_getD, List.getElem?_eq_getElem (by rw [bytesL_len]; exact hi1)] at e1
  simp only [Option.getD_some] at e1
  rw [e1]
  have e2 := numB_dig hg2 n i hi1
  generalize numB bs n = Y at *
  have e3 := hg i
  have e4 : bs.getD i 0 = bs[i] := by simp [hi2]
  rw [e4] at e2 e3
  have e5 : (2 : Int) ^ (8 * i) = ((256 ^ i : Nat) : Int) := by rw [Int.pow_mul]; simp
  rw [e5]
  have e6 : ((Y : Int) / ((256 ^ i : Nat) : Int) % 256) = ((Y / 256 ^ i % 256 : Nat) : Int) := by simp
  rw [e6, e2]
  omega
theorem okK_spec {x : Int × Int} (h : okK x = 0) : kindS x.1 ≠ 0 ∧ 0 ≤ x.2 ∧ x.2 ≤ moT (kindS x.1) := by
  unfold okK at h
  by_cases h1 : kindS x.1 = 0
  · rw [if_pos h1] at h; simp at h
  · rw [if_neg h1] at h
    by_cases h2 : x.2 < 0 ∨ moT (kindS x.1) < x.2
    · rw [if_pos h2] at h; simp at h
    · exact ⟨h1, by omega, by omega⟩
theorem errS_ok : ∀ {l : List (Int × Int)}, errS l = 0 → ∀ x ∈ l, okK x = 0
  | y :: l, h => by
    unfold errS at h
    by_cases c : okK y = 0
    · rw [if_pos c] at h
      intro x hx
      rcases List.mem_cons.1 hx with rfl | hx
      · exact c
      · exact errS_ok h x hx
    · rw [if_neg c] at h; exact absurd h c
  | [], _ => fun x hx => by cases hx
theorem errS_bd {l : List (Int × Int)} (h : errS l = 0) : ∀ x ∈ l, (-9223372036854775808 ≤ x.1 ∧ x.1 ≤ 9223372036854775807) ∧ (-9223372036854775808 ≤ x.2 ∧ x.2 ≤ 9223372036854775807) := by
  intro x hx
  obtain ⟨h1, h2, h3⟩ := okK_spec (errS_ok h x hx)
  have h4 := kind_bd h1
  have h5 := sz_mo h1 (kindS_le _)
  omega
theorem fit_of {v : Int} {n : Nat} (h1 : 1 ≤ n) (h8 : n ≤ 8) (h : v < 256 ^ n) : fitU (n : Int) v = true := by
  unfold fitU
  exact decide_eq_true ⟨by omega, by omega, by simpa using h⟩
theorem pair_put {x : Int × Int} (R : List Int) (h : okK x = 0) : pairS (pB x ++ R) = (x, 0) ∧ (pB x ++ R).drop (pairN (pB x ++ R)) = R ∧ 4 ≤ (pB x ++ R).length := by
  obtain ⟨h1, h2, h3⟩ := okK_spec h
  have h4 := kind_bd h1
  have h5 := sz_mo h1 (kindS_le _)
  obtain ⟨x1, x2⟩ := x
  dsimp only at *
  obtain ⟨s, hs⟩ : ∃ s : Nat, szT (kindS x1) = s := ⟨(szT (kindS x1)).toNat, by omega⟩
  have e0 : pB (x1, x2) ++ R = bytesL x1 4 ++ (bytesL x2 s ++ R) := by
    unfold pB; dsimp only; rw [hs, List.append_assoc]; rfl
  have k1 := read_u x1 4 (by omega) (fit_of (n := 4) (by omega) (by omega) (by simp; omega)) (bytesL x2 s ++ R)
  rw [hs] at h5
  have hs2 : ((s : Int)).toNat = s := by omega
  rw [hs2] at h5
  have k2 := read_u x2 s h2 (fit_of (n := s) (by omega) (by omega) (by omega)) R
  rw [hs2] at k2
  change ((numB ((bytesL x1 4 ++ (bytesL x2 s ++ R)).take 4) 4 : Nat) : Int) = x1 ∧ (bytesL x1 4 ++ (bytesL x2 s ++ R)).drop 4 = bytesL x2 s ++ R at k1
  rw [e0]
  have hl : (bytesL x1 4 ++ (bytesL x2 s ++ R)).length = 4 + (s + R.length) := by simp [bytesL_len]
  have hk : keyS (bytesL x1 4 ++ (bytesL x2 s ++ R)) = x1 := k1.1
  have hn : pairN (bytesL x1 4 ++ (bytesL x2 s ++ R)) = 4 + s := by unfold pairN; rw [hk, hs]; rfl
  have hv : valS (bytesL x1 4 ++ (bytesL x2 s ++ R)) = x2 := by unfold valS; rw [hk, hs, k1.2]; exact k2.1
  refine ⟨?_, ?_, by omega⟩
  · unfold pairS
    rw [if_neg (by omega), hk, if_neg h1, if_neg (by omega), hv, if_neg (by omega)]
  · rw [hn, ← List.drop_drop, k1.2, k2.2]
theorem tkS_put : ∀ (l : List (Int × Int)) (f : Nat) (acc : List (Int × Int)), errS l = 0 → acc.length + l.length ≤ 32 → l.length < f → tkS f (catS l) acc = (acc ++ l, 0)
  | [], 0, _, _, _, h => by simp at h
  | [], f + 1, acc, _, _, _ => by
    unfold tkS
    rw [if_pos (by simp [catS]), List.append_nil]
  | x :: l, 0, _, _, _, h => by simp at h
  | x :: l, f + 1, acc, he, hl, hf => by
    have ho := errS_ok he x (by simp)
    have he2 : errS l = 0 := by unfold errS at he; rw [if_pos ho] at he; exact he
    have hc : catS (x :: l) = pB x ++ catS l := by unfold catS; rw [List.flatMap_cons]
    obtain ⟨p1, p2, p3⟩ := pair_put (catS l) ho
    rw [hc]
    simp only [List.length_cons] at hl hf
    unfold tkS
    rw [if_neg (by omega), if_neg (by omega), p1, if_neg (by simp), p2, tkS_put l f (acc ++ [x]) he2 (by simp; omega) (by omega)]
    simp
theorem pair_take {zs : List Int} (hb : ∀ x ∈ zs, 0 ≤ x ∧ x ≤ 255) (h : (pairS zs).2 = 0) : pB (pairS zs).1 ++ zs.drop (pairN zs) = zs ∧ okK (pairS zs).1 = 0 := by
  obtain ⟨h1, h2, h3, h4, h5⟩ := pairS_ok h
  rw [h5]
  clear h5 h
  have s1 := sz_mo h2 (kindS_le _)
  have e1 : bytesL (keyS zs) 4 = zs.take 4 := put_numB (by rw [List.length_take]; omega) (fun x hx => hb x (List.mem_of_mem_take hx))
  unfold pairN at h3
  have hv0 : 0 ≤ valS zs := by unfold valS; omega
  have e2 : bytesL (valS zs) (szT (kindS (keyS zs))).toNat = (zs.drop 4).take (szT (kindS (keyS zs))).toNat := put_numB (by rw [List.length_take, List.length_drop]; omega) (fun x hx => hb x (List.mem_of_mem_drop (List.mem_of_mem_take hx)))
  refine ⟨?_, okK_ok h2 hv0 h4⟩
  unfold pB pairN
  dsimp only
  rw [e1, e2, ← List.drop_drop, List.append_assoc, List.take_append_drop, List.take_append_drop]
theorem tkS_take : ∀ (f : Nat) (zs : List Int) (acc l : List (Int × Int)), (∀ x ∈ zs, 0 ≤ x ∧ x ≤ 255) → tkS f zs acc = (l, 0) → acc.length ≤ 32 → 33 ≤ f + acc.length → ∃ r, l = acc ++ r ∧ catS r = zs ∧ errS r = 0 ∧ l.length ≤ 32
  | 0, _, _, _, _, _, h1, h2 => by omega
  | f + 1, zs, acc, l, hb, h, h1, h2 => by
    unfold tkS at h
    by_cases c1 : zs.length = 0
    · rw [if_pos c1] at h
      obtain rfl : acc = l := congrArg Prod.fst h
      obtain rfl : zs = [] := List.length_eq_zero_iff.1 c1
      exact ⟨[], by simp, rfl, rfl, h1⟩
    · rw [if_neg c1] at h
      by_cases c2 : acc.length = 32
      · rw [if_pos c2] at h; exact absurd (congrArg Prod.snd h) (by simp)
      · rw [if_neg c2] at h
        by_cases c3 : (pairS zs).2 ≠ 0
        · rw [if_pos c3] at h; exact absurd (congrArg Prod.snd h) c3
        · rw [if_neg c3] at h
          have c4 : (pairS zs).2 = 0 := Decidable.not_not.1 c3
          obtain ⟨p1, p2⟩ := pair_take hb c4
          obtain ⟨r, r1, r2, r3, r4⟩ := tkS_take f _ _ l (fun x hx => hb x (List.mem_of_mem_drop hx)) h (by simp; omega) (by simp; omega)
          refine ⟨(pairS zs).1 :: r, by rw [r1]; simp, ?_, ?_, r4⟩
          · unfold catS at r2 ⊢
            rw [List.flatMap_cons, r2, p1]
          · unfold errS; rw [if_pos p2, r3]
theorem putVS_bad {layers : Int} {l : List (Int × Int)} {s : List Int} {e : Int} (h : putVS layers l = (s, e)) (he : e ≠ 0) : s = [] := by
  unfold putVS at h
  split at h
  · exact (congrArg Prod.fst h).symm
  · split at h
    · exact (congrArg Prod.fst h).symm
    · split at h
      · exact absurd (congrArg Prod.snd h).symm he
      · exact (congrArg Prod.fst h).symm
theorem putVS_bd (layers : Int) (l : List (Int × Int)) : (putVS layers l).1.length ≤ 10000 ∧ ∀ x ∈ (putVS layers l).1, 0 ≤ x ∧ x ≤ 255 := by
  unfold putVS
  split
  · simp
  · rename_i hl
    obtain ⟨⟨hb, he⟩, hr⟩ : ∃ r, putL HL [0, layers, 0] = r := ⟨_, rfl⟩
    have h0 := put_len hr (by decide)
    rw [hr]
    dsimp only
    split
    · simp
    · split
      · have hc := catS_len l
        refine ⟨by rw [List.length_append]; omega, fun x hx => ?_⟩
        rcases List.mem_append.1 hx with hx | hx
        · exact h0.2 x hx
        · obtain ⟨y, _, hy⟩ := List.mem_flatMap.1 hx
          rcases List.mem_append.1 hy with hy | hy
          · exact bytesL_bd _ _ x hy
          · exact bytesL_bd _ _ x hy
      · simp
theorem putVS_e (layers : Int) (l : List (Int × Int)) : 0 ≤ (putVS layers l).2 ∧ (putVS layers l).2 ≤ 9 := by
  have h1 := putF_e (fN HL) (fS HL) (fL HL) (fH HL) HL.length [0, layers, 0]
  change 0 ≤ (putL HL [0, layers, 0]).2 ∧ (putL HL [0, layers, 0]).2 ≤ 9 at h1
  have h2 := errS_e l
  unfold putVS
  split
  · simp
  · split
    · exact h1
    · split
      · simp
      · exact ⟨h2.1, by omega⟩
theorem takVS_e (bs : List Int) : 0 ≤ (takVS bs).2.2 ∧ (takVS bs).2.2 ≤ 9 := by
  have h1 := takF_e (fN HL) (fS HL) (fL HL) (fH HL) HL.length (bs.take 4)
  change 0 ≤ (takL HL (bs.take 4)).2 ∧ (takL HL (bs.take 4)).2 ≤ 9 at h1
  have h2 : ∀ f zs acc, 0 ≤ (tkS f zs acc).2 ∧ (tkS f zs acc).2 ≤ 9 := by
    intro f
    induction f with
    | zero => intro zs acc; simp [tkS]
    | succ f ih =>
      intro zs acc
      have := pairS_e zs
      unfold tkS
      split
      · simp
      · split
        · simp
        · split
          · exact ⟨this.1, by omega⟩
          · exact ih _ _
  unfold takVS
  split
  · simp
  · split
    · exact h1
    · split
      · exact h2 _ _ _
      · simp
theorem takVS_bad {bs : List Int} (h : (takVS bs).2.2 ≠ 0) : takVS bs = (0, [], (takVS bs).2.2) := by
  unfold takVS at *
  split
  · rfl
  · rename_i c1
    rw [if_neg c1] at h
    split
    · rfl
    · rename_i c2
      rw [if_neg c2] at h
      split
      · rfl
      · rename_i c3
        rw [if_neg c3] at h
        simp at h
theorem put_takV {layers : Int} {l : List (Int × Int)} {s : List Int} (h : putVS layers l = (s, 0)) : takVS s = (layers, l, 0) := by
  unfold putVS at h
  split at h
  · exact absurd (congrArg Prod.snd h) (by simp)
  · rename_i hl
    obtain ⟨⟨hb, he⟩, hr⟩ : ∃ r, putL HL [0, layers, 0] = r := ⟨_, rfl⟩
    rw [hr] at h
    dsimp only at h
    split at h
    · rename_i c; exact absurd (congrArg Prod.snd h) c
    · rename_i c
      obtain rfl : he = 0 := Decidable.not_not.1 c
      split at h
      · rename_i c2
        obtain ⟨t1, t2⟩ := put_take hr
        have hw : widthS (fN HL) (fS HL) (fL HL) (fH HL) HL.length = 4 := by decide +kernel
        have h4 : hb.length = 4 := by have := hw.symm.trans t2; omega
        obtain rfl : hb ++ catS l = s := congrArg Prod.fst h
        have e1 : (hb ++ catS l).take 4 = hb := List.take_left' h4
        have e2 : (hb ++ catS l).drop 4 = catS l := List.drop_left' h4
        have t3 : takL HL hb = ([0, layers, 0], 0) := t1
        unfold takVS
        rw [e1, e2, t3, if_neg (by rw [List.length_append]; omega), if_neg (by simp), tkS_put l 33 [] c2 (by simp; omega) (by omega), if_neg (by simp)]
        rfl
      · rename_i c2; exact absurd (congrArg Prod.snd h) c2
theorem take_putV {bs : List Int} (hb : ∀ x ∈ bs, 0 ≤ x ∧ x ≤ 255) {layers : Int} {l : List (Int × Int)} (h : takVS bs = (layers, l, 0)) : putVS layers l = (bs, 0) ∧ (-9223372036854775808 ≤ layers ∧ layers ≤ 9223372036854775807) ∧ errS l = 0 ∧ l.length ≤ 32 := by
  unfold takVS at h
  split at h
  · exact absurd (congrArg (fun r => r.2.2) h) (by simp)
  · rename_i c1
    obtain ⟨⟨P, pe⟩, hp⟩ : ∃ r, takL HL (bs.take 4) = r := ⟨_, rfl⟩
    rw [hp] at h
    dsimp only at h
    split at h
    · rename_i c2; exact absurd (congrArg (fun r => r.2.2) h) c2
    · rename_i c2
      obtain rfl : pe = 0 := Decidable.not_not.1 c2
      obtain ⟨⟨L, te⟩, ht⟩ : ∃ r, tkS 33 (bs.drop 4) [] = r := ⟨_, rfl⟩
      rw [ht] at h
      dsimp only at h
      split at h
      · rename_i c3; exact absurd (congrArg (fun r => r.2.2) h) c3
      · rename_i c3
        obtain rfl : te = 0 := Decidable.not_not.1 c3
        obtain rfl : P.getD 1 0 = layers := congrArg Prod.fst h
        obtain rfl : L = l := congrArg (fun r => r.2.1) h
        obtain ⟨r, r1, r2, r3, r4⟩ := tkS_take 33 _ _ L (fun x hx => hb x (List.mem_of_mem_drop hx)) ht (by simp) (by simp)
        obtain rfl : L = r := by simpa using r1
        have hP := take_put hp (fun x hx => hb x (List.mem_of_mem_take hx))
        have hbd := tak_bd hp
        obtain ⟨_, _, hi, hPe⟩ := tak_spec hp
        have i0 := inV_at hi (k := 0) (by decide)
        have i2 := inV_at hi (k := 2) (by decide)
        obtain ⟨p0, p1, p2, rfl⟩ := list3 (show P.length = 3 from hP.2)
        have g0 : p0 = numAt (fN HL) (fS HL) (bs.take 4) 0 := congrArg (fun z => z.getD 0 0) hPe
        have g2 : p2 = numAt (fN HL) (fS HL) (bs.take 4) 2 := congrArg (fun z => z.getD 2 0) hPe
        rw [← g0] at i0
        rw [← g2] at i2
        obtain rfl : p0 = 0 := by have a : fL HL 0 = 0 := rfl; have b : fH HL 0 = 0 := rfl; omega
        obtain rfl : p2 = 0 := by have a : fL HL 2 = 0 := rfl; have b : fH HL 2 = 0 := rfl; omega
        have e1 : putL HL [0, p1, 0] = (bs.take 4, 0) := hP.1
        have bd1 := hbd p1 (by simp)
        refine ⟨?_, by simpa using bd1, r3, r4⟩
        unfold putVS
        have g1 : [(0 : Int), p1, 0].getD 1 0 = p1 := rfl
        rw [g1, e1, if_neg (by omega), if_neg (by simp), if_pos r3, r2, List.take_append_drop]

end Go.Proofs.Ytdgmmndklmomkaa
