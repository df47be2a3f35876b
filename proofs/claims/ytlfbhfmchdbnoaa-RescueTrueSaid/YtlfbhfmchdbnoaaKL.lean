/- Several texts in one: RecM, RecB, Blk, Blk2, Blk3, Blk4. -/
import Derived.Test.YtlfbhfmchdbnoaaRec8
import Derived.Deep.DeepCutAuto

/- Package rec: lengths, errors. -/
namespace Go.Proofs.Ytlfbhfmchdbnoaa
open Go.ChangeShapes Go.WideShapes Go.ChangeAt Go.RowKit
set_option linter.unusedVariables false
set_option linter.unusedSimpArgs false

theorem takK_len (bs : List Int) : (takK bs).1.2.length = 12 := by
  unfold takK; split <;> simp [zer12]
theorem takK_e (bs : List Int) : 0 ≤ (takK bs).2.2 ∧ (takK bs).2.2 ≤ 9 := by
  unfold takK; split <;> simp
theorem tdL_len {bs a : List Int} (ha : a.length = 12) (mask n0 : Nat) (e0 : Int) : ∀ k, (tdL bs a mask n0 e0 k).1.length = 12
  | 0 => ha
  | k + 1 => by
    have h := tdL_len (bs := bs) ha mask n0 e0 k
    show (if _ then _ else _ : List Int × Nat × Int).1.length = 12
    split
    · dsimp only; rw [List.length_set]; exact h
    · exact h
theorem tdL_bd {bs a : List Int} (hz : ∀ x ∈ bs, (Lit.int .u8 x).wf = true) {mask n0 : Nat} {e0 : Int} (hn : n0 ≤ bs.length) (he : 0 ≤ e0 ∧ e0 ≤ 9) : ∀ k, (tdL bs a mask n0 e0 k).2.1 ≤ bs.length ∧ (0 ≤ (tdL bs a mask n0 e0 k).2.2 ∧ (tdL bs a mask n0 e0 k).2.2 ≤ 9) ∧ n0 ≤ (tdL bs a mask n0 e0 k).2.1
  | 0 => ⟨hn, he, Nat.le_refl _⟩
  | k + 1 => by
    have h := tdL_bd (a := a) (mask := mask) hz hn he k
    obtain ⟨⟨v, n, e⟩, hq⟩ : ∃ q, tdL bs a mask n0 e0 k = q := ⟨_, rfl⟩
    rw [hq] at h
    by_cases hb : mask / 2 ^ k % 2 = 1
    · rw [tdL_on hq hb]
      have g := grS_bd (v := a.getD k 0) hz h.1 h.2.1
      exact ⟨g.1, g.2.1, Nat.le_trans h.2.2 g.2.2⟩
    · rw [tdL_off hq hb]; exact h
theorem takD_len (t : Int) {a : List Int} (ha : a.length = 12) (bs : List Int) : (takD t a bs).1.2.length = 12 := by
  unfold takD
  split
  · rfl
  · exact tdL_len ha _ _ _ _
theorem takD_e (t : Int) (a : List Int) {bs : List Int} (hz : ∀ x ∈ bs, (Lit.int .u8 x).wf = true) : 0 ≤ (takD t a bs).2.2 ∧ (takD t a bs).2.2 ≤ 9 := by
  have b1 := nxS_bd (bs := bs) (at_ := 0) (e := 0) (hi := 4294967295) hz (Nat.zero_le _) (by omega) (by omega)
  have b2 := nxS_bd (hi := 4095) hz b1.2.1 (by omega) b1.2.2.1
  have b3 := tdL_bd (a := a) (mask := (nxS bs (nxS bs 0 0 4294967295).2.1 (nxS bs 0 0 4294967295).2.2 4095).1) hz b2.2.1 b2.2.2.1 12
  unfold takD
  split
  · exact b3.2.1
  · simp
theorem takD_bad {t : Int} {a bs : List Int} (h : (takD t a bs).2.2 ≠ 0) : takD t a bs = ((0, zer12), 0, (takD t a bs).2.2) := by
  unfold takD at *
  split
  · rfl
  · rename_i c
    rw [if_neg c] at h
    simp at h

end Go.Proofs.Ytlfbhfmchdbnoaa

/- What package rec lays, it takes as it was; and back. -/
namespace Go.Proofs.Ytlfbhfmchdbnoaa
open Go.ChangeShapes Go.WideShapes Go.ChangeAt Go.RowKit
set_option linter.unusedVariables false
set_option linter.unusedSimpArgs false

theorem vpF_lenb : ∀ (f m u : Nat), u < 128 ^ (m + 1) → (vpF f u).length ≤ m + 1
  | 0, m, u, _ => by have := vpF_len 0 u; omega
  | f + 1, m, u, h => by
    by_cases c : 127 < u
    · rw [vpF_more f u c, List.length_cons]
      cases m with
      | zero => simp at h; omega
      | succ m =>
        have h2 : u / 128 < 128 ^ (m + 1) := by
          rw [Nat.pow_succ] at h
          exact Nat.div_lt_of_lt_mul (by rw [Nat.mul_comm]; exact h)
        have := vpF_lenb f m (u / 128) h2
        omega
    · rw [vpF_last _ u c]; simp
theorem vpF_pos : ∀ (f u : Nat), 1 ≤ (vpF f u).length
  | 0, u => by
    by_cases c : 127 < u
    · unfold vpF; simp
    · rw [vpF_last _ u c]; simp
  | f + 1, u => by
    by_cases c : 127 < u
    · rw [vpF_more f u c, List.length_cons]; omega
    · rw [vpF_last _ u c]; simp
theorem vpS_l {u : Nat} (m : Nat) (h : u < 128 ^ (m + 1)) : (vpS u).length ≤ m + 1 := vpF_lenb 9 m u h
theorem vpS_pos (u : Nat) : 1 ≤ (vpS u).length := vpF_pos 9 u
theorem intsS_l5 : ∀ (l : List Int), (∀ x ∈ l, -4294967296 ≤ x ∧ x ≤ 4294967296) → (intsS l).length ≤ 5 * l.length
  | [], _ => by simp [intsS]
  | x :: l, h => by
    have hx := h x (by simp)
    have ih := intsS_l5 l (fun y hy => h y (List.mem_cons_of_mem _ hy))
    have e : intsS (x :: l) = vpS (zigS x).toNat ++ intsS l := rfl
    have h5 : (vpS (zigS x).toNat).length ≤ 5 := vpS_l 4 (by
      have : (128 : Nat) ^ (4 + 1) = 34359738368 := by decide
      rw [this]; unfold zigS; split <;> omega)
    rw [e, List.length_append, List.length_cons]
    omega
theorem mskF_same (a : List Int) : ∀ k, mskF a a k = 0
  | 0 => rfl
  | k + 1 => by rw [mskF_eq rfl, mskF_same a k]
theorem late_bd (t u : Int) : lateV t u ≤ 4294967295 := by unfold lateV; omega
theorem deltaV_len {t u : Int} {a b : List Int} (ha : ∀ j, -2147483648 ≤ a.getD j 0 ∧ a.getD j 0 ≤ 2147483647) (hb : ∀ j, -2147483648 ≤ b.getD j 0 ∧ b.getD j 0 ≤ 2147483647) : 2 ≤ (deltaV t u a b).length ∧ (deltaV t u a b).length ≤ 67 := by
  have hL := late_bd t u
  have h1 : (vpS (lateV t u)).length ≤ 5 := vpS_l 4 (by have : (128 : Nat) ^ (4 + 1) = 34359738368 := by decide
                                                        omega)
  have hm := mskF_lt a b 12
  have h2 : (vpS (mskF a b 12)).length ≤ 2 := vpS_l 1 (by have e1 : (128 : Nat) ^ (1 + 1) = 16384 := by decide
                                                          have e2 : (2 : Nat) ^ 12 = 4096 := by decide
                                                          omega)
  have hc := chgF_len a b 12
  have h3 := intsS_l5 ((chgF a b 12).map Prod.snd) (fun x hx => by
    obtain ⟨y, hy, rfl⟩ := List.mem_map.1 hx
    exact (chgF_bd ha hb 12 y hy).2.1)
  rw [List.length_map] at h3
  have p1 := vpS_pos (lateV t u)
  have p2 := vpS_pos (mskF a b 12)
  unfold deltaV
  rw [List.length_append, List.length_append]
  omega
theorem deltaV_two {t r : Int} (a : List Int) (h : lateV t r < 128) : (deltaV t r a a).length = 2 := by
  unfold deltaV
  rw [mskF_same, chgF_same]
  have h1 : (vpS (lateV t r)).length ≤ 1 := vpS_l 0 (by simpa using h)
  have h2 : (vpS 0).length = 1 := rfl
  have p1 := vpS_pos (lateV t r)
  rw [List.length_append, List.length_append]
  have h3 : (intsS (([] : List (Int × Int)).map Prod.snd)).length = 0 := rfl
  omega
theorem keyF_drop : ∀ (v : List Int) (i : Nat) (R : List Int), i < v.length → ∃ R', (keyF v ++ R).drop (4 * i) = bytesL (wrapU (v.getD i 0)) 4 ++ R'
  | [], i, R, h => by simp at h
  | x :: v, 0, R, _ => by
    have e : keyF (x :: v) = bytesL (wrapU x) 4 ++ keyF v := rfl
    exact ⟨keyF v ++ R, by rw [e, List.append_assoc]; rfl⟩
  | x :: v, i + 1, R, h => by
    have e : keyF (x :: v) = bytesL (wrapU x) 4 ++ keyF v := rfl
    obtain ⟨R', hR⟩ := keyF_drop v i R (by simpa using h)
    refine ⟨R', ?_⟩
    rw [e, List.append_assoc, show 4 * (i + 1) = 4 + 4 * i from by omega, ← List.drop_drop, List.drop_left' (bytesL_len _ 4), hR]
    rfl
theorem takK_key {t : Int} {v : List Int} (ht : 0 ≤ t ∧ t ≤ 4294967295) (hl : v.length = 12) (hv : ∀ x ∈ v, -2147483648 ≤ x ∧ x ≤ 2147483647) (R : List Int) : takK (keyV t v ++ R) = ((t, v), 52, 0) := by
  have hlen : (keyV t v ++ R).length = 52 + R.length := by unfold keyV; rw [List.length_append, List.length_append, bytesL_len, keyF_len, hl]
  have e0 : keyV t v ++ R = bytesL t 4 ++ (keyF v ++ R) := by unfold keyV; rw [List.append_assoc]
  have h1 : ((numB ((keyV t v ++ R).take 4) 4 : Nat) : Int) = t := by
    rw [e0]; exact (read_u t 4 ht.1 (fit4 ht.1 ht.2) (keyF v ++ R)).1
  unfold takK
  rw [if_neg (by omega), h1]
  have h2 : (List.range 12).map (fieldK (keyV t v ++ R)) = v := by
    refine List.ext_getElem (by simp [hl]) fun i hi1 hi2 => ?_
    rw [List.getElem_map, List.getElem_range]
    obtain ⟨R', hR⟩ := keyF_drop v i R hi2
    have hx := hv _ (List.mem_of_getElem? (getD_at hi2))
    unfold fieldK
    rw [e0, ← List.drop_drop, List.drop_left' (bytesL_len t 4), hR]
    have hr := (read_i (v.getD i 0) 4 (fit4i hx.1 hx.2) R').1
    have e : v.getD i 0 = v[i] := by simp [hi2]
    rw [← e]
    exact hr
  rw [h2]
theorem zig_zag (u : Int) (h : 0 ≤ u) : zigS (zagS u) = u := by unfold zigS zagS; split <;> split <;> omega
theorem mskF_bit (a b : List Int) : ∀ n k, k < n → mskF a b n / 2 ^ k % 2 = if b.getD k 0 = a.getD k 0 then 0 else 1
  | 0, k, h => by omega
  | n + 1, k, h => by
    have hlt := mskF_lt a b n
    by_cases e : k = n
    · subst e
      by_cases c : b.getD k 0 = a.getD k 0
      · rw [mskF_eq c, if_pos c, Nat.div_eq_of_lt hlt]
      · rw [mskF_ne c, if_neg c]
        have hp : 0 < 2 ^ k := Nat.pow_pos (by decide)
        rw [Nat.add_div_right _ hp, Nat.div_eq_of_lt hlt]
    · have ih := mskF_bit a b n k (by omega)
      by_cases c : b.getD n 0 = a.getD n 0
      · rw [mskF_eq c]; exact ih
      · rw [mskF_ne c, ← ih]
        have e2 : 2 ^ n = 2 ^ k * (2 * 2 ^ (n - k - 1)) := by
          rw [← Nat.pow_succ', ← Nat.pow_add]; congr 1; omega
        have hp : 0 < 2 ^ k := Nat.pow_pos (by decide)
        rw [e2, Nat.add_mul_div_left _ _ hp, Nat.add_mul_mod_self_left]
theorem takD_delta {t u : Int} {a b : List Int} (ht : 0 ≤ t ∧ t ≤ 4294967295) (hu : 0 ≤ u ∧ u ≤ 4294967295) (hal : a.length = 12) (hbl : b.length = 12) (ha : ∀ j, -2147483648 ≤ a.getD j 0 ∧ a.getD j 0 ≤ 2147483647) (hb : ∀ j, -2147483648 ≤ b.getD j 0 ∧ b.getD j 0 ≤ 2147483647) (R : List Int) : takD t a (deltaV t u a b ++ R) = ((u, b), ((deltaV t u a b).length : Int), 0) := by
  have hL := late_bd t u
  have hm : mskF a b 12 ≤ 4095 := by have := mskF_lt a b 12; have e : (2 : Nat) ^ 12 = 4096 := by decide
                                     omega
  have hTu : (t + ((lateV t u : Nat) : Int)) % 4294967296 = u := by unfold lateV; omega
  have hbit := mskF_bit a b 12
  have hdl : (deltaV t u a b).length = (vpS (lateV t u)).length + (vpS (mskF a b 12)).length + (intsS ((chgF a b 12).map Prod.snd)).length := by unfold deltaV; rw [List.length_append, List.length_append]
  have hbs : deltaV t u a b ++ R = vpS (lateV t u) ++ (vpS (mskF a b 12) ++ (intsS ((chgF a b 12).map Prod.snd) ++ R)) := by unfold deltaV; simp only [List.append_assoc]
  obtain ⟨bs, hbs1⟩ : ∃ bs, deltaV t u a b ++ R = bs := ⟨_, rfl⟩
  rw [hbs1] at hbs ⊢
  rw [hdl]
  generalize lateV t u = L at *
  generalize mskF a b 12 = m at *
  have h1 : nxS bs 0 0 4294967295 = (L, (vpS L).length, 0) := by
    have := nx_ok (bs := bs) (n := 0) (hi := 4294967295) (by rw [List.drop_zero, hbs]; exact vtake_putS L _ (by omega)) (by omega)
    rw [Nat.zero_add] at this; exact this
  have h2 : nxS bs (vpS L).length 0 4095 = (m, (vpS L).length + (vpS m).length, 0) :=
    nx_ok (by rw [hbs, List.drop_left]; exact vtake_putS m _ (by omega)) (by omega)
  have key : ∀ k, k ≤ 12 → ∃ v, tdL bs a m ((vpS L).length + (vpS m).length) 0 k = (v, (vpS L).length + (vpS m).length + (intsS ((chgF a b k).map Prod.snd)).length, 0) ∧ v.length = 12 ∧ ∀ j, v.getD j 0 = if j < k then b.getD j 0 else a.getD j 0 := by
    intro k
    induction k with
    | zero => intro _; exact ⟨a, rfl, hal, fun j => by simp⟩
    | succ k ih =>
      intro hk
      obtain ⟨v, hv, hvl, hvj⟩ := ih (by omega)
      have hb1 := hbit k (by omega)
      by_cases c : b.getD k 0 = a.getD k 0
      · rw [if_pos c] at hb1
        refine ⟨v, by rw [tdL_off hv (by omega), chgF_eq c], hvl, fun j => ?_⟩
        rw [hvj j]
        by_cases j1 : j < k
        · rw [if_pos j1, if_pos (by omega)]
        · by_cases j2 : j = k
          · subst j2; rw [if_neg j1, if_pos (by omega), c]
          · rw [if_neg j1, if_neg (by omega)]
      · rw [if_neg c] at hb1
        have ho := tdL_on hv hb1
        have hcn := chgF_ne c
        obtain ⟨tl, htl⟩ := chgF_pre a b (k + 1) 12 (by omega)
        have hak := ha k
        have hbk := hb k
        have hz := zig_bd (b.getD k 0 - a.getD k 0) (by omega) (by omega)
        have hzz : zagS (((zigS (b.getD k 0 - a.getD k 0)).toNat : Nat) : Int) = b.getD k 0 - a.getD k 0 := by
          rw [Int.toNat_of_nonneg hz.1, zag_zig]
        have hC1 : intsS ((chgF a b (k + 1)).map Prod.snd) = intsS ((chgF a b k).map Prod.snd) ++ vpS (zigS (b.getD k 0 - a.getD k 0)).toNat := by
          rw [hcn, List.map_append]; exact intsS_snoc _ _
        have hC : intsS ((chgF a b 12).map Prod.snd) = intsS ((chgF a b k).map Prod.snd) ++ (vpS (zigS (b.getD k 0 - a.getD k 0)).toNat ++ intsS (tl.map Prod.snd)) := by
          rw [← htl, List.map_append]
          have : intsS ((chgF a b (k + 1)).map Prod.snd ++ tl.map Prod.snd) = intsS ((chgF a b (k + 1)).map Prod.snd) ++ intsS (tl.map Prod.snd) := by simp [intsS]
          rw [this, hC1, List.append_assoc]
        obtain ⟨z, hzn⟩ : ∃ z, (zigS (b.getD k 0 - a.getD k 0)).toNat = z := ⟨_, rfl⟩
        have hz64 : z ≤ 18446744073709551615 := by omega
        rw [hzn] at hzz hC1 hC
        have hq : takeS (bs.drop ((vpS L).length + (vpS m).length + (intsS ((chgF a b k).map Prod.snd)).length)) 0 0 = (z, (vpS z).length, 0) := by
          have e : bs = (vpS L ++ vpS m ++ intsS ((chgF a b k).map Prod.snd)) ++ (vpS z ++ (intsS (tl.map Prod.snd) ++ R)) := by rw [hbs, hC]; simp only [List.append_assoc]
          have el : (vpS L).length + (vpS m).length + (intsS ((chgF a b k).map Prod.snd)).length = (vpS L ++ vpS m ++ intsS ((chgF a b k).map Prod.snd)).length := by rw [List.length_append, List.length_append]
          rw [el, e, List.drop_left]
          exact vtake_putS z _ hz64
        have hg := gr_ok (x := a.getD k 0) hq hz64 (by rw [hzz]; omega)
        rw [hzz, show a.getD k 0 + (b.getD k 0 - a.getD k 0) = b.getD k 0 from by omega] at hg
        rw [hg] at ho
        dsimp only at ho
        refine ⟨v.set k (b.getD k 0), by rw [ho, hC1, List.length_append, Nat.add_assoc], by rw [List.length_set, hvl], fun j => ?_⟩
        rw [List.getD_eq_getElem?_getD, List.getElem?_set]
        by_cases j2 : k = j
        · subst j2
          rw [if_pos rfl, if_pos (by omega), if_pos (by omega)]; rfl
        · rw [if_neg j2, ← List.getD_eq_getElem?_getD, hvj j]
          by_cases j1 : j < k
          · rw [if_pos j1, if_pos (by omega)]
          · rw [if_neg j1, if_neg (by omega)]
  obtain ⟨v, hv, hvl, hvj⟩ := key 12 (Nat.le_refl _)
  have hvb : v = b := by
    refine List.ext_getElem (by rw [hvl, hbl]) fun i h3 h4 => ?_
    have := hvj i
    rw [if_pos (by omega)] at this
    simpa [h3, h4] using this
  subst hvb
  rw [takD_ok h1 h2 hv, hTu]
theorem nx_inv {bs : List Int} {n hi u n' : Nat} (h : nxS bs n 0 hi = (u, n', 0)) : ∃ qn, takeS (bs.drop n) 0 0 = (u, qn, 0) ∧ n' = n + qn ∧ u ≤ hi := by
  unfold nxS at h
  rw [if_neg (by simp)] at h
  obtain ⟨⟨qu, qn, qe⟩, hq⟩ : ∃ q, takeS (bs.drop n) 0 0 = q := ⟨_, rfl⟩
  rw [hq] at h ⊢
  dsimp only at h
  by_cases c : qe ≠ 0
  · rw [if_pos c] at h; have := congrArg (fun r => r.2.2) h; dsimp only at this; omega
  · rw [if_neg c] at h
    by_cases c2 : hi < qu
    · rw [if_pos c2] at h; exact absurd (congrArg (fun r => r.2.2) h) (by simp)
    · rw [if_neg c2] at h
      obtain rfl : qu = u := congrArg Prod.fst h
      exact ⟨qn, by rw [Decidable.not_not.1 c], (congrArg (fun r => r.2.1) h).symm, by omega⟩
theorem gr_inv {bs : List Int} {n n' : Nat} {x g : Int} (h : grS bs n 0 x = (g, n', 0)) : ∃ qu qn, takeS (bs.drop n) 0 0 = (qu, qn, 0) ∧ n' = n + qn ∧ g = x + zagS (qu : Int) ∧ zagS (qu : Int) ≠ 0 ∧ -2147483648 ≤ g ∧ g ≤ 2147483647 := by
  unfold grS at h
  obtain ⟨⟨u, na, e⟩, hn⟩ : ∃ q, nxS bs n 0 18446744073709551615 = q := ⟨_, rfl⟩
  rw [hn] at h
  dsimp only at h
  by_cases c : e ≠ 0
  · rw [if_pos c] at h; exact absurd (congrArg (fun r => r.2.2) h) c
  · rw [if_neg c] at h
    obtain rfl : e = 0 := Decidable.not_not.1 c
    by_cases c2 : zagS (u : Int) = 0 ∨ 2147483647 - x < zagS (u : Int) ∨ zagS (u : Int) < -2147483648 - x
    · rw [if_pos c2] at h; exact absurd (congrArg (fun r => r.2.2) h) (by simp)
    · rw [if_neg c2] at h
      obtain ⟨qn, hq, e2, _⟩ := nx_inv hn
      have e3 : x + zagS (u : Int) = g := congrArg Prod.fst h
      have e4 : na = n' := congrArg (fun r => r.2.1) h
      exact ⟨u, qn, hq, by omega, e3.symm, by omega, by omega, by omega⟩
theorem chgF_congr {a v w : List Int} : ∀ k, (∀ j, j < k → v.getD j 0 = w.getD j 0) → chgF a v k = chgF a w k ∧ mskF a v k = mskF a w k
  | 0, _ => ⟨rfl, rfl⟩
  | k + 1, h => by
    obtain ⟨h1, h2⟩ := chgF_congr k (fun j hj => h j (by omega))
    have hk := h k (by omega)
    constructor
    · show chgF a v k ++ _ = chgF a w k ++ _
      rw [h1, hk]
    · show mskF a v k + _ = mskF a w k + _
      rw [h2, hk]
theorem takD_back {t : Int} {a bs : List Int} (ht : 0 ≤ t ∧ t ≤ 4294967295) (hal : a.length = 12) (ha : ∀ j, -2147483648 ≤ a.getD j 0 ∧ a.getD j 0 ≤ 2147483647) (hz : ∀ x ∈ bs, (Lit.int .u8 x).wf = true) {T n : Int} {v : List Int} (h : takD t a bs = ((T, v), n, 0)) :
    ∃ N : Nat, n = (N : Int) ∧ N ≤ bs.length ∧ 2 ≤ N ∧ deltaV t T a v = bs.take N ∧ (0 ≤ T ∧ T ≤ 4294967295) ∧ ∀ j, -2147483648 ≤ v.getD j 0 ∧ v.getD j 0 ≤ 2147483647 := by
  have hok := fun k => takeS_ok (bs.drop k) (bytes_bd (fun x hx => hz x (List.mem_of_mem_drop hx)))
  obtain ⟨⟨u1, n1, e1⟩, h1⟩ : ∃ q, nxS bs 0 0 4294967295 = q := ⟨_, rfl⟩
  by_cases c1 : e1 ≠ 0
  · rw [takD_e1 h1 c1] at h; exact absurd (congrArg (fun r => r.2.2) h) c1
  obtain rfl : e1 = 0 := Decidable.not_not.1 c1
  obtain ⟨⟨m2, n2, e2⟩, h2⟩ : ∃ q, nxS bs n1 0 4095 = q := ⟨_, rfl⟩
  by_cases c2 : e2 ≠ 0
  · rw [takD_e2 h1 h2 c2] at h; exact absurd (congrArg (fun r => r.2.2) h) c2
  obtain rfl : e2 = 0 := Decidable.not_not.1 c2
  obtain ⟨q1, hq1, e1, b1⟩ := nx_inv h1
  obtain ⟨q2, hq2, e2, b2⟩ := nx_inv h2
  have o1 := hok 0 (by rw [hq1])
  rw [hq1] at o1
  dsimp only at o1
  have o2 := hok n1 (by rw [hq2])
  rw [hq2] at o2
  dsimp only at o2
  rw [List.drop_zero] at o1
  have p1 : bs.take n1 = vpS u1 := by rw [e1, Nat.zero_add]; exact o1.2.2.2.symm
  have p2 : bs.take n2 = vpS u1 ++ vpS m2 := by rw [e2, List.take_add, p1, ← o2.2.2.2]
  have l2 := o2.2.1
  rw [List.length_drop] at l2
  have key : ∀ k w m, tdL bs a m2 n2 0 k = (w, m, 0) → w.length = 12 ∧ (∀ j, k ≤ j → w.getD j 0 = a.getD j 0) ∧ (∀ j, -2147483648 ≤ w.getD j 0 ∧ w.getD j 0 ≤ 2147483647) ∧ m ≤ bs.length ∧ n2 ≤ m ∧ bs.take m = vpS u1 ++ vpS m2 ++ intsS ((chgF a w k).map Prod.snd) ∧ (k ≤ 12 → mskF a w k = m2 % 2 ^ k) := by
    intro k
    induction k with
    | zero =>
      intro w m hw
      obtain rfl : a = w := congrArg Prod.fst hw
      obtain rfl : n2 = m := congrArg (fun r => r.2.1) hw
      exact ⟨hal, fun _ _ => rfl, ha, by have := o1.2.1; omega, Nat.le_refl _, by rw [p2]; simp [chgF, intsS], fun _ => by simp [mskF, Nat.mod_one]⟩
    | succ k ih =>
      intro w' m' hw'
      obtain ⟨⟨w, m, e⟩, hw⟩ : ∃ q, tdL bs a m2 n2 0 k = q := ⟨_, rfl⟩
      by_cases ce : e ≠ 0
      · obtain ⟨v', hv'⟩ := tdL_err hw ce 1
        rw [hw'] at hv'
        exact absurd (congrArg (fun r => r.2.2) hv').symm ce
      obtain rfl : e = 0 := Decidable.not_not.1 ce
      obtain ⟨i1, i2, i3, i4, i5, i6, i7⟩ := ih w m hw
      have hmod : m2 % 2 ^ (k + 1) = m2 % 2 ^ k + 2 ^ k * (m2 / 2 ^ k % 2) := by rw [Nat.pow_succ, Nat.mod_mul]
      by_cases hb : m2 / 2 ^ k % 2 = 1
      · have ho := tdL_on hw hb
        rw [hw'] at ho
        obtain ⟨⟨g, na, ea⟩, hg⟩ : ∃ q, grS bs m 0 (a.getD k 0) = q := ⟨_, rfl⟩
        rw [hg] at ho
        dsimp only at ho
        obtain rfl : w' = w.set k g := congrArg Prod.fst ho
        obtain rfl : m' = na := congrArg (fun r => r.2.1) ho
        obtain rfl : 0 = ea := congrArg (fun r => r.2.2) ho
        obtain ⟨qu, qn, hq, e3, e4, e5, e6, e7⟩ := gr_inv hg
        have o3 := hok m (by rw [hq])
        rw [hq] at o3
        dsimp only at o3
        have l3 := o3.2.1
        rw [List.length_drop] at l3
        have hget : ∀ j, (w.set k g).getD j 0 = if k = j ∧ k < 12 then g else w.getD j 0 := by
          intro j
          rw [List.getD_eq_getElem?_getD, List.getElem?_set]
          by_cases j2 : k = j
          · subst j2
            by_cases j3 : k < 12
            · rw [if_pos rfl, if_pos (by omega), if_pos ⟨rfl, j3⟩]; rfl
            · rw [if_pos rfl, if_neg (by omega), if_neg (fun h => j3 h.2)]
              rw [List.getD_eq_getElem?_getD, List.getElem?_eq_none (by omega)]
          · rw [if_neg j2, if_neg (fun h => j2 h.1), ← List.getD_eq_getElem?_getD]
        have hcg := chgF_congr (a := a) (v := w.set k g) (w := w) k (fun j hj => by rw [hget j, if_neg (by omega)])
        by_cases k12 : k < 12
        · have hk9 : (w.set k g).getD k 0 = g := by rw [hget k, if_pos ⟨rfl, k12⟩]
          have hne : (w.set k g).getD k 0 ≠ a.getD k 0 := by rw [hk9]; omega
          refine ⟨by rw [List.length_set, i1], fun j hj => by rw [hget j, if_neg (by omega)]; exact i2 j (by omega), fun j => ?_, by omega, by omega, ?_, fun _ => ?_⟩
          · rw [hget j]; split
            · exact ⟨e6, e7⟩
            · exact i3 j
          · have hzz : (zigS ((w.set k g).getD k 0 - a.getD k 0)).toNat = qu := by
              rw [hk9, e4, show a.getD k 0 + zagS (qu : Int) - a.getD k 0 = zagS (qu : Int) from by omega, zig_zag _ (by omega)]; simp
            rw [e3, List.take_add, i6, ← o3.2.2.2, chgF_ne hne, hcg.1, List.map_append]
            have := intsS_snoc ((chgF a w k).map Prod.snd) ((w.set k g).getD k 0 - a.getD k 0)
            rw [hzz] at this
            simp only [List.map_cons, List.map_nil]
            rw [this, List.append_assoc]
          · rw [mskF_ne hne, hcg.2, i7 (by omega), hmod, hb, Nat.mul_one]
        · -- no place beyond the twelfth
          exfalso
          have h64 : m2 / 2 ^ k = 0 := Nat.div_eq_of_lt (by
            have h2 : (2 : Nat) ^ 12 ≤ 2 ^ k := Nat.pow_le_pow_right (by decide) (by omega)
            have h3 : (2 : Nat) ^ 12 = 4096 := by decide
            omega)
          rw [h64] at hb
          simp at hb
      · have ho := tdL_off hw hb
        rw [hw'] at ho
        obtain rfl : w' = w := congrArg Prod.fst ho
        obtain rfl : m' = m := congrArg (fun r => r.2.1) ho
        have heq : w'.getD k 0 = a.getD k 0 := i2 k (Nat.le_refl _)
        refine ⟨i1, fun j hj => i2 j (by omega), i3, i4, i5, by rw [chgF_eq heq]; exact i6, fun hk => ?_⟩
        rw [mskF_eq heq, i7 (by omega), hmod, show m2 / 2 ^ k % 2 = 0 from by omega, Nat.mul_zero, Nat.add_zero]
  obtain ⟨⟨w, m, e⟩, hw⟩ : ∃ q, tdL bs a m2 n2 0 12 = q := ⟨_, rfl⟩
  rw [takD_at h1 h2 hw] at h
  by_cases ce : e ≠ 0
  · rw [if_pos ce] at h; exact absurd (congrArg (fun r => r.2.2) h) ce
  rw [if_neg ce] at h
  obtain rfl : e = 0 := Decidable.not_not.1 ce
  obtain ⟨i1, i2, i3, i4, i5, i6, i7⟩ := key 12 w m hw
  have hT : (t + (u1 : Nat)) % 4294967296 = T := congrArg (fun r => r.1.1) h
  obtain rfl : w = v := congrArg (fun r => r.1.2) h
  have hn : (m : Int) = n := congrArg (fun r => r.2.1) h
  have hlate : lateV t T = u1 := by unfold lateV; omega
  have hmm : mskF a w 12 = m2 := by rw [i7 (Nat.le_refl _)]; exact Nat.mod_eq_of_lt (Nat.lt_of_le_of_lt b2 (by decide))
  refine ⟨m, hn.symm, i4, by have := o1.1; have := o2.1; omega, ?_, by omega, i3⟩
  unfold deltaV
  rw [hlate, hmm, i6]

end Go.Proofs.Ytlfbhfmchdbnoaa

/- Package block: entries: Lay. -/
namespace Go.Proofs.Ytlfbhfmchdbnoaa
open Go.ChangeShapes Go.WideShapes Go.ChangeAt Go.RowKit
set_option linter.unusedVariables false
set_option linter.unusedSimpArgs false

/-- An entry: whether it is whole, its time, its numbers. -/
abbrev En := Bool × Int × List Int
def layS (st : Int × List Int) (x : En) : List Int := if x.1 then 75 :: keyV x.2.1 x.2.2 else 68 :: deltaV st.1 x.2.1 st.2 x.2.2
def entS (st : Int × List Int) : List En → List Int
  | [] => []
  | x :: r => layS st x ++ entS x.2 r
def lastR (st : Int × List Int) : List En → Int × List Int
  | [] => st
  | x :: r => lastR x.2 r
theorem entS_snoc : ∀ (st : Int × List Int) (l : List En) (x : En), entS st (l ++ [x]) = entS st l ++ layS (lastR st l) x
  | st, [], x => by simp [entS, lastR]
  | st, y :: l, x => by
    show layS st y ++ entS y.2 (l ++ [x]) = _
    rw [entS_snoc y.2 l x, ← List.append_assoc]
    rfl
theorem lastR_snoc : ∀ (st : Int × List Int) (l : List En) (x : En), lastR st (l ++ [x]) = x.2
  | st, [], x => rfl
  | st, y :: l, x => lastR_snoc y.2 l x
theorem entS_app : ∀ (st : Int × List Int) (l r : List En), entS st (l ++ r) = entS st l ++ entS (lastR st l) r
  | st, [], r => rfl
  | st, y :: l, r => by
    show layS st y ++ entS y.2 (l ++ r) = _
    rw [entS_app y.2 l r, ← List.append_assoc]
    rfl
theorem keyV_len (t : Int) (v : List Int) (h : v.length = 12) : (keyV t v).length = 52 := by unfold keyV; rw [List.length_append, bytesL_len, keyF_len, h]
set_option maxRecDepth 100000 in
set_option maxHeartbeats 4000000 in
theorem rlay_any (t u a0 a1 a2 a3 a4 a5 a6 a7 a8 a9 a10 a11 b0 b1 b2 b3 b4 b5 b6 b7 b8 b9 b10 b11 : Int) (k : Bool) (w : World) (ht : 0 ≤ t ∧ t ≤ 4294967295) (hu : 0 ≤ u ∧ u ≤ 4294967295) (ha : ∀ x ∈ [a0, a1, a2, a3, a4, a5, a6, a7, a8, a9, a10, a11], -2147483648 ≤ x ∧ x ≤ 2147483647) (hb : ∀ x ∈ [b0, b1, b2, b3, b4, b5, b6, b7, b8, b9, b10, b11], -2147483648 ≤ x ∧ x ≤ 2147483647) : Calls Try.prog 59 #[.agg #[.int .u32 t, .int .i32 a0, .int .i32 a1, .int .i32 a2, .int .i32 a3, .int .i32 a4, .int .i32 a5, .int .i32 a6, .int .i32 a7, .int .i32 a8, .int .i32 a9, .int .i32 a10, .int .i32 a11], .agg #[.bool k, .int .u32 u, .int .i32 b0, .int .i32 b1, .int .i32 b2, .int .i32 b3, .int .i32 b4, .int .i32 b5, .int .i32 b6, .int .i32 b7, .int .i32 b8, .int .i32 b9, .int .i32 b10, .int .i32 b11]] w (BytesOk w (layS (t, [a0, a1, a2, a3, a4, a5, a6, a7, a8, a9, a10, a11]) (k, u, [b0, b1, b2, b3, b4, b5, b6, b7, b8, b9, b10, b11]))) := by
  have hdl := (deltaV_len (t := t) (u := u) (get_bd ha) (get_bd hb)).2
  have hkl := keyV_len u [b0, b1, b2, b3, b4, b5, b6, b7, b8, b9, b10, b11] rfl
  replace ha := hid ha
  replace hb := hid hb
  go_enter Try.func59, Try.ntmps59
  go_upto_region 0 with (fail)
  apply wp_region_seg0 (w := w) (S := [.al 1000, .al 1000, .q []]) (E := [.al ((fun p => .pointer (some ⟨p, 0, none⟩)), _) 1000, .al ((fun p => .pointer (some ⟨p, 0, none⟩)), _) 1000, .q0 _]) rfl (by kernel_rfl) rfl rfl
  intro th hge hne
  refine Seg.step _ rfl ⟨by rfl, fun U hU => ?_⟩ ?_
  · go_simp; exact vp_alloc rfl rfl rfl
  refine ⟨_, by (simp only [Ent.val]; go_simp <;> exact rfl), ?_⟩
  refine Seg.step _ rfl ⟨by rfl, fun U hU => ?_⟩ ?_
  · go_simp; exact vp_alloc rfl rfl rfl
  refine ⟨_, by (simp only [Ent.val]; go_simp <;> exact rfl), ?_⟩
  refine Seg.step _ rfl (Or.inl ⟨by rfl, fun U hU => vp_quiet (by (go_simp <;> exact rfl))⟩) ⟨_, by (simp only [Ent.val]; go_simp <;> exact rfl), ?_⟩
  refine Seg.stop (fun U1 hU hk => ?_)
  have nb0 := hge 0 _ _ rfl
  have rb0 := (hk 0 _ _ rfl trivial).1.2 (by simp)
  have nb1 := hge 1 _ _ rfl
  have rb1 := (hk 1 _ _ rfl trivial).1.2 (by simp)
  have ne0_1 := hne 0 1 _ _ _ _ rfl rfl (by omega)
  clear hk hge hne
  generalize th (0 + 0) = p0_0 at *
  dsimp only at rb0
  generalize th (0 + 1) = p0_1 at *
  dsimp only at rb1
  have r_p0_0 := rb0
  clear rb0
  have n_p0_0 := nb0
  clear nb0
  have d_p0_0_p0_1 := ne0_1
  clear ne0_1
  have r_p0_1 := rb1
  clear rb1
  have n_p0_1 := nb1
  clear nb1
  have sz1 := hU.size
  have hB : Below w.heap.size w U1 := hU
  clear hU
  have sU := hB.size
  cases k
  · have e : layS (t, [a0, a1, a2, a3, a4, a5, a6, a7, a8, a9, a10, a11]) (false, u, [b0, b1, b2, b3, b4, b5, b6, b7, b8, b9, b10, b11]) = 68 :: deltaV t u [a0, a1, a2, a3, a4, a5, a6, a7, a8, a9, a10, a11] [b0, b1, b2, b3, b4, b5, b6, b7, b8, b9, b10, b11] := rfl
    replace e := hid e
    have z0 := held_cell r_p0_1 0 _ rfl
    have nE := alloc_new U1 (.cells #[.int .u8 68] 5)
    have own := Own.lit .u8 5 U1 [68] w.heap.size sU (by unfold maxLen; simp) #[.int .u8 68] rfl
    have hAE := nE.2.1
    have s0 := held_after hAE r_p0_0
    have s1 := held_after hAE r_p0_1
    have hB1 := hid (bthen hB hAE)
    obtain ⟨W1, hW1⟩ : ∃ X, U1.alloc (.cells #[.int .u8 68] 5) = X := ⟨_, rfl⟩
    rw [hW1] at own s0 s1 hB1
    clear nE hAE hB
    have g0 := held_cell s0 0 _ rfl
    have g1 := held_cell s0 1 _ rfl
    have g2 := held_cell s0 2 _ rfl
    have g3 := held_cell s0 3 _ rfl
    have g4 := held_cell s0 4 _ rfl
    have g5 := held_cell s0 5 _ rfl
    have g6 := held_cell s0 6 _ rfl
    have g7 := held_cell s0 7 _ rfl
    have g8 := held_cell s0 8 _ rfl
    have g9 := held_cell s0 9 _ rfl
    have g10 := held_cell s0 10 _ rfl
    have g11 := held_cell s0 11 _ rfl
    have g12 := held_cell s0 12 _ rfl
    have f0 := held_cell s1 0 _ rfl
    have f1 := held_cell s1 1 _ rfl
    have f2 := held_cell s1 2 _ rfl
    have f3 := held_cell s1 3 _ rfl
    have f4 := held_cell s1 4 _ rfl
    have f5 := held_cell s1 5 _ rfl
    have f6 := held_cell s1 6 _ rfl
    have f7 := held_cell s1 7 _ rfl
    have f8 := held_cell s1 8 _ rfl
    have f9 := held_cell s1 9 _ rfl
    have f10 := held_cell s1 10 _ rfl
    have f11 := held_cell s1 11 _ rfl
    have f12 := held_cell s1 12 _ rfl
    have f13 := held_cell s1 13 _ rfl
    clear s0 s1
    replace own := hid own
    have sW := hid hB1.out.size
    go_wp2_with fail
    refine (rdelta_any t u a0 a1 a2 a3 a4 a5 a6 a7 a8 a9 a10 a11 b0 b1 b2 b3 b4 b5 b6 b7 b8 b9 b10 b11 _ ht hu ha.out hb.out).mono ?_
    rintro e V ⟨da, dc, rfl, hO, hA⟩
    have hS := hid hO.slf
    have own2 := hid (own.out.below hA)
    have hB2 := hid (bthen hB1.out hA)
    have sz := hid hB2.out.size
    have hla := hid (show [(68 : Int)].length + (deltaV t u [a0, a1, a2, a3, a4, a5, a6, a7, a8, a9, a10, a11] [b0, b1, b2, b3, b4, b5, b6, b7, b8, b9, b10, b11]).length ≤ 140737488355328 / 1 by rw [List.length_singleton]; omega)
    clear hO hA own hB1 hdl hkl g0 g1 g2 g3 g4 g5 g6 g7 g8 g9 g10 g11 g12 f0 f1 f2 f3 f4 f5 f6 f7 f8 f9 f10 f11 f12 f13
    generalize deltaV t u [a0, a1, a2, a3, a4, a5, a6, a7, a8, a9, a10, a11] [b0, b1, b2, b3, b4, b5, b6, b7, b8, b9, b10, b11] = L at *
    go_wp2_with (first | (at_builtin; refine wpList_app _ rfl (.tmp 12) (.tmp 16) 22 rfl w.heap.size 5 .u8 1 bytesOf (.slice (some ⟨U1.heap.size, 0, none⟩) 1 1) [68] rfl own2.out da dc L rfl hS.out.2.2.2.2 hS.out.2.2.2.1 hla.out (by omega) sz.out ?_))
    intro v9 w9 hO9 hG
    obtain ⟨ga, gc, hv9, -⟩ := hO9.sl
    subst hv9
    have hB9 := hid (own2.out.grew hG hB2.out (Nat.le_refl _) sz.out)
    replace hO9 := hid hO9
    clear hG
    go_wp2_with fail
    go_ret
    show ∃ a c, _ ∧ _
    rw [e.out]
    exact ⟨ga, gc, rfl, hO9.out, hB9.out⟩
  · have e : layS (t, [a0, a1, a2, a3, a4, a5, a6, a7, a8, a9, a10, a11]) (true, u, [b0, b1, b2, b3, b4, b5, b6, b7, b8, b9, b10, b11]) = 75 :: keyV u [b0, b1, b2, b3, b4, b5, b6, b7, b8, b9, b10, b11] := rfl
    replace e := hid e
    have z0 := held_cell r_p0_1 0 _ rfl
    have nE := alloc_new U1 (.cells #[.int .u8 75] 5)
    have own := Own.lit .u8 5 U1 [75] w.heap.size sU (by unfold maxLen; simp) #[.int .u8 75] rfl
    have hAE := nE.2.1
    have s0 := held_after hAE r_p0_0
    have s1 := held_after hAE r_p0_1
    have hB1 := hid (bthen hB hAE)
    obtain ⟨W1, hW1⟩ : ∃ X, U1.alloc (.cells #[.int .u8 75] 5) = X := ⟨_, rfl⟩
    rw [hW1] at own s0 s1 hB1
    clear nE hAE hB
    have g0 := held_cell s0 0 _ rfl
    have g1 := held_cell s0 1 _ rfl
    have g2 := held_cell s0 2 _ rfl
    have g3 := held_cell s0 3 _ rfl
    have g4 := held_cell s0 4 _ rfl
    have g5 := held_cell s0 5 _ rfl
    have g6 := held_cell s0 6 _ rfl
    have g7 := held_cell s0 7 _ rfl
    have g8 := held_cell s0 8 _ rfl
    have g9 := held_cell s0 9 _ rfl
    have g10 := held_cell s0 10 _ rfl
    have g11 := held_cell s0 11 _ rfl
    have g12 := held_cell s0 12 _ rfl
    have f0 := held_cell s1 0 _ rfl
    have f1 := held_cell s1 1 _ rfl
    have f2 := held_cell s1 2 _ rfl
    have f3 := held_cell s1 3 _ rfl
    have f4 := held_cell s1 4 _ rfl
    have f5 := held_cell s1 5 _ rfl
    have f6 := held_cell s1 6 _ rfl
    have f7 := held_cell s1 7 _ rfl
    have f8 := held_cell s1 8 _ rfl
    have f9 := held_cell s1 9 _ rfl
    have f10 := held_cell s1 10 _ rfl
    have f11 := held_cell s1 11 _ rfl
    have f12 := held_cell s1 12 _ rfl
    have f13 := held_cell s1 13 _ rfl
    clear s0 s1
    replace own := hid own
    have sW := hid hB1.out.size
    go_wp2_with fail
    refine (rkey_any u b0 b1 b2 b3 b4 b5 b6 b7 b8 b9 b10 b11 _ hu hb.out).mono ?_
    rintro e V ⟨da, dc, rfl, hO, hA⟩
    have hS := hid hO.slf
    have own2 := hid (own.out.below hA)
    have hB2 := hid (bthen hB1.out hA)
    have sz := hid hB2.out.size
    have hla := hid (show [(75 : Int)].length + (keyV u [b0, b1, b2, b3, b4, b5, b6, b7, b8, b9, b10, b11]).length ≤ 140737488355328 / 1 by rw [List.length_singleton]; omega)
    clear hO hA own hB1 hdl hkl g0 g1 g2 g3 g4 g5 g6 g7 g8 g9 g10 g11 g12 f0 f1 f2 f3 f4 f5 f6 f7 f8 f9 f10 f11 f12 f13
    generalize keyV u [b0, b1, b2, b3, b4, b5, b6, b7, b8, b9, b10, b11] = L at *
    go_wp2_with (first | (at_builtin; refine wpList_app _ rfl (.tmp 7) (.tmp 10) 22 rfl w.heap.size 5 .u8 1 bytesOf (.slice (some ⟨U1.heap.size, 0, none⟩) 1 1) [75] rfl own2.out da dc L rfl hS.out.2.2.2.2 hS.out.2.2.2.1 hla.out (by omega) sz.out ?_))
    intro v9 w9 hO9 hG
    obtain ⟨ga, gc, hv9, -⟩ := hO9.sl
    subst hv9
    have hB9 := hid (own2.out.grew hG hB2.out (Nat.le_refl _) sz.out)
    replace hO9 := hid hO9
    clear hG
    go_wp2_with fail
    go_ret
    show ∃ a c, _ ∧ _
    rw [e.out]
    exact ⟨ga, gc, rfl, hO9.out, hB9.out⟩

end Go.Proofs.Ytlfbhfmchdbnoaa

/- Package block: Size. -/
namespace Go.Proofs.Ytlfbhfmchdbnoaa
open Go.ChangeShapes Go.WideShapes Go.ChangeAt Go.RowKit
set_option linter.unusedVariables false
set_option linter.unusedSimpArgs false

def entC (x : En) : List Value := .bool x.1 :: .int .u32 x.2.1 :: x.2.2.map (Value.int .i32)
def entsV (l : List En) : List (List Value) := l.map entC
theorem entsV_at {l : List En} {k : Nat} {x : En} (h : l[k]? = some x) : (entsV l)[k]? = some (entC x) := by simp [entsV, h]
def EnOk (x : En) : Prop := (0 ≤ x.2.1 ∧ x.2.1 ≤ 4294967295) ∧ x.2.2.length = 12 ∧ ∀ y ∈ x.2.2, -2147483648 ≤ y ∧ y ≤ 2147483647
theorem Els.at14 {w : World} {a : Option Addr} {len cap k : Nat} {l : List (List Value)} {kb : Bool} {u b0 b1 b2 b3 b4 b5 b6 b7 b8 b9 b10 b11 : Int} (h : Els w 14 a len cap l) (hx : l[k]? = some (entC (kb, u, [b0, b1, b2, b3, b4, b5, b6, b7, b8, b9, b10, b11]))) : ∃ b off, a = some ⟨b, off, none⟩ ∧ w.cell? ⟨b, off + k * 14, none⟩ = some (.bool kb) ∧ w.cell? ⟨b, off + k * 14 + 1, none⟩ = some (.int .u32 u) ∧ w.cell? ⟨b, off + k * 14 + 2, none⟩ = some (.int .i32 b0) ∧ w.cell? ⟨b, off + k * 14 + 3, none⟩ = some (.int .i32 b1) ∧ w.cell? ⟨b, off + k * 14 + 4, none⟩ = some (.int .i32 b2) ∧ w.cell? ⟨b, off + k * 14 + 5, none⟩ = some (.int .i32 b3) ∧ w.cell? ⟨b, off + k * 14 + 6, none⟩ = some (.int .i32 b4) ∧ w.cell? ⟨b, off + k * 14 + 7, none⟩ = some (.int .i32 b5) ∧ w.cell? ⟨b, off + k * 14 + 8, none⟩ = some (.int .i32 b6) ∧ w.cell? ⟨b, off + k * 14 + 9, none⟩ = some (.int .i32 b7) ∧ w.cell? ⟨b, off + k * 14 + 10, none⟩ = some (.int .i32 b8) ∧ w.cell? ⟨b, off + k * 14 + 11, none⟩ = some (.int .i32 b9) ∧ w.cell? ⟨b, off + k * 14 + 12, none⟩ = some (.int .i32 b10) ∧ w.cell? ⟨b, off + k * 14 + 13, none⟩ = some (.int .i32 b11) := by
  obtain ⟨_, b, off, e, hc⟩ := h.2.2.2.2 k _ hx
  exact ⟨b, off, e, hc 0 _ rfl, hc 1 _ rfl, hc 2 _ rfl, hc 3 _ rfl, hc 4 _ rfl, hc 5 _ rfl, hc 6 _ rfl, hc 7 _ rfl, hc 8 _ rfl, hc 9 _ rfl, hc 10 _ rfl, hc 11 _ rfl, hc 12 _ rfl, hc 13 _ rfl⟩
theorem layS_len {st : Int × List Int} {x : En} (h1 : ∀ y ∈ st.2, -2147483648 ≤ y ∧ y ≤ 2147483647) (hx : EnOk x) : (layS st x).length ≤ 68 := by
  unfold layS
  split
  · rw [List.length_cons, keyV_len _ _ hx.2.1]; omega
  · have := (deltaV_len (t := st.1) (u := x.2.1) (get_bd h1) (get_bd hx.2.2)).2
    rw [List.length_cons]; omega
theorem take_snocE {l : List En} {k : Nat} {x : En} (hx : l[k]? = some x) : l.take (k + 1) = l.take k ++ [x] := by
  rw [List.take_add_one, hx]; rfl
end Go.Proofs.Ytlfbhfmchdbnoaa

/- Package block: the papers' entries. -/
namespace Go.Proofs.Ytlfbhfmchdbnoaa
open Go.ChangeShapes Go.WideShapes Go.ChangeAt Go.RowKit
set_option linter.unusedVariables false
set_option linter.unusedSimpArgs false

theorem Own.kept2 {k : IntKind} {E T : TypeId} {w W : World} {base p : Nat} {v : Value} {zs : List Int} {c : Array Value} {f : Nat × Nat} (h : Own k E w base v zs) (hp : w.heap[p]? = some (.cells c T f)) (hT : T ≠ E) (ho : Only p w W) : Own k E W base v zs :=
  World.ownsRow.kept (w' := W) (row := some p) h ⟨ho.os, ho.tape, ho.output, by rw [ho.size]; exact Nat.le_refl _, fun k hk hne => ho.block k (fun e => hne (by rw [e]))⟩ (.inr (fun e => own_ne h hp hT e.symm))
set_option maxRecDepth 100000 in
set_option maxHeartbeats 8000000 in
theorem rentries_any (a : Option Addr) (cap : Nat) (l : List En) (w : World) (hE : Els w 14 a l.length cap (entsV l)) (h100 : l.length ≤ 1000) (hl : ∀ x ∈ l, EnOk x) : Calls Try.prog 49 #[.slice a l.length cap] w (BytesOk w (entS (0, zer12) l)) := by
  have hall := hid (show entS (0, zer12) (l.take l.length) = entS (0, zer12) l from by rw [List.take_length])
  obtain ⟨G, hG⟩ : ∃ g, entS (0, zer12) l = g := ⟨_, rfl⟩
  rw [hG] at hall ⊢
  clear hG
  replace hl := hid hl
  replace hE := hid hE
  go_enter Try.func49, Try.ntmps49
  go_upto_region 2 with (fail)
  apply wp_region_seg0 (w := w) (S := [.q [], .al 2, .st 1 []]) (E := [.q0 _, .al ((fun p => .pointer (some ⟨p, 0, none⟩)), _) 2, .s0 1 (.cells _ _)]) rfl (by kernel_rfl) rfl rfl
  intro th hge hne
  refine Seg.step _ rfl (Or.inl ⟨by rfl, fun U hU => vp_quiet (by (go_simp <;> exact rfl))⟩) ⟨_, by (simp only [Ent.val]; go_simp <;> exact rfl), ?_⟩
  refine Seg.step _ rfl ⟨by rfl, fun U hU => ?_⟩ ?_
  · go_simp; exact vp_alloc rfl rfl rfl
  refine ⟨_, by (simp only [Ent.val]; go_simp <;> exact rfl), ?_⟩
  refine Seg.step _ rfl ⟨by rfl, fun U z k hz hU hc => ?_⟩ ?_
  · have hz2 := Option.some.inj hz
    cases hz2; clear hz
    exact vp_store_agg _ _ _ rfl hc rfl rfl (by kernel_rfl) rfl (by rfl)
  refine ⟨_, by (simp only [Ent.val]; go_simp <;> exact rfl), ?_⟩
  refine Seg.stop (fun U1 hU hk => ?_)
  have nb1 := hge 1 _ _ rfl
  have rb1 := (hk 1 _ 2 rfl trivial).1.1 trivial _ (Nat.zero_le _) rfl
  clear hk hge hne
  generalize th (0 + 1) = p2_1 at *
  simp only [Ent.obj] at rb1
  have r_p2_1 := rb1
  clear rb1
  have n_p2_1 := nb1
  clear nb1
  have sz1 := hU.size
  have hB : Below w.heap.size w U1 := hU
  clear hU
  have np := n_p2_1
  replace hB := hid hB
  have r0 := hid (show U1.heap[p2_1]? = some (.cells (recC 0 zer12) 65 (0, 0)) from r_p2_1)
  clear r_p2_1
  go_wp2_with fail
  go_loopw [3, 5] (fun ov ix wr => ∃ (k : Nat) (ad : Option Addr) (cp : Nat) (L : List Int) (T : Int) (v : List Int), k ≤ l.length ∧ ix = .int .i64 k ∧ ov = .slice ad L.length cp ∧ Hid (entS (0, zer12) (l.take k) = L) ∧ L.length ≤ 68 * k ∧ Own .u8 5 wr w.heap.size (.slice ad L.length cp) L ∧ Hid (lastR (0, zer12) (l.take k) = (T, v)) ∧ (0 ≤ T ∧ T ≤ 4294967295) ∧ Hid (v.length = 12 ∧ ∀ y ∈ v, -2147483648 ≤ y ∧ y ≤ 2147483647) ∧ wr.heap[p2_1]? = some (.cells (recC T v) 65 (0, 0)) ∧ Below w.heap.size w wr) (fun _ ix _ => l.length - (intOf ix).toNat)
  case atStart => exact ⟨0, none, 0, [], 0, zer12, by omega, rfl, rfl, hid rfl, by simp, Own.nil _ _ _ _, hid rfl, by omega, hid ⟨rfl, by intro y hy; simp [zer12] at hy; subst hy; decide⟩, r0.out, hB.out⟩
  case round =>
    clear r0 hB
    obtain ⟨k, ad, cp, L, T, v, hk, rfl, rfl, hn, hn68, hO, hla, hT, hv, r0, hB⟩ := hrel
    replace hO := hid hO
    by_cases hlt : (k : Int) < l.length
    case neg =>
      obtain rfl : k = l.length := by omega
      have e : G = L := by rw [← hn.out, hall.out]
      subst e
      clear hn hall hla hv
      replace r0 := hid r0
      replace hB := hid hB
      go_wp2_with fail
      go_ret
      exact ⟨ad, cp, rfl, hO.out, hB.out⟩
    obtain ⟨x, hx⟩ : ∃ x, l[k]? = some x := ⟨_, List.getElem?_eq_getElem (show k < l.length by omega)⟩
    have hxo := hl.out x (List.mem_of_getElem? hx)
    have hsn := hid (entS_snoc (0, zer12) (l.take k) x)
    have hls := hid (lastR_snoc (0, zer12) (l.take k) x)
    rw [← take_snocE hx] at hsn hls
    rw [hla.out, hn.out] at hsn
    have hll := layS_len (st := (T, v)) (x := x) hv.out.2 hxo
    obtain ⟨kb, u, bl⟩ := x
    obtain ⟨hu, hbl, hbb⟩ := hxo
    dsimp only at hu hbl hbb
    obtain ⟨b0, b1, b2, b3, b4, b5, b6, b7, b8, b9, b10, b11, rfl⟩ := list12 hbl
    obtain ⟨hvl, hvb⟩ := hv.out
    obtain ⟨a0, a1, a2, a3, a4, a5, a6, a7, a8, a9, a10, a11, rfl⟩ := list12 hvl
    have kL := hid (fun U => rlay_any T u a0 a1 a2 a3 a4 a5 a6 a7 a8 a9 a10 a11 b0 b1 b2 b3 b4 b5 b6 b7 b8 b9 b10 b11 kb U hT hu hvb hbb)
    have hEx := hid (entsV_at hx)
    obtain ⟨bb, off, hab, g0, g1, g2, g3, g4, g5, g6, g7, g8, g9, g10, g11, g12, g13⟩ := (hE.out.below hB).at14 hEx.out
    obtain ⟨LY, hLY⟩ : ∃ y, layS (T, [a0, a1, a2, a3, a4, a5, a6, a7, a8, a9, a10, a11]) (kb, u, [b0, b1, b2, b3, b4, b5, b6, b7, b8, b9, b10, b11]) = y := ⟨_, rfl⟩
    rw [hLY] at hsn hll kL
    clear hLY
    have hbo := hid (And.intro hbl hbb)
    have hla9 := hid (show L.length + LY.length ≤ 140737488355328 / 1 by omega)
    have hn8 := hid (show (L ++ LY).length ≤ 68 * (k + 1) by rw [List.length_append]; omega)
    clear hvl hvb hbl hbb hla hv hn hx
    replace kL := hid kL
    have kz : (0 : Int) ≤ k := by omega
    have wk : IntKind.i64.wrap ((k : Int) + 1) = (k : Int) + 1 := by rw [IntKind.wrap_i64]; omega
    have hk1 := hid (show k + 1 ≤ l.length by omega)
    have r0l : wr.heap[p2_1]? = some (.cells #[.int .u32 T, .int .i32 a0, .int .i32 a1, .int .i32 a2, .int .i32 a3, .int .i32 a4, .int .i32 a5, .int .i32 a6, .int .i32 a7, .int .i32 a8, .int .i32 a9, .int .i32 a10, .int .i32 a11] 65 (0, 0)) := r0
    have rD := hid (show wr.drew.heap[p2_1]? = _ from r0l)
    have aD := hid (show After wr wr.drew from (Below.refl _ wr).drew)
    replace hB := hid hB
    clear r0 r0l hk
    subst hab
    go_upto_region 6 with (fail)
    refine (wpIn_wide (n := 9)).1 ?_
    refine wpIn_region_preR 7 2 (by simp only [List.extract_toArray, List.extract_eq_take_drop, Nat.sub_zero, List.drop_zero, List.take_succ_cons, List.take_zero]; rfl) (by kernel_rfl) rfl (by kernel_rfl) ?_
    refine wpAnyR_take 0 rfl (by kernel_rfl) (by kernel_rfl) (by kernel_rfl) (fun _ _ _ _ h => by cases h.1) ⟨_, Or.inl ⟨by rfl, fun w2 hb2 => by (go_simp; try with_reducible rfl)⟩, _, by (go_simp; try rfl), ?_⟩
    refine wpAnyR_take 1 rfl (by kernel_rfl) (by kernel_rfl) (by kernel_rfl) (fun _ _ _ _ h => by cases h.1) ⟨_, Or.inl ⟨by rfl, fun w2 hb2 => by (have hr := held_after hb2 rD.out; have q0 := held_cell hr 0 _ rfl; have q1 := held_cell hr 1 _ rfl; have q2 := held_cell hr 2 _ rfl; have q3 := held_cell hr 3 _ rfl; have q4 := held_cell hr 4 _ rfl; have q5 := held_cell hr 5 _ rfl; have q6 := held_cell hr 6 _ rfl; have q7 := held_cell hr 7 _ rfl; have q8 := held_cell hr 8 _ rfl; have q9 := held_cell hr 9 _ rfl; have q10 := held_cell hr 10 _ rfl; have q11 := held_cell hr 11 _ rfl; have q12 := held_cell hr 12 _ rfl; go_simp; try with_reducible rfl)⟩, _, by (go_simp; try rfl), ?_⟩
    refine wpAnyR_take 2 rfl (by kernel_rfl) (by kernel_rfl) (by kernel_rfl) (fun _ _ _ _ h => by cases h.1) ⟨_, Or.inl ⟨by rfl, fun w2 hb2 => by (go_simp; try with_reducible rfl)⟩, _, by (go_simp; try rfl), ?_⟩
    refine wpAnyR_take 3 rfl (by kernel_rfl) (by kernel_rfl) (by kernel_rfl) (fun _ _ _ _ h => by cases h.1) ⟨_, Or.inl ⟨by rfl, fun w2 hb2 => by (go_simp; try with_reducible rfl)⟩, _, by (go_simp; try rfl), ?_⟩
    refine wpAnyR_take 4 rfl (by kernel_rfl) (by kernel_rfl) (by kernel_rfl) (fun _ _ _ _ h => by cases h.1) ⟨_, Or.inl ⟨by rfl, fun w2 hb2 => by (go_simp; try with_reducible rfl)⟩, _, by (go_simp; try rfl), ?_⟩
    refine wpAnyR_take 5 rfl (by kernel_rfl) (by kernel_rfl) (by kernel_rfl) (fun _ _ _ _ h => by cases h.1) ⟨_, Or.inl ⟨by rfl, fun w2 hb2 => by (have h0 := (Below.cell hb2 (World.block_lt_of_cell? wr _ g0)).trans g0; have h1 := (Below.cell hb2 (World.block_lt_of_cell? wr _ g1)).trans g1; have h2 := (Below.cell hb2 (World.block_lt_of_cell? wr _ g2)).trans g2; have h3 := (Below.cell hb2 (World.block_lt_of_cell? wr _ g3)).trans g3; have h4 := (Below.cell hb2 (World.block_lt_of_cell? wr _ g4)).trans g4; have h5 := (Below.cell hb2 (World.block_lt_of_cell? wr _ g5)).trans g5; have h6 := (Below.cell hb2 (World.block_lt_of_cell? wr _ g6)).trans g6; have h7 := (Below.cell hb2 (World.block_lt_of_cell? wr _ g7)).trans g7; have h8 := (Below.cell hb2 (World.block_lt_of_cell? wr _ g8)).trans g8; have h9 := (Below.cell hb2 (World.block_lt_of_cell? wr _ g9)).trans g9; have h10 := (Below.cell hb2 (World.block_lt_of_cell? wr _ g10)).trans g10; have h11 := (Below.cell hb2 (World.block_lt_of_cell? wr _ g11)).trans g11; have h12 := (Below.cell hb2 (World.block_lt_of_cell? wr _ g12)).trans g12; have h13 := (Below.cell hb2 (World.block_lt_of_cell? wr _ g13)).trans g13; go_simp; try with_reducible rfl)⟩, _, by (go_simp; try rfl), ?_⟩
    refine wpAnyR_only 6 rfl (by kernel_rfl) (by rfl) (fun K hK => ?_)
    go_simp
    refine (kL.out _).mono ?_
    rintro e V ⟨qa, qc, rfl, hOy, hA⟩
    have hAw := hid (bthen aD.out hA)
    have hSy := hid hOy.slf
    have rV := hid (held_after hA rD.out)
    clear hOy
    go_simp
    refine hK _ _ ⟨hA, ?_⟩
    clear hK
    clear hA
    refine wpAnyR_done (by kernel_rfl) ?_ _
    refine ⟨rfl, ?_⟩
    have hO6 := hid (hO.out.below hAw.out)
    have hB6 := hid (bthen hB.out hAw.out)
    have sz6 := hid hB6.out.size
    clear hAw hO hB rD aD kL g0 g1 g2 g3 g4 g5 g6 g7 g8 g9 g10 g11 g12 g13
    refine Seg.onlyIn (m := 7) (k := 1) rfl (by kernel_rfl) (by rfl) (fun K hK => ?_)
    refine wpIn_of_false (Q1 := fun _ _ _ => False) (fun _ _ _ _ h => h) ?_
    refine wp_app _ (.tmp 13) (.tmp 19) 22 rfl w.heap.size 5 .u8 1 bytesOf (.slice ad L.length cp) L rfl hO6.out qa qc LY rfl hSy.out.2.2.2.2 hSy.out.2.2.2.1 hla9.out (by omega) sz6.out ?_
    intro v8 w8 hO8 hG
    obtain ⟨gb, gd, hv8, -⟩ := hO8.sl
    subst hv8
    have r8 := held_grown rV.out hG (own_ne hO6.out rV.out (by decide))
    have hB8 := hO6.out.grew hG hB6.out (Nat.le_refl _) sz6.out
    obtain ⟨ba, oa, hab, g0, g1, g2, g3, g4, g5, g6, g7, g8, g9, g10, g11, g12, g13⟩ := (hE.out.below hB8).at14 hEx.out
    cases hab
    obtain ⟨L2, hL2⟩ : ∃ z, L ++ LY = z := ⟨_, rfl⟩
    have hsn2 := hsn.out
    have hn82 := hn8.out
    rw [hL2] at hO8 hsn2 hn82 ⊢
    replace hsn := hid hsn2
    replace hn8 := hid hn82
    clear hsn2 hn82 hL2 hG hO6 hB6 rV hSy
    refine hK _ _ ?_
    clear hK
    refine Seg.onlyIn (m := 8) (k := 0) rfl (by kernel_rfl) (by rfl) (fun K hK => ?_)
    refine wpIn_of_false (Q1 := fun _ _ _ => False) (fun _ _ _ _ h => h) ?_
    go_simp
    refine hK _ _ ?_
    clear hK
    refine Seg.finishIn ?_ _
    have y0 := held_cell r8 0 _ rfl
    have y1 := held_cell r8 1 _ rfl
    have y2 := held_cell r8 2 _ rfl
    have y3 := held_cell r8 3 _ rfl
    have y4 := held_cell r8 4 _ rfl
    have y5 := held_cell r8 5 _ rfl
    have y6 := held_cell r8 6 _ rfl
    have y7 := held_cell r8 7 _ rfl
    have y8 := held_cell r8 8 _ rfl
    have y9 := held_cell r8 9 _ rfl
    have y10 := held_cell r8 10 _ rfl
    have y11 := held_cell r8 11 _ rfl
    have y12 := held_cell r8 12 _ rfl
    have f0 := held_free r8 0
    have f1 := held_free r8 1
    have f2 := held_free r8 2
    have f3 := held_free r8 3
    have f4 := held_free r8 4
    have f5 := held_free r8 5
    have f6 := held_free r8 6
    have f7 := held_free r8 7
    have f8 := held_free r8 8
    have f9 := held_free r8 9
    have f10 := held_free r8 10
    have f11 := held_free r8 11
    have f12 := held_free r8 12
    obtain ⟨W4, hW4, ya, yO⟩ := st13 r8 (.int .u32 u) (.int .i32 b0) (.int .i32 b1) (.int .i32 b2) (.int .i32 b3) (.int .i32 b4) (.int .i32 b5) (.int .i32 b6) (.int .i32 b7) (.int .i32 b8) (.int .i32 b9) (.int .i32 b10) (.int .i32 b11)
    have ya2 := hid (show W4.heap[p2_1]? = some (.cells (recC u [b0, b1, b2, b3, b4, b5, b6, b7, b8, b9, b10, b11]) 65 (0, 0)) from ya)
    have hB4 := hid (belowS hB8 yO np)
    have hO4 := hid (hO8.kept2 r8 (by decide) yO)
    clear ya yO hO8 hB8 r8
    go_wp2_with fail
    go_roundw
    case rel => exact ⟨k + 1, gb, gd, L2, u, [b0, b1, b2, b3, b4, b5, b6, b7, b8, b9, b10, b11], hk1.out, by simp, rfl, hsn, hn8.out, hO4.out, hls, hu, hbo, ya2.out, hB4.out⟩
    case measure => simp [intOf]; omega

end Go.Proofs.Ytlfbhfmchdbnoaa

/- Package block: the papers' Size; empty. -/
namespace Go.Proofs.Ytlfbhfmchdbnoaa
open Go.ChangeShapes Go.WideShapes Go.ChangeAt Go.RowKit
set_option linter.unusedVariables false
set_option linter.unusedSimpArgs false

theorem rsize_any (a : Option Addr) (cap : Nat) (l : List En) (w : World) (hE : Els w 14 a l.length cap (entsV l)) (h100 : l.length ≤ 1000) (hl : ∀ x ∈ l, EnOk x) : Calls Try.prog 38 #[.slice a l.length cap] w fun e w' => e = .returned (.int .i64 (((entS (0, zer12) l).length : Nat) : Int)) ∧ After w w' := by
  go_enter Try.func38, Try.ntmps38
  go_wp2_with fail
  refine (rentries_any a cap l _ hE h100 hl).mono ?_
  rintro e V ⟨qa, qc, rfl, hO, hA⟩
  go_wp2_with fail
  go_ret
  exact ⟨rfl, hA⟩
theorem all0 {zs : List Int} {k : Nat} (h : ∀ x ∈ zs.take k, x = 0) (hk : k < zs.length) (hx : zs.getD k 0 = 0) : ∀ x ∈ zs.take (k + 1), x = 0 := by
  intro x hm
  rw [List.take_add_one, List.mem_append] at hm
  rcases hm with hm | hm
  · exact h x hm
  · rw [List.getElem?_eq_getElem hk] at hm
    have e : zs.getD k 0 = zs[k] := by simp [hk]
    rw [Option.toList_some, List.mem_singleton] at hm
    rw [hm, ← e, hx]
def emptyV (zs : List Int) : Bool := zs.all (fun x => x == 0)
theorem emptyV_true {zs : List Int} (h : ∀ x ∈ zs, x = 0) : emptyV zs = true := by
  rw [emptyV, List.all_eq_true]; intro x hx; rw [h x hx]; rfl
theorem emptyV_false {zs : List Int} {k : Nat} (hk : k < zs.length) (hx : zs.getD k 0 ≠ 0) : emptyV zs = false := by
  rw [emptyV, List.all_eq_false]
  refine ⟨zs[k], List.getElem_mem hk, ?_⟩
  have e : zs.getD k 0 = zs[k] := by simp [hk]
  rw [← e]; simpa using hx
set_option maxHeartbeats 1000000 in
theorem empty_any (a : Option Addr) (len cap : Nat) (zs : List Int) (w : World) (hl : len ≤ 1000000) (hsl : Sl .u8 w a len cap zs) (hz : ∀ n ∈ zs, (Lit.int .u8 n).wf = true) :
    Calls Try.prog 48 #[.slice a len cap] w fun e w' => e = .returned (.bool (emptyV zs)) ∧ w' = w := by
  obtain ⟨rfl, -, -, -, hr⟩ := hsl
  replace hr := hid hr
  replace hz := hid hz
  go_enter Try.func48, Try.ntmps48
  go_wp2_with fail
  go_loopw [7] (fun i wr => ∃ (k : Nat), k ≤ zs.length ∧ wr = w ∧ i = .int .i64 k ∧ Hid (∀ x ∈ zs.take k, x = 0)) (fun i _ => zs.length - (intOf i).toNat)
  case atStart => exact ⟨0, by omega, rfl, rfl, hid (by simp)⟩
  case round =>
    obtain ⟨k, hk, rfl, rfl, hs⟩ := hrel
    by_cases hlt : (k : Int) < zs.length
    · have hlt2 : k < zs.length := by omega
      obtain ⟨b, off, rfl, hc⟩ := hr.out k hlt2
      have h0 := hid (all0 hs.out hlt2)
      have h1 := hid (emptyV_false (zs := zs) hlt2)
      clear hs
      generalize zs.getD k 0 = x at *
      by_cases hx : x = 0
      · have h9 := hid (h0.out hx)
        have hq : (x != 0) = false := by simp [hx]
        clear h0 h1 hx
        go_wp2_with fail
        go_roundw
        case rel => exact ⟨k + 1, by omega, trivial, by simp, h9⟩
        case measure => simp [intOf]; omega
      · have h9 := hid (h1.out hx)
        have hq : (x != 0) = true := by simp [hx]
        clear h0 h1 hx
        go_wp2_with fail
        go_ret
        exact ⟨by rw [h9.out]; rfl, rfl⟩
    · go_wp2_with fail
      go_ret
      obtain rfl : k = zs.length := by omega
      have h9 := hs.out
      rw [List.take_length] at h9
      exact ⟨by rw [emptyV_true h9]; rfl, rfl⟩

end Go.Proofs.Ytlfbhfmchdbnoaa
