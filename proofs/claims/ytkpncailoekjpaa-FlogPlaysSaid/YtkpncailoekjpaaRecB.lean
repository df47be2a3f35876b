/- What package rec lays, it takes as it was; and back. -/
import Derived.Test.YtkpncailoekjpaaRecM
import Derived.Deep.DeepCutAuto
namespace Go.Proofs.Ytkpncailoekjpaa
open Go.ChangeShapes Go.WideShapes Go.ChangeAt Go.RowKit
set_option linter.unusedVariables false
set_option linter.unusedSimpArgs false

theorem vpF_lenb : ∀ (f m u : Nat), u < 128 ^ (m + 1) → (vpF f u).length ≤ m + 1
  | 0, m, u, _ => by have := vpF_len 0 u; omega
  | f + 1, m, u, h => by
    by_cases c : 127 < u
    · rw [vpF_more f u c, List.length_cons]
      cases m with
      | zero => simp at h; omega
      | succ m =>
        have h2 : u / 128 < 128 ^ (m + 1) := by
          rw [Nat.pow_succ] at h
          exact Nat.div_lt_of_lt_mul (by rw [Nat.mul_comm]; exact h)
        have := vpF_lenb f m (u / 128) h2
        omega
    · rw [vpF_last _ u c]; simp
theorem vpF_pos : ∀ (f u : Nat), 1 ≤ (vpF f u).length
  | 0, u => by
    by_cases c : 127 < u
    · unfold vpF; simp
    · rw [vpF_last _ u c]; simp
  | f + 1, u => by
    by_cases c : 127 < u
    · rw [vpF_more f u c, List.length_cons]; omega
    · rw [vpF_last _ u c]; simp
theorem vpS_l {u : Nat} (m : Nat) (h : u < 128 ^ (m + 1)) : (vpS u).length ≤ m + 1 := vpF_lenb 9 m u h
theorem vpS_pos (u : Nat) : 1 ≤ (vpS u).length := vpF_pos 9 u
theorem intsS_l5 : ∀ (l : List Int), (∀ x ∈ l, -4294967296 ≤ x ∧ x ≤ 4294967296) → (intsS l).length ≤ 5 * l.length
  | [], _ => by simp [intsS]
  | x :: l, h => by
    have hx := h x (by simp)
    have ih := intsS_l5 l (fun y hy => h y (List.mem_cons_of_mem _ hy))
    have e : intsS (x :: l) = vpS (zigS x).toNat ++ intsS l := rfl
    have h5 : (vpS (zigS x).toNat).length ≤ 5 := vpS_l 4 (by
      have : (128 : Nat) ^ (4 + 1) = 34359738368 := by decide
      rw [this]; unfold zigS; split <;> omega)
    rw [e, List.length_append, List.length_cons]
    omega
theorem mskF_same (a : List Int) : ∀ k, mskF a a k = 0
  | 0 => rfl
  | k + 1 => by rw [mskF_eq rfl, mskF_same a k]
theorem late_bd (t u : Int) : lateV t u ≤ 4294967295 := by unfold lateV; omega
theorem deltaV_len {t u : Int} {a b : List Int} (ha : ∀ j, -2147483648 ≤ a.getD j 0 ∧ a.getD j 0 ≤ 2147483647) (hb : ∀ j, -2147483648 ≤ b.getD j 0 ∧ b.getD j 0 ≤ 2147483647) : 2 ≤ (deltaV t u a b).length ∧ (deltaV t u a b).length ≤ 67 := by
  have hL := late_bd t u
  have h1 : (vpS (lateV t u)).length ≤ 5 := vpS_l 4 (by have : (128 : Nat) ^ (4 + 1) = 34359738368 := by decide
                                                        omega)
  have hm := mskF_lt a b 12
  have h2 : (vpS (mskF a b 12)).length ≤ 2 := vpS_l 1 (by have e1 : (128 : Nat) ^ (1 + 1) = 16384 := by decide
                                                          have e2 : (2 : Nat) ^ 12 = 4096 := by decide
                                                          omega)
  have hc := chgF_len a b 12
  have h3 := intsS_l5 ((chgF a b 12).map Prod.snd) (fun x hx => by
    obtain ⟨y, hy, rfl⟩ := List.mem_map.1 hx
    exact (chgF_bd ha hb 12 y hy).2.1)
  rw [List.length_map] at h3
  have p1 := vpS_pos (lateV t u)
  have p2 := vpS_pos (mskF a b 12)
  unfold deltaV
  rw [List.length_append, List.length_append]
  omega
theorem deltaV_two {t r : Int} (a : List Int) (h : lateV t r < 128) : (deltaV t r a a).length = 2 := by
  unfold deltaV
  rw [mskF_same, chgF_same]
  have h1 : (vpS (lateV t r)).length ≤ 1 := vpS_l 0 (by simpa using h)
  have h2 : (vpS 0).length = 1 := rfl
  have p1 := vpS_pos (lateV t r)
  rw [List.length_append, List.length_append]
  have h3 : (intsS (([] : List (Int × Int)).map Prod.snd)).length = 0 := rfl
  omega
theorem keyF_drop : ∀ (v : List Int) (i : Nat) (R : List Int), i < v.length → ∃ R', (keyF v ++ R).drop (4 * i) = bytesL (wrapU (v.getD i 0)) 4 ++ R'
  | [], i, R, h => by simp at h
  | x :: v, 0, R, _ => by
    have e : keyF (x :: v) = bytesL (wrapU x) 4 ++ keyF v := rfl
    exact ⟨keyF v ++ R, by rw [e, List.append_assoc]; rfl⟩
  | x :: v, i + 1, R, h => by
    have e : keyF (x :: v) = bytesL (wrapU x) 4 ++ keyF v := rfl
    obtain ⟨R', hR⟩ := keyF_drop v i R (by simpa using h)
    refine ⟨R', ?_⟩
    rw [e, List.append_assoc, show 4 * (i + 1) = 4 + 4 * i from by omega, ← List.drop_drop, List.drop_left' (bytesL_len _ 4), hR]
    rfl
theorem takK_key {t : Int} {v : List Int} (ht : 0 ≤ t ∧ t ≤ 4294967295) (hl : v.length = 12) (hv : ∀ x ∈ v, -2147483648 ≤ x ∧ x ≤ 2147483647) (R : List Int) : takK (keyV t v ++ R) = ((t, v), 52, 0) := by
  have hlen : (keyV t v ++ R).length = 52 + R.length := by unfold keyV; rw [List.length_append, List.length_append, bytesL_len, keyF_len, hl]
  have e0 : keyV t v ++ R = bytesL t 4 ++ (keyF v ++ R) := by unfold keyV; rw [List.append_assoc]
  have h1 : ((numB ((keyV t v ++ R).take 4) 4 : Nat) : Int) = t := by
    rw [e0]; exact (read_u t 4 ht.1 (fit4 ht.1 ht.2) (keyF v ++ R)).1
  unfold takK
  rw [if_neg (by omega), h1]
  have h2 : (List.range 12).map (fieldK (keyV t v ++ R)) = v := by
    refine List.ext_getElem (by simp [hl]) fun i hi1 hi2 => ?_
    rw [List.getElem_map, List.getElem_range]
    obtain ⟨R', hR⟩ := keyF_drop v i R hi2
    have hx := hv _ (List.mem_of_getElem? (getD_at hi2))
    unfold fieldK
    rw [e0, ← List.drop_drop, List.drop_left' (bytesL_len t 4), hR]
    have hr := (read_i (v.getD i 0) 4 (fit4i hx.1 hx.2) R').1
    have e : v.getD i 0 = v[i] := by simp [hi2]
    rw [← e]
    exact hr
  rw [h2]
theorem zig_zag (u : Int) (h : 0 ≤ u) : zigS (zagS u) = u := by unfold zigS zagS; split <;> split <;> omega
theorem mskF_bit (a b : List Int) : ∀ n k, k < n → mskF a b n / 2 ^ k % 2 = if b.getD k 0 = a.getD k 0 then 0 else 1
  | 0, k, h => by omega
  | n + 1, k, h => by
    have hlt := mskF_lt a b n
    by_cases e : k = n
    · subst e
      by_cases c : b.getD k 0 = a.getD k 0
      · rw [mskF_eq c, if_pos c, Nat.div_eq_of_lt hlt]
      · rw [mskF_ne c, if_neg c]
        have hp : 0 < 2 ^ k := Nat.pow_pos (by decide)
        rw [Nat.add_div_right _ hp, Nat.div_eq_of_lt hlt]
    · have ih := mskF_bit a b n k (by omega)
      by_cases c : b.getD n 0 = a.getD n 0
      · rw [mskF_eq c]; exact ih
      · rw [mskF_ne c, ← ih]
        have e2 : 2 ^ n = 2 ^ k * (2 * 2 ^ (n - k - 1)) := by
          rw [← Nat.pow_succ', ← Nat.pow_add]; congr 1; omega
        have hp : 0 < 2 ^ k := Nat.pow_pos (by decide)
        rw [e2, Nat.add_mul_div_left _ _ hp, Nat.add_mul_mod_self_left]
theorem takD_delta {t u : Int} {a b : List Int} (ht : 0 ≤ t ∧ t ≤ 4294967295) (hu : 0 ≤ u ∧ u ≤ 4294967295) (hal : a.length = 12) (hbl : b.length = 12) (ha : ∀ j, -2147483648 ≤ a.getD j 0 ∧ a.getD j 0 ≤ 2147483647) (hb : ∀ j, -2147483648 ≤ b.getD j 0 ∧ b.getD j 0 ≤ 2147483647) (R : List Int) : takD t a (deltaV t u a b ++ R) = ((u, b), ((deltaV t u a b).length : Int), 0) := by
  have hL := late_bd t u
  have hm : mskF a b 12 ≤ 4095 := by have := mskF_lt a b 12; have e : (2 : Nat) ^ 12 = 4096 := by decide
                                     omega
  have hTu : (t + ((lateV t u : Nat) : Int)) % 4294967296 = u := by unfold lateV; omega
  have hbit := mskF_bit a b 12
  have hdl : (deltaV t u a b).length = (vpS (lateV t u)).length + (vpS (mskF a b 12)).length + (intsS ((chgF a b 12).map Prod.snd)).length := by unfold deltaV; rw [List.length_append, List.length_append]
  have hbs : deltaV t u a b ++ R = vpS (lateV t u) ++ (vpS (mskF a b 12) ++ (intsS ((chgF a b 12).map Prod.snd) ++ R)) := by unfold deltaV; simp only [List.append_assoc]
  obtain ⟨bs, hbs1⟩ : ∃ bs, deltaV t u a b ++ R = bs := ⟨_, rfl⟩
  rw [hbs1] at hbs ⊢
  rw [hdl]
  generalize lateV t u = L at *
  generalize mskF a b 12 = m at *
  have h1 : nxS bs 0 0 4294967295 = (L, (vpS L).length, 0) := by
    have := nx_ok (bs := bs) (n := 0) (hi := 4294967295) (by rw [List.drop_zero, hbs]; exact vtake_putS L _ (by omega)) (by omega)
    rw [Nat.zero_add] at this; exact this
  have h2 : nxS bs (vpS L).length 0 4095 = (m, (vpS L).length + (vpS m).length, 0) :=
    nx_ok (by rw [hbs, List.drop_left]; exact vtake_putS m _ (by omega)) (by omega)
  have key : ∀ k, k ≤ 12 → ∃ v, tdL bs a m ((vpS L).length + (vpS m).length) 0 k = (v, (vpS L).length + (vpS m).length + (intsS ((chgF a b k).map Prod.snd)).length, 0) ∧ v.length = 12 ∧ ∀ j, v.getD j 0 = if j < k then b.getD j 0 else a.getD j 0 := by
    intro k
    induction k with
    | zero => intro _; exact ⟨a, rfl, hal, fun j => by simp⟩
    | succ k ih =>
      intro hk
      obtain ⟨v, hv, hvl, hvj⟩ := ih (by omega)
      have hb1 := hbit k (by omega)
      by_cases c : b.getD k 0 = a.getD k 0
      · rw [if_pos c] at hb1
        refine ⟨v, by rw [tdL_off hv (by omega), chgF_eq c], hvl, fun j => ?_⟩
        rw [hvj j]
        by_cases j1 : j < k
        · rw [if_pos j1, if_pos (by omega)]
        · by_cases j2 : j = k
          · subst j2; rw [if_neg j1, if_pos (by omega), c]
          · rw [if_neg j1, if_neg (by omega)]
      · rw [if_neg c] at hb1
        have ho := tdL_on hv hb1
        have hcn := chgF_ne c
        obtain ⟨tl, htl⟩ := chgF_pre a b (k + 1) 12 (by omega)
        have hak := ha k
        have hbk := hb k
        have hz := zig_bd (b.getD k 0 - a.getD k 0) (by omega) (by omega)
        have hzz : zagS (((zigS (b.getD k 0 - a.getD k 0)).toNat : Nat) : Int) = b.getD k 0 - a.getD k 0 := by
          rw [Int.toNat_of_nonneg hz.1, zag_zig]
        have hC1 : intsS ((chgF a b (k + 1)).map Prod.snd) = intsS ((chgF a b k).map Prod.snd) ++ vpS (zigS (b.getD k 0 - a.getD k 0)).toNat := by
          rw [hcn, List.map_append]; exact intsS_snoc _ _
        have hC : intsS ((chgF a b 12).map Prod.snd) = intsS ((chgF a b k).map Prod.snd) ++ (vpS (zigS (b.getD k 0 - a.getD k 0)).toNat ++ intsS (tl.map Prod.snd)) := by
          rw [← htl, List.map_append]
          have : intsS ((chgF a b (k + 1)).map Prod.snd ++ tl.map Prod.snd) = intsS ((chgF a b (k + 1)).map Prod.snd) ++ intsS (tl.map Prod.snd) := by simp [intsS]
          rw [this, hC1, List.append_assoc]
        obtain ⟨z, hzn⟩ : ∃ z, (zigS (b.getD k 0 - a.getD k 0)).toNat = z := ⟨_, rfl⟩
        have hz64 : z ≤ 18446744073709551615 := by omega
        rw [hzn] at hzz hC1 hC
        have hq : takeS (bs.drop ((vpS L).length + (vpS m).length + (intsS ((chgF a b k).map Prod.snd)).length)) 0 0 = (z, (vpS z).length, 0) := by
          have e : bs = (vpS L ++ vpS m ++ intsS ((chgF a b k).map Prod.snd)) ++ (vpS z ++ (intsS (tl.map Prod.snd) ++ R)) := by rw [hbs, hC]; simp only [List.append_assoc]
          have el : (vpS L).length + (vpS m).length + (intsS ((chgF a b k).map Prod.snd)).length = (vpS L ++ vpS m ++ intsS ((chgF a b k).map Prod.snd)).length := by rw [List.length_append, List.length_append]
          rw [el, e, List.drop_left]
          exact vtake_putS z _ hz64
        have hg := gr_ok (x := a.getD k 0) hq hz64 (by rw [hzz]; omega)
        rw [hzz, show a.getD k 0 + (b.getD k 0 - a.getD k 0) = b.getD k 0 from by omega] at hg
        rw [hg] at ho
        dsimp only at ho
        refine ⟨v.set k (b.getD k 0), by rw [ho, hC1, List.length_append, Nat.add_assoc], by rw [List.length_set, hvl], fun j => ?_⟩
        rw [List.getD_eq_getElem?_getD, List.getElem?_set]
        by_cases j2 : k = j
        · subst j2
          rw [if_pos rfl, if_pos (by omega), if_pos (by omega)]; rfl
        · rw [if_neg j2, ← List.getD_eq_getElem?_getD, hvj j]
          by_cases j1 : j < k
          · rw [if_pos j1, if_pos (by omega)]
          · rw [if_neg j1, if_neg (by omega)]
  obtain ⟨v, hv, hvl, hvj⟩ := key 12 (Nat.le_refl _)
  have hvb : v = b := by
    refine List.ext_getElem (by rw [hvl, hbl]) fun i h3 h4 => ?_
    have := hvj i
    rw [if_pos (by omega)] at this
    simpa [h3, h4] using this
  subst hvb
  rw [takD_ok h1 h2 hv, hTu]
theorem nx_inv {bs : List Int} {n hi u n' : Nat} (h : nxS bs n 0 hi = (u, n', 0)) : ∃ qn, takeS (bs.drop n) 0 0 = (u, qn, 0) ∧ n' = n + qn ∧ u ≤ hi := by
  unfold nxS at h
  rw [if_neg (by simp)] at h
  obtain ⟨⟨qu, qn, qe⟩, hq⟩ : ∃ q, takeS (bs.drop n) 0 0 = q := ⟨_, rfl⟩
  rw [hq] at h ⊢
  dsimp only at h
  by_cases c : qe ≠ 0
  · rw [if_pos c] at h; have := congrArg (fun r => r.2.2) h; dsimp only at this; omega
  · rw [if_neg c] at h
    by_cases c2 : hi < qu
    · rw [if_pos c2] at h; exact absurd (congrArg (fun r => r.2.2) h) (by simp)
    · rw [if_neg c2] at h
      obtain rfl : qu = u := congrArg Prod.fst h
      exact ⟨qn, by rw [Decidable.not_not.1 c], (congrArg (fun r => r.2.1) h).symm, by omega⟩
theorem gr_inv {bs : List Int} {n n' : Nat} {x g : Int} (h : grS bs n 0 x = (g, n', 0)) : ∃ qu qn, takeS (bs.drop n) 0 0 = (qu, qn, 0) ∧ n' = n + qn ∧ g = x + zagS (qu : Int) ∧ zagS (qu : Int) ≠ 0 ∧ -2147483648 ≤ g ∧ g ≤ 2147483647 := by
  unfold grS at h
  obtain ⟨⟨u, na, e⟩, hn⟩ : ∃ q, nxS bs n 0 18446744073709551615 = q := ⟨_, rfl⟩
  rw [hn] at h
  dsimp only at h
  by_cases c : e ≠ 0
  · rw [if_pos c] at h; exact absurd (congrArg (fun r => r.2.2) h) c
  · rw [if_neg c] at h
    obtain rfl : e = 0 := Decidable.not_not.1 c
    by_cases c2 : zagS (u : Int) = 0 ∨ 2147483647 - x < zagS (u : Int) ∨ zagS (u : Int) < -2147483648 - x
    · rw [if_pos c2] at h; exact absurd (congrArg (fun r => r.2.2) h) (by simp)
    · rw [if_neg c2] at h
      obtain ⟨qn, hq, e2, _⟩ := nx_inv hn
      have e3 : x + zagS (u : Int) = g := congrArg Prod.fst h
      have e4 : na = n' := congrArg (fun r => r.2.1) h
      exact ⟨u, qn, hq, by omega, e3.symm, by omega, by omega, by omega⟩
theorem chgF_congr {a v w : List Int} : ∀ k, (∀ j, j < k → v.getD j 0 = w.getD j 0) → chgF a v k = chgF a w k ∧ mskF a v k = mskF a w k
  | 0, _ => ⟨rfl, rfl⟩
  | k + 1, h => by
    obtain ⟨h1, h2⟩ := chgF_congr k (fun j hj => h j (by omega))
    have hk := h k (by omega)
    constructor
    · show chgF a v k ++ _ = chgF a w k ++ _
      rw [h1, hk]
    · show mskF a v k + _ = mskF a w k + _
      rw [h2, hk]
theorem takD_back {t : Int} {a bs : List Int} (ht : 0 ≤ t ∧ t ≤ 4294967295) (hal : a.length = 12) (ha : ∀ j, -2147483648 ≤ a.getD j 0 ∧ a.getD j 0 ≤ 2147483647) (hz : ∀ x ∈ bs, (Lit.int .u8 x).wf = true) {T n : Int} {v : List Int} (h : takD t a bs = ((T, v), n, 0)) :
    ∃ N : Nat, n = (N : Int) ∧ N ≤ bs.length ∧ 2 ≤ N ∧ deltaV t T a v = bs.take N ∧ (0 ≤ T ∧ T ≤ 4294967295) ∧ ∀ j, -2147483648 ≤ v.getD j 0 ∧ v.getD j 0 ≤ 2147483647 := by
  have hok := fun k => takeS_ok (bs.drop k) (bytes_bd (fun x hx => hz x (List.mem_of_mem_drop hx)))
  obtain ⟨⟨u1, n1, e1⟩, h1⟩ : ∃ q, nxS bs 0 0 4294967295 = q := ⟨_, rfl⟩
  by_cases c1 : e1 ≠ 0
  · rw [takD_e1 h1 c1] at h; exact absurd (congrArg (fun r => r.2.2) h) c1
  obtain rfl : e1 = 0 := Decidable.not_not.1 c1
  obtain ⟨⟨m2, n2, e2⟩, h2⟩ : ∃ q, nxS bs n1 0 4095 = q := ⟨_, rfl⟩
  by_cases c2 : e2 ≠ 0
  · rw [takD_e2 h1 h2 c2] at h; exact absurd (congrArg (fun r => r.2.2) h) c2
  obtain rfl : e2 = 0 := Decidable.not_not.1 c2
  obtain ⟨q1, hq1, e1, b1⟩ := nx_inv h1
  obtain ⟨q2, hq2, e2, b2⟩ := nx_inv h2
  have o1 := hok 0 (by rw [hq1])
  rw [hq1] at o1
  dsimp only at o1
  have o2 := hok n1 (by rw [hq2])
  rw [hq2] at o2
  dsimp only at o2
  rw [List.drop_zero] at o1
  have p1 : bs.take n1 = vpS u1 := by rw [e1, Nat.zero_add]; exact o1.2.2.2.symm
  have p2 : bs.take n2 = vpS u1 ++ vpS m2 := by rw [e2, List.take_add, p1, ← o2.2.2.2]
  have l2 := o2.2.1
  rw [List.length_drop] at l2
  have key : ∀ k w m, tdL bs a m2 n2 0 k = (w, m, 0) → w.length = 12 ∧ (∀ j, k ≤ j → w.getD j 0 = a.getD j 0) ∧ (∀ j, -2147483648 ≤ w.getD j 0 ∧ w.getD j 0 ≤ 2147483647) ∧ m ≤ bs.length ∧ n2 ≤ m ∧ bs.take m = vpS u1 ++ vpS m2 ++ intsS ((chgF a w k).map Prod.snd) ∧ (k ≤ 12 → mskF a w k = m2 % 2 ^ k) := by
    intro k
    induction k with
    | zero =>
      intro w m hw
      obtain rfl : a = w := congrArg Prod.fst hw
      obtain rfl : n2 = m := congrArg (fun r => r.2.1) hw
      exact ⟨hal, fun _ _ => rfl, ha, by have := o1.2.1; omega, Nat.le_refl _, by rw [p2]; simp [chgF, intsS], fun _ => by simp [mskF, Nat.mod_one]⟩
    | succ k ih =>
      intro w' m' hw'
      obtain ⟨⟨w, m, e⟩, hw⟩ : ∃ q, tdL bs a m2 n2 0 k = q := ⟨_, rfl⟩
      by_cases ce : e ≠ 0
      · obtain ⟨v', hv'⟩ := tdL_err hw ce 1
        rw [hw'] at hv'
        exact absurd (congrArg (fun r => r.2.2) hv').symm ce
      obtain rfl : e = 0 := Decidable.not_not.1 ce
      obtain ⟨i1, i2, i3, i4, i5, i6, i7⟩ := ih w m hw
      have hmod : m2 % 2 ^ (k + 1) = m2 % 2 ^ k + 2 ^ k * (m2 / 2 ^ k % 2) := by rw [Nat.pow_succ, Nat.mod_mul]
      by_cases hb : m2 / 2 ^ k % 2 = 1
      · have ho := tdL_on hw hb
        rw [hw'] at ho
        obtain ⟨⟨g, na, ea⟩, hg⟩ : ∃ q, grS bs m 0 (a.getD k 0) = q := ⟨_, rfl⟩
        rw [hg] at ho
        dsimp only at ho
        obtain rfl : w' = w.set k g := congrArg Prod.fst ho
        obtain rfl : m' = na := congrArg (fun r => r.2.1) ho
        obtain rfl : 0 = ea := congrArg (fun r => r.2.2) ho
        obtain ⟨qu, qn, hq, e3, e4, e5, e6, e7⟩ := gr_inv hg
        have o3 := hok m (by rw [hq])
        rw [hq] at o3
        dsimp only at o3
        have l3 := o3.2.1
        rw [List.length_drop] at l3
        have hget : ∀ j, (w.set k g).getD j 0 = if k = j ∧ k < 12 then g else w.getD j 0 := by
          intro j
          rw [List.getD_eq_getElem?_getD, List.getElem?_set]
          by_cases j2 : k = j
          · subst j2
            by_cases j3 : k < 12
            · rw [if_pos rfl, if_pos (by omega), if_pos ⟨rfl, j3⟩]; rfl
            · rw [if_pos rfl, if_neg (by omega), if_neg (fun h => j3 h.2)]
              rw [List.getD_eq_getElem?_getD, List.getElem?_eq_none (by omega)]
          · rw [if_neg j2, if_neg (fun h => j2 h.1), ← List.getD_eq_getElem?_getD]
        have hcg := chgF_congr (a := a) (v := w.set k g) (w := w) k (fun j hj => by rw [hget j, if_neg (by omega)])
        by_cases k12 : k < 12
        · have hk9 : (w.set k g).getD k 0 = g := by rw [hget k, if_pos ⟨rfl, k12⟩]
          have hne : (w.set k g).getD k 0 ≠ a.getD k 0 := by rw [hk9]; omega
          refine ⟨by rw [List.length_set, i1], fun j hj => by rw [hget j, if_neg (by omega)]; exact i2 j (by omega), fun j => ?_, by omega, by omega, ?_, fun _ => ?_⟩
          · rw [hget j]; split
            · exact ⟨e6, e7⟩
            · exact i3 j
          · have hzz : (zigS ((w.set k g).getD k 0 - a.getD k 0)).toNat = qu := by
              rw [hk9, e4, show a.getD k 0 + zagS (qu : Int) - a.getD k 0 = zagS (qu : Int) from by omega, zig_zag _ (by omega)]; simp
            rw [e3, List.take_add, i6, ← o3.2.2.2, chgF_ne hne, hcg.1, List.map_append]
            have := intsS_snoc ((chgF a w k).map Prod.snd) ((w.set k g).getD k 0 - a.getD k 0)
            rw [hzz] at this
            simp only [List.map_cons, List.map_nil]
            rw [this, List.append_assoc]
          · rw [mskF_ne hne, hcg.2, i7 (by omega), hmod, hb, Nat.mul_one]
        · -- no place beyond the twelfth
          exfalso
          have h64 : m2 / 2 ^ k = 0 := Nat.div_eq_of_lt (by
            have h2 : (2 : Nat) ^ 12 ≤ 2 ^ k := Nat.pow_le_pow_right (by decide) (by omega)
            have h3 : (2 : Nat) ^ 12 = 4096 := by decide
            omega)
          rw [h64] at hb
          simp at hb
      · have ho := tdL_off hw hb
        rw [hw'] at ho
        obtain rfl : w' = w := congrArg Prod.fst ho
        obtain rfl : m' = m := congrArg (fun r => r.2.1) ho
        have heq : w'.getD k 0 = a.getD k 0 := i2 k (Nat.le_refl _)
        refine ⟨i1, fun j hj => i2 j (by omega), i3, i4, i5, by rw [chgF_eq heq]; exact i6, fun hk => ?_⟩
        rw [mskF_eq heq, i7 (by omega), hmod, show m2 / 2 ^ k % 2 = 0 from by omega, Nat.mul_zero, Nat.add_zero]
  obtain ⟨⟨w, m, e⟩, hw⟩ : ∃ q, tdL bs a m2 n2 0 12 = q := ⟨_, rfl⟩
  rw [takD_at h1 h2 hw] at h
  by_cases ce : e ≠ 0
  · rw [if_pos ce] at h; exact absurd (congrArg (fun r => r.2.2) h) ce
  rw [if_neg ce] at h
  obtain rfl : e = 0 := Decidable.not_not.1 ce
  obtain ⟨i1, i2, i3, i4, i5, i6, i7⟩ := key 12 w m hw
  have hT : (t + (u1 : Nat)) % 4294967296 = T := congrArg (fun r => r.1.1) h
  obtain rfl : w = v := congrArg (fun r => r.1.2) h
  have hn : (m : Int) = n := congrArg (fun r => r.2.1) h
  have hlate : lateV t T = u1 := by unfold lateV; omega
  have hmm : mskF a w 12 = m2 := by rw [i7 (Nat.le_refl _)]; exact Nat.mod_eq_of_lt (Nat.lt_of_le_of_lt b2 (by decide))
  refine ⟨m, hn.symm, i4, by have := o1.1; have := o2.1; omega, ?_, by omega, i3⟩
  unfold deltaV
  rw [hlate, hmm, i6]

end Go.Proofs.Ytkpncailoekjpaa
