/- Package block: what a block's bytes say. -/
import Derived.Test.YtlfbhfmchdbnoaaBlk9
import Derived.Test.YtlfbhfmchdbnoaaKL
import Derived.Deep.DeepCutAuto
namespace Go.Proofs.Ytlfbhfmchdbnoaa
open Go.ChangeShapes Go.WideShapes Go.ChangeAt Go.RowKit
set_option linter.unusedVariables false
set_option linter.unusedSimpArgs false

def I32 (y : Int) : Prop := -2147483648 ≤ y ∧ y ≤ 2147483647
/-- A record that is one. -/
def StK (st : Int × List Int) : Prop := (0 ≤ st.1 ∧ st.1 ≤ 4294967295) ∧ st.2.length = 12 ∧ ∀ y ∈ st.2, -2147483648 ≤ y ∧ y ≤ 2147483647
theorem stK0 : StK (0, zer12) := ⟨by decide, rfl, by intro y hy; simp [zer12] at hy; subst hy; decide⟩
theorem list4 {c : List Int} (h : c.length = 4) : ∃ p q r s, c = [p, q, r, s] := by
  match c, h with
  | [p, q, r, s], _ => exact ⟨p, q, r, s, rfl⟩
theorem bytes4 (x : Int) : bytesL x 4 = [x % 256, x / 256 % 256, x / 65536 % 256, x / 16777216 % 256] := by
  show [x / 2 ^ (8 * 0) % 256, x / 2 ^ (8 * 1) % 256, x / 2 ^ (8 * 2) % 256, x / 2 ^ (8 * 3) % 256] = _
  simp
theorem numB4e {p q r s : Int} (hp : 0 ≤ p) (hq : 0 ≤ q) (hr : 0 ≤ r) (hs : 0 ≤ s) : ((numB [p, q, r, s] 4 : Nat) : Int) = p + 256 * q + 65536 * r + 16777216 * s := by
  have e : numB [p, q, r, s] 4 = p.toNat + 256 * q.toNat + 65536 * r.toNat + 16777216 * s.toNat := by
    simp [numB]; omega
  rw [e]; omega
theorem put4 {c : List Int} (hl : c.length = 4) (hb : ∀ x ∈ c, 0 ≤ x ∧ x ≤ 255) : bytesL ((numB c 4 : Nat) : Int) 4 = c := by
  obtain ⟨p, q, r, s, rfl⟩ := list4 hl
  have h1 := hb p (by simp); have h2 := hb q (by simp); have h3 := hb r (by simp); have h4 := hb s (by simp)
  rw [numB4e h1.1 h2.1 h3.1 h4.1, bytes4]
  simp only [List.cons.injEq, and_true]
  refine ⟨by omega, by omega, by omega, by omega⟩
theorem put4s {c : List Int} (hl : c.length = 4) (hb : ∀ x ∈ c, 0 ≤ x ∧ x ≤ 255) : bytesL (wrapU (sgn 4 (numB c 4))) 4 = c := by
  obtain ⟨p, q, r, s, rfl⟩ := list4 hl
  have h1 := hb p (by simp); have h2 := hb q (by simp); have h3 := hb r (by simp); have h4 := hb s (by simp)
  have e := numB4e h1.1 h2.1 h3.1 h4.1
  generalize numB [p, q, r, s] 4 = N at *
  have e2 : wrapU (sgn 4 N) % 4294967296 = N := by
    unfold wrapU sgn
    simp only [Nat.reduceSub, Nat.reducePow, Nat.reduceMul, Int.reducePow]
    split <;> omega
  rw [bytes4]
  generalize wrapU (sgn 4 N) = X at *
  simp only [List.cons.injEq, and_true]
  refine ⟨by omega, by omega, by omega, by omega⟩
theorem keyF_back {bs : List Int} (hb : ∀ x ∈ bs, 0 ≤ x ∧ x ≤ 255) : ∀ k, 4 + 4 * k ≤ bs.length → keyF ((List.range k).map (fieldK bs)) = (bs.drop 4).take (4 * k)
  | 0, _ => by simp [keyF]
  | k + 1, h => by
    rw [List.range_succ, List.map_append, List.map_singleton, keyF_snoc, keyF_back hb k (by omega)]
    unfold fieldK
    rw [put4s (by rw [List.length_take, List.length_drop]; omega) (fun x hx => hb x (List.mem_of_mem_drop (List.mem_of_mem_take hx))), show 4 * (k + 1) = 4 * k + 4 by omega, List.take_add, List.drop_drop]
theorem takK_back {bs : List Int} (hz : ∀ x ∈ bs, (Lit.int .u8 x).wf = true) (h : (takK bs).2.2 = 0) : 52 ≤ bs.length ∧ keyV (takK bs).1.1 (takK bs).1.2 = bs.take 52 ∧ StK (takK bs).1 ∧ (takK bs).2.1 = 52 := by
  have hb := bytes_bd hz
  unfold takK at *
  by_cases c : bs.length < 52
  · rw [if_pos c] at h; simp at h
  · rw [if_neg c]
    refine ⟨by omega, ?_, ⟨?_, by simp, ?_⟩, rfl⟩
    · unfold keyV
      rw [keyF_back hb 12 (by omega), put4 (by rw [List.length_take]; omega) (fun x hx => hb x (List.mem_of_mem_take hx)), show 52 = 4 + 4 * 12 from rfl, List.take_add]
    · have := numB4 (bs.take 4) (fun x hx => hz x (List.mem_of_mem_take hx))
      dsimp only; omega
    · intro y hy
      obtain ⟨i, hi, rfl⟩ := List.mem_map.1 hy
      exact sgn4 (numB4 _ (fun x hx => hz x (List.mem_of_mem_drop (List.mem_of_mem_take hx))))
theorem entD_back {st : Int × List Int} {first : Bool} {bs : List Int} (hst : StK st) (hz : ∀ x ∈ bs, (Lit.int .u8 x).wf = true) (h : (entD st first bs).2.2 = true) :
    ∃ N : Nat, (entD st first bs).2.1 = N ∧ 2 ≤ N ∧ N ≤ bs.length ∧ layS st (entD st first bs).1 = bs.take N ∧ EnOk (entD st first bs).1 ∧ (first = true → (entD st first bs).1.1 = true) := by
  cases bs with
  | nil => cases h
  | cons c q =>
    have hq : ∀ x ∈ q, (Lit.int .u8 x).wf = true := fun x hx => hz x (List.mem_cons_of_mem _ hx)
    rw [entD_cons] at *
    by_cases h75 : c = 75
    · rw [if_pos h75] at *
      have h0 : (takK q).2.2 = 0 := by simpa using h
      obtain ⟨k1, k2, k3, k4⟩ := takK_back hq h0
      subst h75
      refine ⟨53, by rw [k4]; rfl, by omega, by simp; omega, ?_, ⟨k3.1, k3.2⟩, fun _ => rfl⟩
      show 75 :: keyV (takK q).1.1 (takK q).1.2 = _
      rw [k2]; rfl
    · rw [if_neg h75] at *
      by_cases h68 : c = 68 ∧ first = false
      · rw [if_pos h68] at *
        obtain ⟨rfl, rfl⟩ := h68
        have h0 : (takD st.1 st.2 q).2.2 = 0 := by simpa using h
        obtain ⟨⟨⟨T, v⟩, n, e⟩, hr⟩ : ∃ r, takD st.1 st.2 q = r := ⟨_, rfl⟩
        have hl := takD_len st.1 hst.2.1 q
        rw [hr] at h0 hl ⊢
        dsimp only at h0 hl ⊢
        subst h0
        obtain ⟨N, e1, e2, e3, e4, e5, e6⟩ := takD_back hst.1 hst.2.1 (get_bd hst.2.2) hq hr
        subst e1
        refine ⟨N + 1, by omega, by omega, by simp; omega, ?_, ⟨e5, hl, fun y hy => ?_⟩, fun hh => by cases hh⟩
        · show 68 :: deltaV st.1 T st.2 v = _
          rw [e4]; rfl
        · obtain ⟨i, hi, rfl⟩ := List.getElem_of_mem hy
          have h := e6 i
          rw [List.getD_eq_getElem?_getD, List.getElem?_eq_getElem hi] at h
          exact h
      · rw [if_neg h68] at h; cases h
theorem entD_lay {st : Int × List Int} {first : Bool} {x : En} (hst : StK st) (hx : EnOk x) (hf : first = true → x.1 = true) (R : List Int) : entD st first (layS st x ++ R) = (x, (((layS st x).length : Nat) : Int), true) := by
  obtain ⟨k, t, v⟩ := x
  obtain ⟨h1, h2, h3⟩ := hx
  dsimp only at h1 h2 h3
  cases k
  · have hff : first = false := by cases first; rfl; exact absurd (hf rfl) (by simp)
    subst hff
    have e : layS st (false, t, v) = 68 :: deltaV st.1 t st.2 v := rfl
    rw [e, List.cons_append, entD_cons, if_neg (by decide), if_pos ⟨rfl, rfl⟩, takD_delta hst.1 h1 hst.2.1 h2 (get_bd hst.2.2) (get_bd h3) R]
    simp; omega
  · have e : layS st (true, t, v) = 75 :: keyV t v := rfl
    rw [e, List.cons_append, entD_cons, if_pos rfl, takK_key h1 h2 h3 R, List.length_cons, keyV_len t v h2]
    rfl
/-- The first k entries that some bytes begin with, and what stands behind them. -/
def tkB (bs : List Int) : Nat → Option (List En × List Int)
  | 0 => some ([], bs)
  | k + 1 => match tkB bs k with
    | none => none
    | some (l, r) => if (entD (lastR (0, zer12) l) (decide (k = 0)) r).2.2 then some (l ++ [(entD (lastR (0, zer12) l) (decide (k = 0)) r).1], r.drop (entD (lastR (0, zer12) l) (decide (k = 0)) r).2.1.toNat) else none
theorem tkB_no {bs : List Int} {k : Nat} {l : List En} {r : List Int} (h : tkB bs k = some (l, r)) (hd : (entD (lastR (0, zer12) l) (decide (k = 0)) r).2.2 = false) : tkB bs (k + 1) = none := by
  show (match tkB bs k with | none => none | some (l, r) => _) = _
  rw [h]; dsimp only; rw [hd]; rfl
theorem tkB_yes {bs : List Int} {k : Nat} {l : List En} {r : List Int} (h : tkB bs k = some (l, r)) (hd : (entD (lastR (0, zer12) l) (decide (k = 0)) r).2.2 = true) : tkB bs (k + 1) = some (l ++ [(entD (lastR (0, zer12) l) (decide (k = 0)) r).1], r.drop (entD (lastR (0, zer12) l) (decide (k = 0)) r).2.1.toNat) := by
  show (match tkB bs k with | none => none | some (l, r) => _) = _
  rw [h]; dsimp only; rw [hd]; rfl
theorem tkB_none {bs : List Int} {k : Nat} (h : tkB bs k = none) : ∀ n, tkB bs (k + n) = none
  | 0 => h
  | n + 1 => by
    show (match tkB bs (k + n) with | none => none | some (l, r) => _) = _
    rw [tkB_none h n]
theorem tkB_none2 {bs : List Int} {k m : Nat} (h : tkB bs k = none) (hk : k ≤ m) : tkB bs m = none := by
  rw [show m = k + (m - k) by omega]; exact tkB_none h _
theorem lastR_ok {l : List En} (h : ∀ x ∈ l, EnOk x) : StK (lastR (0, zer12) l) := by
  have key : ∀ (l : List En) (st : Int × List Int), StK st → (∀ x ∈ l, EnOk x) → StK (lastR st l) := by
    intro l
    induction l with
    | nil => intro st hs _; exact hs
    | cons x l ih => intro st _ hl; exact ih x.2 (hl x (by simp)) (fun y hy => hl y (by simp [hy]))
  exact key l _ stK0 h
theorem keyed_app {l : List En} {x : En} (h : keyed l = true) : keyed (l ++ [x]) = true := by cases l with
  | nil => cases h
  | cons y l => exact h
theorem tkB_back {bs : List Int} (hz : ∀ x ∈ bs, (Lit.int .u8 x).wf = true) : ∀ {k : Nat} {l : List En} {r : List Int}, tkB bs k = some (l, r) → l.length = k ∧ (∀ x ∈ l, EnOk x) ∧ entS (0, zer12) l ++ r = bs ∧ (0 < k → keyed l = true)
  | 0, l, r, h => by
    cases h
    exact ⟨rfl, fun x hx => by simp at hx, rfl, fun h => absurd h (by omega)⟩
  | k + 1, l, r, h => by
    cases h1 : tkB bs k with
    | none => rw [tkB_none h1 1] at h; cases h
    | some p =>
      obtain ⟨l1, r1⟩ := p
      obtain ⟨i1, i2, i3, i4⟩ := tkB_back hz h1
      cases hd : (entD (lastR (0, zer12) l1) (decide (k = 0)) r1).2.2 with
      | false => rw [tkB_no h1 hd] at h; cases h
      | true =>
        rw [tkB_yes h1 hd] at h
        obtain ⟨N, e1, e2, e3, e4, e5, e6⟩ := entD_back (lastR_ok i2) (fun x hx => hz x (by rw [← i3]; exact List.mem_append_right _ hx)) hd
        rw [e1] at h
        obtain ⟨rfl, rfl⟩ := Prod.mk.inj (Option.some.inj h)
        refine ⟨by rw [List.length_append, i1]; rfl, fun x hx => ?_, ?_, fun _ => ?_⟩
        · rcases List.mem_append.1 hx with hx | hx
          · exact i2 x hx
          · rw [List.mem_singleton] at hx; subst hx; exact e5
        · rw [entS_snoc, e4, List.append_assoc, Int.toNat_natCast, List.take_append_drop, i3]
        · by_cases hk : k = 0
          · subst hk
            obtain rfl : l1 = [] := List.eq_nil_of_length_eq_zero i1
            exact e6 rfl
          · exact keyed_app (i4 (by omega))
theorem tkB_put {l : List En} (hl : ∀ x ∈ l, EnOk x) (hk : keyed l = true) (R : List Int) : ∀ k, k ≤ l.length → tkB (entS (0, zer12) l ++ R) k = some (l.take k, entS (lastR (0, zer12) (l.take k)) (l.drop k) ++ R)
  | 0, _ => rfl
  | k + 1, h => by
    have ih := tkB_put hl hk R k (by omega)
    obtain ⟨x, hx⟩ : ∃ x, l[k]? = some x := ⟨_, List.getElem?_eq_getElem (show k < l.length by omega)⟩
    have hd : l.drop k = x :: l.drop (k + 1) := by
      rw [List.drop_eq_getElem_cons (by omega)]
      rw [List.getElem?_eq_getElem (by omega)] at hx
      rw [Option.some.inj hx]
    have hxo := hl x (List.mem_of_getElem? hx)
    have hst := lastR_ok (l := l.take k) (fun y hy => hl y (List.mem_of_mem_take hy))
    have hf : decide (k = 0) = true → x.1 = true := by
      intro h0
      have h0 := of_decide_eq_true h0
      subst h0
      cases l with
      | nil => cases hx
      | cons y l => cases hx; exact hk
    have e : entS (lastR (0, zer12) (l.take k)) (l.drop k) ++ R = layS (lastR (0, zer12) (l.take k)) x ++ (entS x.2 (l.drop (k + 1)) ++ R) := by
      rw [hd]
      show (layS _ x ++ entS x.2 _) ++ R = _
      rw [List.append_assoc]
    rw [e] at ih
    have he := entD_lay (first := decide (k = 0)) hst hxo hf (entS x.2 (l.drop (k + 1)) ++ R)
    rw [tkB_yes ih (by rw [he]), he]
    dsimp only
    rw [Int.toNat_natCast, List.drop_left, take_snocE hx, lastR_snoc]
/-- The block of some bytes: its number, its entries, and why there is none. -/
def takB (zs : List Int) : Int × List En × Int :=
  if zs.length < 256 then (0, [], 2) else if 256 < zs.length then (0, [], 7) else match crcOpen zs with
  | none => (0, [], 4)
  | some b => if b.getD 0 0 ≠ 76 ∨ b.getD 1 0 = 0 then (0, [], 3) else match tkB (b.drop 6) (b.getD 1 0).toNat with
    | none => (0, [], 3)
    | some (l, r) => if emptyV r then (((numB ((b.drop 2).take 4) 4 : Nat) : Int), l, 0) else (0, [], 3)
theorem opened {zs b : List Int} (hl : zs.length = 256) (h : crcOpen zs = some b) : b = zs.take 254 ∧ crcSeal b = zs ∧ b.length = 254 := by
  unfold crcOpen at h
  rw [if_neg (by omega), hl] at h
  by_cases c : crcSeal (zs.take (256 - 2)) = zs
  · rw [if_pos c] at h
    have e := (Option.some.inj h).symm
    subst e
    exact ⟨rfl, c, by rw [List.length_take, hl]; rfl⟩
  · rw [if_neg c] at h; cases h
theorem takB_bad {zs : List Int} (h : (takB zs).2.2 ≠ 0) : takB zs = (0, [], (takB zs).2.2) := by
  unfold takB at *
  split
  · rfl
  · split
    · rfl
    · split
      · rfl
      · split
        · rfl
        · split
          · rfl
          · split
            · rename_i c1 c2 _ b hb c3 _ l r ht c4
              rw [if_neg c1, if_neg c2, hb] at h
              dsimp only at h
              rw [if_neg c3, ht] at h
              dsimp only at h
              rw [if_pos c4] at h
              exact absurd rfl h
            · rfl
theorem takB_e (zs : List Int) : 0 ≤ (takB zs).2.2 ∧ (takB zs).2.2 ≤ 9 := by
  unfold takB
  split
  · simp
  · split
    · simp
    · split
      · simp
      · split
        · simp
        · split
          · simp
          · split <;> simp
theorem keyed_pos {l : List En} (h : keyed l = true) : 0 < l.length := by cases l with
  | nil => cases h
  | cons y l => simp
theorem emptyV_rep (n : Nat) : emptyV (List.replicate n 0) = true := emptyV_true (fun x hx => List.eq_of_mem_replicate hx)
theorem takB_put {no : Int} {l : List En} (hno : 0 ≤ no ∧ no ≤ 4294967295) (h255 : l.length ≤ 255) (hl : ∀ x ∈ l, EnOk x) (h : (putB no l).2 = 0) : (putB no l).1.length = 256 ∧ takB (putB no l).1 = (no, l, 0) := by
  unfold putB at *
  cases hk : keyed l with
  | false => rw [hk] at h; simp at h
  | true =>
    rw [hk] at h
    rw [if_pos rfl] at *
    by_cases c : 248 < (entS (0, zer12) l).length
    · rw [if_pos c] at h; simp at h
    · rw [if_neg c]
      dsimp only
      have hp := keyed_pos hk
      have hZ : (hdr no l.length ++ entS (0, zer12) l).length = 6 + (entS (0, zer12) l).length := by rw [List.length_append, hdr_len]
      have hF : (fill (hdr no l.length ++ entS (0, zer12) l)).length = 254 := fill_len (by omega)
      have hS : (blockB no l).length = 256 := by unfold blockB; rw [crcSeal_len, hF]
      refine ⟨hS, ?_⟩
      unfold takB
      rw [if_neg (by omega), if_neg (by omega)]
      unfold blockB
      rw [crcOpen_seal]
      dsimp only
      have e : fill (hdr no l.length ++ entS (0, zer12) l) = 76 :: ((l.length : Int) % 256) :: (bytesL no 4 ++ (entS (0, zer12) l ++ List.replicate (254 - (hdr no l.length ++ entS (0, zer12) l).length) 0)) := by
        unfold fill hdr
        simp
      rw [e]
      have e1 : ((l.length : Int) % 256) = l.length := by omega
      rw [e1]
      have e2 : (76 :: (l.length : Int) :: (bytesL no 4 ++ (entS (0, zer12) l ++ List.replicate (254 - (hdr no l.length ++ entS (0, zer12) l).length) 0))).drop 6 = entS (0, zer12) l ++ List.replicate (254 - (hdr no l.length ++ entS (0, zer12) l).length) 0 := by
        show (bytesL no 4 ++ _).drop 4 = _
        exact List.drop_left' (bytesL_len no 4)
      rw [e2]
      have e3 := tkB_put hl hk (List.replicate (254 - (hdr no l.length ++ entS (0, zer12) l).length) 0) l.length (Nat.le_refl _)
      rw [List.take_length, List.drop_length] at e3
      have e4 := (read_u no 4 hno.1 (fit4 hno.1 hno.2) (entS (0, zer12) l ++ List.replicate (254 - (hdr no l.length ++ entS (0, zer12) l).length) 0)).1
      have hR := emptyV_rep (254 - (hdr no l.length ++ entS (0, zer12) l).length)
      generalize List.replicate (254 - (hdr no l.length ++ entS (0, zer12) l).length) (0 : Int) = RR at e3 e4 hR ⊢
      generalize hSS : entS (0, zer12) l = SS at e3 e4 ⊢
      have hne : l ≠ [] := by intro e; subst e; cases hk
      have f0 : (76 :: (l.length : Int) :: (bytesL no 4 ++ (SS ++ RR))).getD 0 0 = 76 := rfl
      have f1 : (76 :: (l.length : Int) :: (bytesL no 4 ++ (SS ++ RR))).getD 1 0 = l.length := rfl
      rw [f0, f1, if_neg (by simp [hne]), Int.toNat_natCast, e3]
      show (if emptyV RR = true then (((numB ((bytesL no 4 ++ (SS ++ RR)).take 4) 4 : Nat) : Int), l, (0 : Int)) else (0, [], 3)) = _
      rw [if_pos hR]
      exact congrArg (fun z => (z, l, (0 : Int))) e4
theorem emptyV_all {r : List Int} (h : emptyV r = true) : r = List.replicate r.length 0 := by
  rw [emptyV, List.all_eq_true] at h
  exact List.eq_replicate_iff.2 ⟨rfl, fun x hx => by simpa using h x hx⟩
theorem list6 {b : List Int} (h : 6 ≤ b.length) : b = b.getD 0 0 :: b.getD 1 0 :: ((b.drop 2).take 4 ++ b.drop 6) := by
  match b, h with
  | x :: y :: r, _ =>
    show x :: y :: r = x :: y :: (r.take 4 ++ r.drop 4)
    rw [List.take_append_drop]
theorem takB_back {zs : List Int} (hz : ∀ x ∈ zs, (Lit.int .u8 x).wf = true) {no : Int} {l : List En} (h : takB zs = (no, l, 0)) : putB no l = (zs, 0) ∧ l.length ≤ 255 ∧ (∀ x ∈ l, EnOk x) ∧ 0 ≤ no ∧ no ≤ 4294967295 := by
  unfold takB at h
  by_cases c1 : zs.length < 256
  · rw [if_pos c1] at h; simp at h
  · rw [if_neg c1] at h
    by_cases c2 : 256 < zs.length
    · rw [if_pos c2] at h; simp at h
    · rw [if_neg c2] at h
      cases hb : crcOpen zs with
      | none => rw [hb] at h; simp at h
      | some b =>
        rw [hb] at h
        dsimp only at h
        obtain ⟨e1, e2, e3⟩ := opened (by omega) hb
        have hbw : ∀ x ∈ b, (Lit.int .u8 x).wf = true := fun x hx => hz x (by rw [e1] at hx; exact List.mem_of_mem_take hx)
        by_cases c3 : b.getD 0 0 ≠ 76 ∨ b.getD 1 0 = 0
        · rw [if_pos c3] at h; simp at h
        · rw [if_neg c3] at h
          cases ht : tkB (b.drop 6) (b.getD 1 0).toNat with
          | none => rw [ht] at h; simp at h
          | some p =>
            obtain ⟨l1, r⟩ := p
            rw [ht] at h
            dsimp only at h
            cases hr : emptyV r with
            | false => rw [hr] at h; simp at h
            | true =>
              rw [hr, if_pos rfl] at h
              simp only [Prod.mk.injEq, and_true] at h
              obtain ⟨rfl, rfl⟩ := h
              have hg1 := getD_bd (bytes_bd hbw) 1
              obtain ⟨i1, i2, i3, i4⟩ := tkB_back (fun x hx => hbw x (List.mem_of_mem_drop hx)) ht
              have hn4 := numB4 ((b.drop 2).take 4) (fun x hx => hbw x (List.mem_of_mem_drop (List.mem_of_mem_take hx)))
              have hk := i4 (by omega)
              have hl1 : (entS (0, zer12) l1).length + r.length = 248 := by rw [← List.length_append, i3, List.length_drop, e3]
              refine ⟨?_, by omega, i2, by omega, by omega⟩
              unfold putB
              rw [hk, if_pos rfl, if_neg (by omega)]
              have hfin : fill (hdr ((numB ((b.drop 2).take 4) 4 : Nat) : Int) l1.length ++ entS (0, zer12) l1) = b := by
                refine Eq.trans ?_ (list6 (b := b) (by omega)).symm
                unfold fill
                rw [List.length_append, hdr_len]
                have hc0 : b.getD 0 0 = 76 := by omega
                have hln : (l1.length : Int) % 256 = b.getD 1 0 := by omega
                unfold hdr
                rw [put4 (by rw [List.length_take, List.length_drop, e3]; rfl) (fun x hx => (bytes_bd hbw) x (List.mem_of_mem_drop (List.mem_of_mem_take hx))), hln, hc0, show 254 - (6 + (entS (0, zer12) l1).length) = r.length by omega, ← emptyV_all hr]
                have e9 : ∀ (x y : Int) (A B C : List Int), (x :: y :: A ++ B) ++ C = x :: y :: (A ++ (B ++ C)) := fun x y A B C => by simp
                rw [e9, i3]
              unfold blockB
              rw [hfin, e2]

end Go.Proofs.Ytlfbhfmchdbnoaa
