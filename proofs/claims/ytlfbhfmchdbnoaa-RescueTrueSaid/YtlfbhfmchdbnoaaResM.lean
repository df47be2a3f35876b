/- Package rescue: what a scan finds; what is read of a log, cut off or overwritten. -/
import Derived.Test.YtlfbhfmchdbnoaaKG
import Derived.Test.YtlfbhfmchdbnoaaKN
namespace Go.Proofs.Ytlfbhfmchdbnoaa
open Go.ChangeShapes Go.WideShapes Go.ChangeAt Go.RowKit
set_option linter.unusedVariables false
set_option linter.unusedSimpArgs false

/-- What is found: where, the block's number, its entries. -/
abbrev S37 := Int × Int × List En
def chAt (zs : List Int) (p : Nat) : List Int := (zs.drop p).take 256
theorem chAt_chunk (zs : List Int) (k : Nat) : chunk zs k = chAt zs (256 * k) := rfl
def scanF (zs : List Int) : Nat → Nat → List S37
  | 0, _ => []
  | f + 1, p => if p + 256 ≤ zs.length then (if (takB (chAt zs p)).2.2 = 0 then ((p : Int), (takB (chAt zs p)).1, (takB (chAt zs p)).2.1) :: scanF zs f (p + 256) else scanF zs f (p + 1)) else []
def scanS (zs : List Int) : List S37 := scanF zs (zs.length + 1) 0
theorem scanF_end {zs : List Int} {f p : Nat} (h : zs.length < p + 256) : scanF zs f p = [] := by
  cases f with
  | zero => rfl
  | succ f => show (if p + 256 ≤ zs.length then _ else _) = _; rw [if_neg (by omega)]
theorem scanF_hit {zs : List Int} {f p : Nat} (h : p + 256 ≤ zs.length) (ht : (takB (chAt zs p)).2.2 = 0) : scanF zs (f + 1) p = ((p : Int), (takB (chAt zs p)).1, (takB (chAt zs p)).2.1) :: scanF zs f (p + 256) := by
  show (if p + 256 ≤ zs.length then _ else _) = _
  rw [if_pos h, if_pos ht]
theorem scanF_miss {zs : List Int} {f p : Nat} (h : p + 256 ≤ zs.length) (ht : (takB (chAt zs p)).2.2 ≠ 0) : scanF zs (f + 1) p = scanF zs f (p + 1) := by
  show (if p + 256 ≤ zs.length then _ else _) = _
  rw [if_pos h, if_neg ht]
theorem chAt_wf {zs : List Int} (h : ∀ x ∈ zs, (Lit.int .u8 x).wf = true) (p : Nat) : ∀ x ∈ chAt zs p, (Lit.int .u8 x).wf = true := fun x hx => h x (List.mem_of_mem_drop (List.mem_of_mem_take hx))
theorem chAt_len {zs : List Int} {p : Nat} (h : p + 256 ≤ zs.length) : (chAt zs p).length = 256 := by unfold chAt; rw [List.length_take, List.length_drop]; omega
theorem chAt_get {zs : List Int} {p : Nat} : (chAt zs p).getD 0 0 = zs.getD p 0 := by
  unfold chAt
  simp [List.getD_eq_getElem?_getD, List.getElem?_take]
theorem takB_76 {zs : List Int} {p : Nat} (h : p + 256 ≤ zs.length) (h76 : zs.getD p 0 ≠ 76) : (takB (chAt zs p)).2.2 ≠ 0 := by
  have hl := chAt_len h
  cases hc : crcOpen (chAt zs p) with
  | none => rw [takB_sum hl hc]; simp
  | some b =>
    have hb := (opened hl hc).1
    rw [takB_form hl hc (.inl ?_)]
    · simp
    · rw [hb]
      have e : ((chAt zs p).take 254).getD 0 0 = (chAt zs p).getD 0 0 := by simp [List.getD_eq_getElem?_getD, List.getElem?_take]
      rw [e, chAt_get]; exact h76
/-- As it is told: the entries of a list of what was found. -/
def nosS (l : List S37) : List Int := l.map fun x => x.2.1
/-- How many numbers are missing among the first k. -/
def gapF (l : List Int) : Nat → Int
  | 0 => 0
  | k + 1 => if k + 1 < l.length then gapF l k + max 0 (l.getD (k + 1) 0 - l.getD k 0 - 1) else gapF l k
def gapS (l : List Int) : Int := gapF l l.length
theorem gapF_step {l : List Int} {k : Nat} (h : k + 1 < l.length) : gapF l (k + 1) = gapF l k + max 0 (l.getD (k + 1) 0 - l.getD k 0 - 1) := if_pos h
theorem gapF_end {l : List Int} {k : Nat} (h : l.length ≤ k + 1) : gapS l = gapF l k := by
  unfold gapS
  have key : ∀ n, gapF l (k + n) = gapF l k := by
    intro n
    induction n with
    | zero => rfl
    | succ n ih =>
      show gapF l ((k + n) + 1) = _
      rw [show gapF l ((k + n) + 1) = gapF l (k + n) from if_neg (by omega), ih]
  by_cases c : l.length ≤ k
  · obtain ⟨n, hn⟩ : ∃ n, k = l.length + n := ⟨k - l.length, by omega⟩
    have key2 : ∀ n, gapF l (l.length + n) = gapF l l.length := by
      intro n
      induction n with
      | zero => rfl
      | succ n ih =>
        show gapF l ((l.length + n) + 1) = _
        rw [show gapF l ((l.length + n) + 1) = gapF l (l.length + n) from if_neg (by omega), ih]
    rw [hn]; exact (key2 n).symm
  · have e : l.length = k + 1 := by omega
    rw [e]; exact key 1
theorem gapF_bd {l : List Int} (h : ∀ x ∈ l, 0 ≤ x ∧ x ≤ 4294967295) : ∀ k, 0 ≤ gapF l k ∧ gapF l k ≤ 4294967295 * k
  | 0 => by simp [gapF]
  | k + 1 => by
    have ih := gapF_bd h k
    by_cases c : k + 1 < l.length
    · rw [gapF_step c]
      have h1 := h _ (show l.getD (k + 1) 0 ∈ l by rw [List.getD_eq_getElem?_getD, List.getElem?_eq_getElem c]; exact List.getElem_mem _)
      have h2 := h _ (show l.getD k 0 ∈ l by rw [List.getD_eq_getElem?_getD, List.getElem?_eq_getElem (show k < l.length by omega)]; exact List.getElem_mem _)
      omega
    · rw [show gapF l (k + 1) = gapF l k from if_neg c]; omega
/-- What is found is right: bounds. -/
def OkS (x : S37) : Prop := (0 ≤ x.1 ∧ x.1 ≤ 1000000) ∧ (0 ≤ x.2.1 ∧ x.2.1 ≤ 4294967295) ∧ x.2.2.length ≤ 82 ∧ ∀ y ∈ x.2.2, EnOk y
theorem scanF_ok {zs : List Int} (hz : ∀ x ∈ zs, (Lit.int .u8 x).wf = true) (hl : zs.length ≤ 100000) : ∀ f p, ∀ x ∈ scanF zs f p, OkS x
  | 0, p => fun x hx => by cases hx
  | f + 1, p => fun x hx => by
    by_cases c : p + 256 ≤ zs.length
    · by_cases ht : (takB (chAt zs p)).2.2 = 0
      · rw [scanF_hit c ht] at hx
        rcases List.mem_cons.1 hx with rfl | hx
        · obtain ⟨h1, h2, h3, h4⟩ := takB_l (chAt_wf hz p)
          exact ⟨⟨by dsimp only; omega, by dsimp only; omega⟩, ⟨h3, h4⟩, h1, h2⟩
        · exact scanF_ok hz hl f _ x hx
      · rw [scanF_miss c ht] at hx
        exact scanF_ok hz hl f _ x hx
    · rw [scanF_end (by omega)] at hx; cases hx
theorem scanF_len (zs : List Int) : ∀ f p, 256 * (scanF zs f p).length + p ≤ max zs.length p
  | 0, p => by simp [scanF]; omega
  | f + 1, p => by
    by_cases c : p + 256 ≤ zs.length
    · by_cases ht : (takB (chAt zs p)).2.2 = 0
      · rw [scanF_hit c ht]
        have := scanF_len zs f (p + 256)
        rw [List.length_cons]; omega
      · rw [scanF_miss c ht]
        have := scanF_len zs f (p + 1)
        omega
    · rw [scanF_end (by omega)]; simp; omega

/-- The blocks of a log, told one behind the other from the place J on. -/
def logF (J : Nat) : Nat → List (List En) → List S37
  | _, [] => []
  | k, l :: bs => (((J + 256 * k : Nat) : Int), (k : Int), l) :: logF J (k + 1) bs
theorem bs_few {ev : Nat} {recs : List Rc} : ∀ {bs : List (List En)} {at_ : Nat}, allB ev recs at_ bs → bs.length ≤ cntB bs
  | [], _, _ => Nat.zero_le _
  | l :: bs, at_, h => by
    have h1 := keyed_pos h.1.2.1
    have h2 := bs_few h.2
    show bs.length + 1 ≤ l.length + cntB bs
    omega
theorem good_take {ev : Nat} {recs : List Rc} {at_ : Nat} {l : List En} (h : blkGood ev recs at_ l) {no : Nat} (hno : no ≤ 100000) (h255 : l.length ≤ 255) : takB (putB (no : Int) l).1 = ((no : Int), l, 0) := by
  refine (takB_put ⟨by omega, by omega⟩ h255 h.2.2.2 ?_).2
  rw [put_told h.2.2.2 h.2.1 h.2.2.1]
theorem good_few {ev : Nat} {recs : List Rc} {at_ : Nat} {l : List En} (h : blkGood ev recs at_ l) : l.length ≤ 82 := by
  have := entS_ge l (0, zer12) stK0.2.2 h.2.2.2
  have := h.2.2.1
  omega
theorem log_chunk {ev : Nat} {recs : List Rc} {bs : List (List En)} (h : allB ev recs 0 bs) (hb : bs.length ≤ 100000) {k : Nat} {l : List En} (hl : bs[k]? = some l) : takB (chunk (catB 0 bs) k) = ((k : Int), l, 0) := by
  obtain ⟨h1, h2⟩ := catB_at (i := 0) h hl
  have hk := (List.getElem?_eq_some_iff.1 hl).1
  unfold chunk
  rw [h1, Nat.zero_add]
  exact good_take h2 (by omega) (by have := good_few h2; omega)
theorem log_good {ev : Nat} {recs : List Rc} {bs : List (List En)} (h : allB ev recs 0 bs) (hb : bs.length ≤ 100000) {k : Nat} (hk : k < bs.length) : goodC (catB 0 bs) k = true := by
  have hl : bs[k]? = some bs[k] := List.getElem?_eq_getElem hk
  unfold goodC
  rw [log_chunk h hb hl]
  exact decide_eq_true ⟨rfl, rfl⟩
/-- The records of some blocks. -/
def recsB (bs : List (List En)) : List Rc := (bs.map recsOf).flatten
theorem recsB_snoc (bs : List (List En)) (l : List En) : recsB (bs ++ [l]) = recsB bs ++ recsOf l := by simp [recsB]
theorem recsB_len : ∀ bs : List (List En), (recsB bs).length = cntB bs
  | [] => rfl
  | l :: bs => by
    show (recsOf l ++ recsB bs).length = l.length + cntB bs
    rw [List.length_append, recsOf_len, recsB_len bs]
theorem blk_recs {ev : Nat} {recs : List Rc} {at_ : Nat} {l : List En} (h : blkOk ev recs at_ l) : recsOf l = (recs.drop at_).take l.length := by
  refine List.ext_getElem? fun k => ?_
  rw [List.getElem?_take, List.getElem?_drop]
  by_cases hk : k < l.length
  · rw [if_pos hk]
    obtain ⟨r, h1, h2⟩ := h k l[k] (List.getElem?_eq_getElem hk)
    rw [h1]
    unfold recsOf
    rw [List.getElem?_map, List.getElem?_eq_getElem hk, h2]; rfl
  · rw [if_neg hk]
    exact List.getElem?_eq_none (by rw [recsOf_len]; omega)
theorem recsB_log {ev : Nat} {recs : List Rc} : ∀ {bs : List (List En)} {at_ : Nat}, allB ev recs at_ bs → recsB bs = (recs.drop at_).take (cntB bs)
  | [], _, _ => by simp [recsB, cntB]
  | l :: bs, at_, h => by
    show recsOf l ++ recsB bs = (recs.drop at_).take (l.length + cntB bs)
    rw [blk_recs h.1.1, recsB_log h.2, List.take_add, List.drop_drop]
theorem recsB_all {ev : Nat} {recs : List Rc} {bs : List (List En)} (h : allB ev recs 0 bs) (hc : cntB bs = recs.length) : recsB bs = recs := by
  rw [recsB_log h, hc, List.drop_zero, List.take_length]
theorem recsB_take {ev : Nat} {recs : List Rc} {bs : List (List En)} (h : allB ev recs 0 bs) (hc : cntB bs = recs.length) (k : Nat) : recsB (bs.take k) = recs.take (cntB (bs.take k)) := by
  have e : recsB bs = recsB (bs.take k) ++ recsB (bs.drop k) := by
    unfold recsB
    rw [← List.flatten_append, ← List.map_append, List.take_append_drop]
  have e2 := recsB_all h hc
  rw [e] at e2
  rw [← e2, List.take_left' (recsB_len _)]
/-- What is read of bytes whose first k blocks are those of a log. -/
theorem readS_log {ev : Nat} {recs : List Rc} {bs : List (List En)} (h : allB ev recs 0 bs) (hb : bs.length ≤ 100000) {zs : List Int} : ∀ k, k ≤ bs.length → (∀ i, i < k → chunk zs i = chunk (catB 0 bs) i) → readS zs k = (recsB (bs.take k), [])
  | 0, _, _ => by simp [readS, recsB]
  | k + 1, hk, hc => by
    have ih := readS_log h hb k (by omega) (fun i hi => hc i (by omega))
    have hl : bs[k]? = some bs[k] := List.getElem?_eq_getElem (by omega)
    have hg : goodC zs k = true := by
      have := log_good h hb (show k < bs.length by omega)
      unfold goodC at *
      rw [hc k (by omega)]; exact this
    rw [readS_good hg, ih, hc k (by omega), log_chunk h hb hl, List.take_add_one, hl, Option.toList_some, recsB_snoc]
theorem chunk_take {zs : List Int} {n k : Nat} (h : 256 * (k + 1) ≤ n) : chunk (zs.take n) k = chunk zs k := by
  unfold chunk
  rw [List.drop_take, List.take_take, Nat.min_eq_left (by omega)]
theorem scanF_log {ev : Nat} {recs : List Rc} {bs : List (List En)} (h : allB ev recs 0 bs) (hb : bs.length ≤ 100000) {zs : List Int} {J : Nat} (hz : zs.drop J = catB 0 bs) (hJ : J ≤ zs.length) : ∀ n k f, k + n = bs.length → n < f → scanF zs f (J + 256 * k) = logF J k (bs.drop k)
  | 0, k, f, hk, hf => by
    have hl := catB_len (i := 0) h
    rw [← hz, List.length_drop] at hl
    rw [scanF_end (by omega), List.drop_of_length_le (by omega)]; rfl
  | n + 1, k, f + 1, hk, hf => by
    have hl := catB_len (i := 0) h
    rw [← hz, List.length_drop] at hl
    have hg : bs[k]? = some bs[k] := List.getElem?_eq_getElem (by omega)
    have hc : chAt zs (J + 256 * k) = chunk (catB 0 bs) k := by
      unfold chAt chunk
      rw [← hz, List.drop_drop]
    have ht := log_chunk h hb hg
    rw [← hc] at ht
    have ih := scanF_log h hb hz hJ n (k + 1) f (by omega) (by omega)
    rw [scanF_hit (by omega) (by rw [ht]), ht, show J + 256 * k + 256 = J + 256 * (k + 1) by omega, ih]
    rw [List.drop_eq_getElem_cons (show k < bs.length by omega)]
    rfl
  | n + 1, k, 0, hk, hf => by omega
theorem scanF_junk {ev : Nat} {recs : List Rc} {bs : List (List En)} (h : allB ev recs 0 bs) (hb : bs.length ≤ 100000) {zs : List Int} {J : Nat} (hz : zs.drop J = catB 0 bs) (hJ : J ≤ zs.length) (h76 : ∀ p, p < J → zs.getD p 0 ≠ 76) : ∀ n p f, p + n = J → n + bs.length < f → scanF zs f p = logF J 0 bs
  | 0, p, f, hp, hf => by
    have := scanF_log h hb hz hJ bs.length 0 f (by omega) (by omega)
    rw [show J + 256 * 0 = p by omega, List.drop_zero] at this
    exact this
  | n + 1, p, f + 1, hp, hf => by
    by_cases c : p + 256 ≤ zs.length
    · rw [scanF_miss c (takB_76 c (h76 p (by omega)))]
      exact scanF_junk h hb hz hJ h76 n (p + 1) f (by omega) (by omega)
    · rw [scanF_end (by omega)]
      have hl := catB_len (i := 0) h
      rw [← hz, List.length_drop] at hl
      have : bs = [] := List.length_eq_zero_iff.1 (by omega)
      rw [this]; rfl
  | n + 1, p, 0, hp, hf => by omega
theorem scanS_log {ev : Nat} {recs : List Rc} {bs : List (List En)} (h : allB ev recs 0 bs) (hb : bs.length ≤ 100000) {b : List Int} (h76 : ∀ x ∈ b, x ≠ 76) : scanS (b ++ catB 0 bs) = logF b.length 0 bs := by
  have hl := catB_len (i := 0) h
  unfold scanS
  refine scanF_junk h hb (by simp) (by simp) (fun p hp => ?_) b.length 0 _ (by omega) (by rw [List.length_append, hl]; omega)
  rw [List.getD_eq_getElem?_getD, List.getElem?_append_left hp, List.getElem?_eq_getElem hp]
  exact h76 _ (List.getElem_mem _)
theorem logF_len (J : Nat) : ∀ k bs, (logF J k bs).length = bs.length
  | _, [] => rfl
  | k, l :: bs => by show (logF J (k + 1) bs).length + 1 = bs.length + 1; rw [logF_len J (k + 1) bs]
theorem logF_at (J : Nat) : ∀ (bs : List (List En)) (k i : Nat) (l : List En), bs[i]? = some l → (logF J k bs)[i]? = some (((J + 256 * (k + i) : Nat) : Int), ((k + i : Nat) : Int), l)
  | [], _, _, _, h => by simp at h
  | b :: bs, k, 0, l, h => by
    obtain rfl : b = l := by simpa using h
    rfl
  | b :: bs, k, i + 1, l, h => by
    have := logF_at J bs (k + 1) i l (by simpa using h)
    show (logF J (k + 1) bs)[i]? = _
    rw [this, show k + 1 + i = k + (i + 1) by omega]
theorem nos_at {l : List S37} {i : Nat} {x : S37} (h : l[i]? = some x) : (nosS l).getD i 0 = x.2.1 := by
  unfold nosS
  rw [List.getD_eq_getElem?_getD, List.getElem?_map, h]; rfl
theorem nosS_len (l : List S37) : (nosS l).length = l.length := by simp [nosS]
theorem gap_log (J : Nat) (bs : List (List En)) : gapS (nosS (logF J 0 bs)) = 0 := by
  have key : ∀ k, gapF (nosS (logF J 0 bs)) k = 0 := by
    intro k
    induction k with
    | zero => rfl
    | succ k ih =>
      by_cases c : k + 1 < (nosS (logF J 0 bs)).length
      · rw [gapF_step c, ih]
        rw [nosS_len, logF_len] at c
        have h1 := logF_at J bs 0 (k + 1) _ (List.getElem?_eq_getElem c)
        have h2 := logF_at J bs 0 k _ (List.getElem?_eq_getElem (show k < bs.length by omega))
        rw [nos_at h1, nos_at h2]
        dsimp only
        omega
      · rw [show gapF (nosS (logF J 0 bs)) (k + 1) = gapF (nosS (logF J 0 bs)) k from if_neg c, ih]
  exact key _
/-- Which blocks are not good, in order. -/
theorem bad_next (zs : List Int) (k : Nat) : ∀ n, ∃ r, (readS zs (k + n)).2 = (readS zs k).2 ++ r ∧ ∀ x ∈ r, (k : Int) ≤ x
  | 0 => ⟨[], by simp, fun x hx => by cases hx⟩
  | n + 1 => by
    obtain ⟨r, h1, h2⟩ := bad_next zs k n
    by_cases hg : goodC zs (k + n) = true
    · exact ⟨r, by rw [← Nat.add_assoc, readS_good hg]; exact h1, h2⟩
    · have hg : goodC zs (k + n) = false := by simpa using hg
      refine ⟨r ++ [((k + n : Nat) : Int)], by rw [← Nat.add_assoc, readS_bad hg]; dsimp only; rw [h1, List.append_assoc], fun x hx => ?_⟩
      rcases List.mem_append.1 hx with hx | hx
      · exact h2 x hx
      · rw [List.mem_singleton] at hx; subst hx; omega
theorem bad_at {zs : List Int} {k nb : Nat} (hk : k < nb) (hg : goodC zs k = false) : (readS zs k).2.length < (readS zs nb).2.length ∧ (readS zs nb).2.getD (readS zs k).2.length 0 = (k : Int) := by
  obtain ⟨r, h1, h2⟩ := bad_next zs (k + 1) (nb - (k + 1))
  rw [show k + 1 + (nb - (k + 1)) = nb by omega, readS_bad hg] at h1
  rw [h1]
  dsimp only
  refine ⟨by simp, ?_⟩
  rw [List.getD_eq_getElem?_getD, List.append_assoc, List.getElem?_append_right (Nat.le_refl _)]
  simp
theorem good_at {zs : List Int} {k nb : Nat} (hk : k < nb) (hg : goodC zs k = true) (hl : (readS zs k).2.length < (readS zs nb).2.length) : (readS zs nb).2.getD (readS zs k).2.length 0 ≠ (k : Int) := by
  obtain ⟨r, h1, h2⟩ := bad_next zs (k + 1) (nb - (k + 1))
  rw [show k + 1 + (nb - (k + 1)) = nb by omega, readS_good hg] at h1
  rw [h1] at hl ⊢
  dsimp only at hl ⊢
  rw [List.getD_eq_getElem?_getD, List.getElem?_append_right (Nat.le_refl _), Nat.sub_self]
  rw [List.length_append] at hl
  cases r with
  | nil => simp at hl
  | cons y r =>
    have := h2 y (by simp)
    show y ≠ _
    omega
/-- What is read where one block of a log is not good. -/
theorem readS_one {ev : Nat} {recs : List Rc} {bs : List (List En)} (h : allB ev recs 0 bs) (hb : bs.length ≤ 100000) {zs : List Int} {q : Nat} (hq : q < bs.length) (hg : goodC zs q = false) : ∀ k, k ≤ bs.length → (∀ i, i < k → i ≠ q → chunk zs i = chunk (catB 0 bs) i) → (readS zs k).2 = (if q < k then [(q : Int)] else []) ∧ (readS zs k).1.length + (if q < k then (bs.getD q []).length else 0) = cntB (bs.take k)
  | 0, _, _ => by simp [readS, cntB]
  | k + 1, hk, hc => by
    obtain ⟨i1, i2⟩ := readS_one h hb hq hg k (by omega) (fun i hi hn => hc i (by omega) hn)
    have hl : bs[k]? = some bs[k] := List.getElem?_eq_getElem (by omega)
    rw [cnt_take bs hl]
    by_cases e : k = q
    · subst e
      rw [readS_bad hg]
      dsimp only
      rw [i1, if_neg (by omega), if_pos (by omega), if_pos (by omega)]
      rw [if_neg (by omega)] at i2
      refine ⟨rfl, ?_⟩
      rw [List.getD_eq_getElem?_getD, hl]
      show _ + bs[k].length = _
      omega
    · have hg2 : goodC zs k = true := by
        have := log_good h hb (show k < bs.length by omega)
        unfold goodC at *
        rw [hc k (by omega) e]; exact this
      rw [readS_good hg2]
      dsimp only
      rw [i1, hc k (by omega) e, log_chunk h hb hl]
      dsimp only
      rw [List.length_append, recsOf_len]
      by_cases c : q < k
      · rw [if_pos c] at *
        rw [if_pos (by omega), if_pos (by omega)]
        exact ⟨rfl, by omega⟩
      · rw [if_neg c] at *
        rw [if_neg (by omega), if_neg (by omega)]
        exact ⟨rfl, by omega⟩

end Go.Proofs.Ytlfbhfmchdbnoaa
