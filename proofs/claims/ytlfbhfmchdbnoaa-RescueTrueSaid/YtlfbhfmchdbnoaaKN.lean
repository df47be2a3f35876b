/- Several texts in one: FlogM, FlogN. -/
import Derived.Test.YtlfbhfmchdbnoaaBlk11
import Derived.Test.YtlfbhfmchdbnoaaEls
import Derived.Deep.DeepCutAuto

/- Package flog: what a log is. -/
namespace Go.Proofs.Ytlfbhfmchdbnoaa
open Go.ChangeShapes Go.WideShapes Go.ChangeAt Go.RowKit
set_option linter.unusedVariables false
set_option linter.unusedSimpArgs false

theorem putB_e (no : Int) (l : List En) : 0 ≤ (putB no l).2 ∧ (putB no l).2 ≤ 9 := by
  unfold putB
  split
  · split <;> simp
  · simp
theorem putB_no {no : Int} {l : List En} (h : (putB no l).2 ≠ 0) : (putB no l).1 = [] := by
  unfold putB at *
  split
  · rename_i c
    rw [if_pos c] at h
    split
    · rfl
    · rename_i c2
      rw [if_neg c2] at h; exact absurd rfl h
  · rfl
theorem putB_wf {no : Int} {l : List En} (hl : ∀ x ∈ l, EnOk x) : ∀ y ∈ (putB no l).1, 0 ≤ y ∧ y ≤ 255 := by
  intro y hy
  unfold putB at hy
  split at hy
  · split at hy
    · cases hy
    · unfold blockB at hy
      refine crcSeal_bytes _ (bytes_bd (fill_wf ?_)) y hy
      intro z hz
      rcases List.mem_append.1 hz with hz | hz
      · exact hdr_wf _ _ z hz
      · exact entS_wf l _ stK0.2.2 hl z hz
  · cases hy
theorem putB_len {no : Int} {l : List En} : (putB no l).1.length ≤ 256 := by
  unfold putB
  split
  · split
    · simp
    · rename_i c
      unfold blockB
      rw [crcSeal_len, fill_len (by rw [List.length_append, hdr_len]; omega)]
      exact Nat.le_refl _
  · simp
/-- A log: the entries of the block that is not finished, how many records, how many blocks. -/
abbrev FSt := List En × Nat × Nat
def flushS (s : FSt) : List Int × FSt := if s.1.isEmpty then ([], s) else ((putB (s.2.2 : Int) s.1).1, ([], s.2.1, s.2.2 + 1))
def keyS (ev : Nat) (s : FSt) : Bool := s.1.isEmpty || decide (s.2.1 % ev = 0)
def addS (ev : Nat) (s : FSt) (r : Int × List Int) : List Int × FSt :=
  if 248 < (entS (0, zer12) (s.1 ++ [(keyS ev s, r)])).length then ((flushS s).1, ([(true, r)], s.2.1 + 1, (flushS s).2.2.2)) else ([], (s.1 ++ [(keyS ev s, r)], s.2.1 + 1, s.2.2))
def FOk (s : FSt) : Prop := (s.1 = [] ∨ keyed s.1 = true) ∧ (entS (0, zer12) s.1).length ≤ 248 ∧ ∀ x ∈ s.1, EnOk x
theorem layS_ge {st : Int × List Int} {x : En} (h1 : ∀ y ∈ st.2, -2147483648 ≤ y ∧ y ≤ 2147483647) (hx : EnOk x) : 3 ≤ (layS st x).length := by
  unfold layS
  split
  · rw [List.length_cons, keyV_len _ _ hx.2.1]; omega
  · have := (deltaV_len (t := st.1) (u := x.2.1) (get_bd h1) (get_bd hx.2.2)).1
    rw [List.length_cons]; omega
theorem entS_ge : ∀ (l : List En) (st : Int × List Int), (∀ y ∈ st.2, -2147483648 ≤ y ∧ y ≤ 2147483647) → (∀ x ∈ l, EnOk x) → 3 * l.length ≤ (entS st l).length
  | [], _, _, _ => by simp
  | x :: l, st, h1, hx => by
    have h2 := layS_ge h1 (hx x (by simp))
    have h3 := entS_ge l x.2 (hx x (by simp)).2.2 (fun y hy => hx y (by simp [hy]))
    rw [entS, List.length_append, List.length_cons]; omega
theorem fok_few {s : FSt} (h : FOk s) : s.1.length ≤ 82 := by
  have := entS_ge s.1 (0, zer12) stK0.2.2 h.2.2
  have := h.2.1
  omega
theorem ent1 {r : Int × List Int} (h : r.2.length = 12) : (entS (0, zer12) [(true, r)]).length = 53 := by
  show (75 :: keyV r.1 r.2 ++ []).length = 53
  rw [List.append_nil, List.length_cons, keyV_len _ _ h]
theorem fok0 : FOk ([], 0, 0) := ⟨.inl rfl, by simp [entS], fun x hx => by cases hx⟩
theorem flush_ok {s : FSt} (h : FOk s) : FOk (flushS s).2 := by
  unfold flushS
  split
  · exact h
  · exact ⟨.inl rfl, by simp [entS], fun x hx => by cases hx⟩
theorem keyed_snoc {l : List En} {x : En} (h : l = [] → x.1 = true) (hl : l = [] ∨ keyed l = true) : keyed (l ++ [x]) = true := by
  cases l with
  | nil => exact h rfl
  | cons y l => rcases hl with h | h; cases h; exact h
theorem keyS_nil (ev : Nat) {s : FSt} (h : s.1 = []) : keyS ev s = true := by unfold keyS; rw [h]; rfl
theorem add_ok {ev : Nat} {s : FSt} {r : Int × List Int} (h : FOk s) (hr : StK r) : FOk (addS ev s r).2 := by
  have hx : ∀ b, EnOk (b, r) := fun b => ⟨hr.1, hr.2.1, hr.2.2⟩
  unfold addS
  split
  · refine ⟨.inr rfl, by rw [show (([(true, r)], s.2.1 + 1, (flushS s).2.2.2) : FSt).1 = [(true, r)] from rfl, ent1 hr.2.1]; omega, fun x hx2 => ?_⟩
    obtain rfl := List.mem_singleton.1 hx2
    exact hx true
  · rename_i c
    refine ⟨.inr (keyed_snoc (fun e => keyS_nil ev e) h.1), by dsimp only; omega, fun x hx2 => ?_⟩
    rcases List.mem_append.1 hx2 with hx2 | hx2
    · exact h.2.2 x hx2
    · obtain rfl := List.mem_singleton.1 hx2
      exact hx _
theorem put_told {no : Nat} {l : List En} (hl : ∀ x ∈ l, EnOk x) (hk : keyed l = true) (h2 : (entS (0, zer12) l).length ≤ 248) : putB (no : Int) l = (blockB (no : Int) l, 0) := by
  unfold putB
  rw [hk, if_pos rfl, if_neg (by omega)]
theorem flush_some {s : FSt} (h : FOk s) (hn : s.1 ≠ []) : putB (s.2.2 : Int) s.1 = ((flushS s).1, 0) ∧ flushS s = ((putB (s.2.2 : Int) s.1).1, ([], s.2.1, s.2.2 + 1)) := by
  have hk := h.1.resolve_left hn
  have e := put_told (no := s.2.2) h.2.2 hk h.2.1
  have he : s.1.isEmpty = false := by cases hs : s.1 with
    | nil => exact absurd hs hn
    | cons a b => rfl
  have e2 : flushS s = ((putB (s.2.2 : Int) s.1).1, ([], s.2.1, s.2.2 + 1)) := by unfold flushS; rw [he]; rfl
  refine ⟨?_, e2⟩
  rw [e2, e]
theorem flush_none {s : FSt} (hn : s.1 = []) : flushS s = ([], s) := by unfold flushS; rw [hn]; rfl
theorem over_some {ev : Nat} {s : FSt} {r : Int × List Int} (hr : StK r) (h : 248 < (entS (0, zer12) (s.1 ++ [(keyS ev s, r)])).length) : s.1 ≠ [] := by
  intro e
  have hk := keyS_nil ev e
  rw [e, hk, List.nil_append, ent1 hr.2.1] at h
  omega
theorem told_wf {s : FSt} (h : FOk s) : (∀ y ∈ (flushS s).1, (Lit.int .u8 y).wf = true) ∧ (flushS s).1.length ≤ 256 := by
  unfold flushS
  split
  · exact ⟨fun y hy => (by cases hy), by simp⟩
  · exact ⟨bytes_wf (putB_wf h.2.2), putB_len⟩
theorem add_wf {ev : Nat} {s : FSt} {r : Int × List Int} (h : FOk s) : (∀ y ∈ (addS ev s r).1, (Lit.int .u8 y).wf = true) ∧ (addS ev s r).1.length ≤ 256 := by
  unfold addS
  split
  · exact told_wf h
  · exact ⟨fun y hy => (by cases hy), by simp⟩
/-- All records added, one behind the other: what was told, and the log. -/
def addsS (ev : Nat) : FSt → List (Int × List Int) → List Int × FSt
  | s, [] => ([], s)
  | s, r :: l => ((addS ev s r).1 ++ (addsS ev (addS ev s r).2 l).1, (addsS ev (addS ev s r).2 l).2)
theorem addsS_snoc (ev : Nat) : ∀ (l : List (Int × List Int)) (s : FSt) (r : Int × List Int), addsS ev s (l ++ [r]) = ((addsS ev s l).1 ++ (addS ev (addsS ev s l).2 r).1, (addS ev (addsS ev s l).2 r).2)
  | [], s, r => by simp [addsS]
  | x :: l, s, r => by
    show ((addS ev s x).1 ++ (addsS ev (addS ev s x).2 (l ++ [r])).1, (addsS ev (addS ev s x).2 (l ++ [r])).2) = _
    rw [addsS_snoc ev l]
    simp [addsS]
theorem adds_ok {ev : Nat} : ∀ {l : List (Int × List Int)} {s : FSt}, FOk s → (∀ r ∈ l, StK r) → FOk (addsS ev s l).2
  | [], _, h, _ => h
  | r :: l, s, h, hr => show FOk (addsS ev (addS ev s r).2 l).2 from adds_ok (add_ok h (hr r (by simp))) (fun x hx => hr x (by simp [hx]))
theorem add_cnt (ev : Nat) (s : FSt) (r : Int × List Int) : (addS ev s r).2.2.1 = s.2.1 + 1 ∧ (addS ev s r).2.2.2 ≤ s.2.2 + 1 := by
  unfold addS flushS
  split
  · split
    · exact ⟨rfl, Nat.le_succ _⟩
    · exact ⟨rfl, Nat.le_refl _⟩
  · exact ⟨rfl, Nat.le_succ _⟩
theorem flush_cnt (s : FSt) : (flushS s).2.2.1 = s.2.1 ∧ (flushS s).2.2.2 ≤ s.2.2 + 1 := by
  unfold flushS
  split
  · exact ⟨rfl, Nat.le_succ _⟩
  · exact ⟨rfl, Nat.le_refl _⟩
/-- All blocks of some records. -/
def writeS (ev : Nat) (l : List (Int × List Int)) : List Int := (addsS ev ([], 0, 0) l).1 ++ (flushS (addsS ev ([], 0, 0) l).2).1
theorem recP {T : Int} {v : List Int} : StK (T, v) → EnOk (true, T, v) := fun h => ⟨h.1, h.2.1, h.2.2⟩

end Go.Proofs.Ytlfbhfmchdbnoaa

/- Package flog: the blocks of a log. -/
namespace Go.Proofs.Ytlfbhfmchdbnoaa
open Go.ChangeShapes Go.WideShapes Go.ChangeAt Go.RowKit
set_option linter.unusedVariables false
set_option linter.unusedSimpArgs false

abbrev Rc := Int × List Int
def blkOk (ev : Nat) (recs : List Rc) (at_ : Nat) (l : List En) : Prop := ∀ k x, l[k]? = some x → ∃ r, recs[at_ + k]? = some r ∧ x = (decide (k = 0 ∨ (at_ + k) % ev = 0), r)
def blkGood (ev : Nat) (recs : List Rc) (at_ : Nat) (l : List En) : Prop := blkOk ev recs at_ l ∧ keyed l = true ∧ (entS (0, zer12) l).length ≤ 248 ∧ ∀ x ∈ l, EnOk x
def catB : Nat → List (List En) → List Int
  | _, [] => []
  | i, l :: bs => (putB (i : Int) l).1 ++ catB (i + 1) bs
def cntB : List (List En) → Nat
  | [] => 0
  | l :: bs => l.length + cntB bs
def allB (ev : Nat) (recs : List Rc) : Nat → List (List En) → Prop
  | _, [] => True
  | at_, l :: bs => blkGood ev recs at_ l ∧ allB ev recs (at_ + l.length) bs
theorem catB_snoc : ∀ (bs : List (List En)) (i : Nat) (l : List En), catB i (bs ++ [l]) = catB i bs ++ (putB ((i + bs.length : Nat) : Int) l).1
  | [], i, l => by simp [catB]
  | b :: bs, i, l => by
    show (putB (i : Int) b).1 ++ catB (i + 1) (bs ++ [l]) = ((putB (i : Int) b).1 ++ catB (i + 1) bs) ++ _
    rw [catB_snoc bs (i + 1) l, List.append_assoc, List.length_cons, show i + 1 + bs.length = i + (bs.length + 1) by omega]
theorem cntB_snoc : ∀ (bs : List (List En)) (l : List En), cntB (bs ++ [l]) = cntB bs + l.length
  | [], l => by simp [cntB]
  | b :: bs, l => by
    show b.length + cntB (bs ++ [l]) = b.length + cntB bs + l.length
    rw [cntB_snoc bs l]; omega
theorem allB_snoc (ev : Nat) (recs : List Rc) : ∀ (bs : List (List En)) (at_ : Nat) (l : List En), allB ev recs at_ bs → blkGood ev recs (at_ + cntB bs) l → allB ev recs at_ (bs ++ [l])
  | [], at_, l, _, h => ⟨h, trivial⟩
  | b :: bs, at_, l, h, h2 => ⟨h.1, allB_snoc ev recs bs (at_ + b.length) l h.2 (by rw [show at_ + b.length + cntB bs = at_ + (b.length + cntB bs) by omega]; exact h2)⟩
/-- What stands when the first n records were added. -/
def LogIs (ev : Nat) (recs : List Rc) (n : Nat) (told : List Int) (s : FSt) : Prop :=
  FOk s ∧ s.2.1 = n ∧ ∃ bs, told = catB 0 bs ∧ allB ev recs 0 bs ∧ s.2.2 = bs.length ∧ cntB bs + s.1.length = n ∧ blkOk ev recs (cntB bs) s.1
theorem log0 (ev : Nat) (recs : List Rc) : LogIs ev recs 0 [] ([], 0, 0) := ⟨fok0, rfl, [], rfl, trivial, rfl, rfl, fun k x h => by simp at h⟩
theorem log_add {ev : Nat} {recs : List Rc} {n : Nat} {told : List Int} {s : FSt} {r : Rc} (h : LogIs ev recs n told s) (hr : recs[n]? = some r) (hk : StK r) : LogIs ev recs (n + 1) (told ++ (addS ev s r).1) (addS ev s r).2 := by
  obtain ⟨h1, h2, bs, h3, h4, h5, h6, h7⟩ := h
  refine ⟨add_ok h1 hk, by rw [(add_cnt ev s r).1, h2], ?_⟩
  by_cases c : 248 < (entS (0, zer12) (s.1 ++ [(keyS ev s, r)])).length
  · have hn := over_some hk c
    obtain ⟨e1, e2⟩ := flush_some h1 hn
    have e3 : addS ev s r = ((flushS s).1, ([(true, r)], s.2.1 + 1, (flushS s).2.2.2)) := by unfold addS; rw [if_pos c]
    rw [e3, e2]
    refine ⟨bs ++ [s.1], ?_, allB_snoc ev recs bs 0 s.1 h4 ⟨by rw [Nat.zero_add]; exact h7, h1.1.resolve_left hn, h1.2.1, h1.2.2⟩, by rw [List.length_append, h5]; rfl, by rw [cntB_snoc]; show _ + 1 = _; omega, ?_⟩
    · rw [catB_snoc, h3, h5, Nat.zero_add]
    · intro k x hx
      rw [cntB_snoc]
      cases k with
      | zero =>
        obtain rfl : (true, r) = x := by simpa using hx
        exact ⟨r, by rw [Nat.add_zero, h6]; exact hr, by simp⟩
      | succ k => simp at hx
  · have e3 : addS ev s r = ([], (s.1 ++ [(keyS ev s, r)], s.2.1 + 1, s.2.2)) := by unfold addS; rw [if_neg c]
    rw [e3]
    refine ⟨bs, by rw [List.append_nil]; exact h3, h4, h5, by show cntB bs + (s.1 ++ [_]).length = _; rw [List.length_append, ← Nat.add_assoc, h6]; rfl, ?_⟩
    intro k x hx
    by_cases hl : k < s.1.length
    · refine h7 k x ?_
      have hx2 : (s.1 ++ [(keyS ev s, r)])[k]? = some x := hx
      rwa [List.getElem?_append_left hl] at hx2
    · have hx2 : (s.1 ++ [(keyS ev s, r)])[k]? = some x := hx
      rw [List.getElem?_append_right (by omega)] at hx2
      have hk0 : k - s.1.length = 0 := by
        have := (List.getElem?_eq_some_iff.1 hx2).1
        simp at this; omega
      rw [hk0] at hx2
      obtain rfl : (keyS ev s, r) = x := by simpa using hx2
      obtain rfl : k = s.1.length := by omega
      refine ⟨r, by rw [h6]; exact hr, ?_⟩
      have : keyS ev s = decide (s.1.length = 0 ∨ (cntB bs + s.1.length) % ev = 0) := by
        unfold keyS
        rw [h6, ← h2]
        cases s.1 with
        | nil => simp
        | cons a b => simp
      rw [this]
theorem adds_log {ev : Nat} {recs : List Rc} (hk : ∀ r ∈ recs, StK r) : ∀ n, n ≤ recs.length → LogIs ev recs n (addsS ev ([], 0, 0) (recs.take n)).1 (addsS ev ([], 0, 0) (recs.take n)).2
  | 0, _ => log0 ev recs
  | n + 1, h => by
    have ih := adds_log (ev := ev) hk n (by omega)
    have hr : recs[n]? = some recs[n] := List.getElem?_eq_getElem (by omega)
    rw [List.take_add_one, hr, Option.toList_some, addsS_snoc]
    exact log_add ih hr (hk _ (List.getElem_mem _))
theorem write_log {ev : Nat} {recs : List Rc} (hk : ∀ r ∈ recs, StK r) : ∃ bs, writeS ev recs = catB 0 bs ∧ allB ev recs 0 bs ∧ cntB bs = recs.length := by
  have h := adds_log (ev := ev) hk recs.length (Nat.le_refl _)
  rw [List.take_length] at h
  obtain ⟨h1, h2, bs, h3, h4, h5, h6, h7⟩ := h
  unfold writeS
  by_cases hn : (addsS ev ([], 0, 0) recs).2.1 = []
  · rw [flush_none hn, List.append_nil]
    rw [hn] at h6
    exact ⟨bs, h3, h4, by simpa using h6⟩
  · obtain ⟨e1, e2⟩ := flush_some h1 hn
    rw [e2]
    refine ⟨bs ++ [(addsS ev ([], 0, 0) recs).2.1], ?_, allB_snoc ev recs bs 0 _ h4 ⟨by rw [Nat.zero_add]; exact h7, h1.1.resolve_left hn, h1.2.1, h1.2.2⟩, by rw [cntB_snoc]; exact h6⟩
    rw [catB_snoc, h3, h5, Nat.zero_add]
theorem good_len {ev : Nat} {recs : List Rc} {at_ : Nat} {l : List En} (h : blkGood ev recs at_ l) (no : Nat) : (putB (no : Int) l).1.length = 256 := by
  rw [put_told h.2.2.2 h.2.1 h.2.2.1]
  show (blockB (no : Int) l).length = 256
  unfold blockB
  rw [crcSeal_len, fill_len (by rw [List.length_append, hdr_len]; have := h.2.2.1; omega)]
theorem catB_len {ev : Nat} {recs : List Rc} : ∀ {bs : List (List En)} {at_ i : Nat}, allB ev recs at_ bs → (catB i bs).length = 256 * bs.length
  | [], _, _, _ => rfl
  | l :: bs, at_, i, h => by
    show ((putB (i : Int) l).1 ++ catB (i + 1) bs).length = _
    rw [List.length_append, good_len h.1, catB_len h.2, List.length_cons]; omega
theorem catB_at {ev : Nat} {recs : List Rc} : ∀ {bs : List (List En)} {at_ i k : Nat} {l : List En}, allB ev recs at_ bs → bs[k]? = some l → ((catB i bs).drop (256 * k)).take 256 = (putB ((i + k : Nat) : Int) l).1 ∧ blkGood ev recs (at_ + cntB (bs.take k)) l
  | [], _, _, k, _, _, h => by simp at h
  | b :: bs, at_, i, 0, l, h, hl => by
    obtain rfl : b = l := by simpa using hl
    refine ⟨?_, h.1⟩
    show (((putB (i : Int) b).1 ++ catB (i + 1) bs).drop 0).take 256 = _
    rw [List.drop_zero, List.take_left' (good_len h.1 i)]; rfl
  | b :: bs, at_, i, k + 1, l, h, hl => by
    have ih := catB_at (i := i + 1) h.2 (show bs[k]? = some l by simpa using hl)
    have e1 : (catB i (b :: bs)).drop (256 * (k + 1)) = (catB (i + 1) bs).drop (256 * k) := by
      show ((putB (i : Int) b).1 ++ catB (i + 1) bs).drop _ = _
      rw [show 256 * (k + 1) = 256 + 256 * k by omega, ← List.drop_drop, List.drop_left' (good_len h.1 i)]
    rw [e1]
    refine ⟨by rw [ih.1, show i + 1 + k = i + (k + 1) by omega], ?_⟩
    have := ih.2
    rw [List.take_succ_cons]
    show blkGood ev recs (at_ + (b.length + cntB (bs.take k))) l
    rw [← Nat.add_assoc]; exact this
theorem cnt_take (bs : List (List En)) {k : Nat} {l : List En} (h : bs[k]? = some l) : cntB (bs.take (k + 1)) = cntB (bs.take k) + l.length := by
  rw [List.take_add_one, h, Option.toList_some, cntB_snoc]
theorem cnt_le : ∀ (bs : List (List En)) (k : Nat), cntB (bs.take k) ≤ cntB bs
  | [], k => by simp
  | b :: bs, 0 => by simp [cntB]
  | b :: bs, k + 1 => by
    rw [List.take_succ_cons]
    show b.length + _ ≤ b.length + _
    have := cnt_le bs k; omega

end Go.Proofs.Ytlfbhfmchdbnoaa
