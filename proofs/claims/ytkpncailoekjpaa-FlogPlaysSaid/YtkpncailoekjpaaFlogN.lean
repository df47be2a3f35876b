/- Package flog: the blocks of a log. -/
import Derived.Test.YtkpncailoekjpaaFlogM
import Derived.Deep.DeepCutAuto
namespace Go.Proofs.Ytkpncailoekjpaa
open Go.ChangeShapes Go.WideShapes Go.ChangeAt Go.RowKit
set_option linter.unusedVariables false
set_option linter.unusedSimpArgs false

abbrev Rc := Int × List Int
def blkOk (ev : Nat) (recs : List Rc) (at_ : Nat) (l : List En) : Prop := ∀ k x, l[k]? = some x → ∃ r, recs[at_ + k]? = some r ∧ x = (decide (k = 0 ∨ (at_ + k) % ev = 0), r)
def blkGood (ev : Nat) (recs : List Rc) (at_ : Nat) (l : List En) : Prop := blkOk ev recs at_ l ∧ keyed l = true ∧ (entS (0, zer12) l).length ≤ 248 ∧ ∀ x ∈ l, EnOk x
def catB : Nat → List (List En) → List Int
  | _, [] => []
  | i, l :: bs => (putB (i : Int) l).1 ++ catB (i + 1) bs
def cntB : List (List En) → Nat
  | [] => 0
  | l :: bs => l.length + cntB bs
def allB (ev : Nat) (recs : List Rc) : Nat → List (List En) → Prop
  | _, [] => True
  | at_, l :: bs => blkGood ev recs at_ l ∧ allB ev recs (at_ + l.length) bs
theorem catB_snoc : ∀ (bs : List (List En)) (i : Nat) (l : List En), catB i (bs ++ [l]) = catB i bs ++ (putB ((i + bs.length : Nat) : Int) l).1
  | [], i, l => by simp [catB]
  | b :: bs, i, l => by
    show (putB (i : Int) b).1 ++ catB (i + 1) (bs ++ [l]) = ((putB (i : Int) b).1 ++ catB (i + 1) bs) ++ _
    rw [catB_snoc bs (i + 1) l, List.append_assoc, List.length_cons, show i + 1 + bs.length = i + (bs.length + 1) by omega]
theorem cntB_snoc : ∀ (bs : List (List En)) (l : List En), cntB (bs ++ [l]) = cntB bs + l.length
  | [], l => by simp [cntB]
  | b :: bs, l => by
    show b.length + cntB (bs ++ [l]) = b.length + cntB bs + l.length
    rw [cntB_snoc bs l]; omega
theorem allB_snoc (ev : Nat) (recs : List Rc) : ∀ (bs : List (List En)) (at_ : Nat) (l : List En), allB ev recs at_ bs → blkGood ev recs (at_ + cntB bs) l → allB ev recs at_ (bs ++ [l])
  | [], at_, l, _, h => ⟨h, trivial⟩
  | b :: bs, at_, l, h, h2 => ⟨h.1, allB_snoc ev recs bs (at_ + b.length) l h.2 (by rw [show at_ + b.length + cntB bs = at_ + (b.length + cntB bs) by omega]; exact h2)⟩
/-- What stands when the first n records were added. -/
def LogIs (ev : Nat) (recs : List Rc) (n : Nat) (told : List Int) (s : FSt) : Prop :=
  FOk s ∧ s.2.1 = n ∧ ∃ bs, told = catB 0 bs ∧ allB ev recs 0 bs ∧ s.2.2 = bs.length ∧ cntB bs + s.1.length = n ∧ blkOk ev recs (cntB bs) s.1
theorem log0 (ev : Nat) (recs : List Rc) : LogIs ev recs 0 [] ([], 0, 0) := ⟨fok0, rfl, [], rfl, trivial, rfl, rfl, fun k x h => by simp at h⟩
theorem log_add {ev : Nat} {recs : List Rc} {n : Nat} {told : List Int} {s : FSt} {r : Rc} (h : LogIs ev recs n told s) (hr : recs[n]? = some r) (hk : StK r) : LogIs ev recs (n + 1) (told ++ (addS ev s r).1) (addS ev s r).2 := by
  obtain ⟨h1, h2, bs, h3, h4, h5, h6, h7⟩ := h
  refine ⟨add_ok h1 hk, by rw [(add_cnt ev s r).1, h2], ?_⟩
  by_cases c : 248 < (entS (0, zer12) (s.1 ++ [(keyS ev s, r)])).length
  · have hn := over_some hk c
    obtain ⟨e1, e2⟩ := flush_some h1 hn
    have e3 : addS ev s r = ((flushS s).1, ([(true, r)], s.2.1 + 1, (flushS s).2.2.2)) := by unfold addS; rw [if_pos c]
    rw [e3, e2]
    refine ⟨bs ++ [s.1], ?_, allB_snoc ev recs bs 0 s.1 h4 ⟨by rw [Nat.zero_add]; exact h7, h1.1.resolve_left hn, h1.2.1, h1.2.2⟩, by rw [List.length_append, h5]; rfl, by rw [cntB_snoc]; show _ + 1 = _; omega, ?_⟩
    · rw [catB_snoc, h3, h5, Nat.zero_add]
    · intro k x hx
      rw [cntB_snoc]
      cases k with
      | zero =>
        obtain rfl : (true, r) = x := by simpa using hx
        exact ⟨r, by rw [Nat.add_zero, h6]; exact hr, by simp⟩
      | succ k => simp at hx
  · have e3 : addS ev s r = ([], (s.1 ++ [(keyS ev s, r)], s.2.1 + 1, s.2.2)) := by unfold addS; rw [if_neg c]
    rw [e3]
    refine ⟨bs, by rw [List.append_nil]; exact h3, h4, h5, by show cntB bs + (s.1 ++ [_]).length = _; rw [List.length_append, ← Nat.add_assoc, h6]; rfl, ?_⟩
    intro k x hx
    by_cases hl : k < s.1.length
    · refine h7 k x ?_
      have hx2 : (s.1 ++ [(keyS ev s, r)])[k]? = some x := hx
      rwa [List.getElem?_append_left hl] at hx2
    · have hx2 : (s.1 ++ [(keyS ev s, r)])[k]? = some x := hx
      rw [List.getElem?_append_right (by omega)] at hx2
      have hk0 : k - s.1.length = 0 := by
        have := (List.getElem?_eq_some_iff.1 hx2).1
        simp at this; omega
      rw [hk0] at hx2
      obtain rfl : (keyS ev s, r) = x := by simpa using hx2
      obtain rfl : k = s.1.length := by omega
      refine ⟨r, by rw [h6]; exact hr, ?_⟩
      have : keyS ev s = decide (s.1.length = 0 ∨ (cntB bs + s.1.length) % ev = 0) := by
        unfold keyS
        rw [h6, ← h2]
        cases s.1 with
        | nil => simp
        | cons a b => simp
      rw [this]
theorem adds_log {ev : Nat} {recs : List Rc} (hk : ∀ r ∈ recs, StK r) : ∀ n, n ≤ recs.length → LogIs ev recs n (addsS ev ([], 0, 0) (recs.take n)).1 (addsS ev ([], 0, 0) (recs.take n)).2
  | 0, _ => log0 ev recs
  | n + 1, h => by
    have ih := adds_log (ev := ev) hk n (by omega)
    have hr : recs[n]? = some recs[n] := List.getElem?_eq_getElem (by omega)
    rw [List.take_add_one, hr, Option.toList_some, addsS_snoc]
    exact log_add ih hr (hk _ (List.getElem_mem _))
theorem write_log {ev : Nat} {recs : List Rc} (hk : ∀ r ∈ recs, StK r) : ∃ bs, writeS ev recs = catB 0 bs ∧ allB ev recs 0 bs ∧ cntB bs = recs.length := by
  have h := adds_log (ev := ev) hk recs.length (Nat.le_refl _)
  rw [List.take_length] at h
  obtain ⟨h1, h2, bs, h3, h4, h5, h6, h7⟩ := h
  unfold writeS
  by_cases hn : (addsS ev ([], 0, 0) recs).2.1 = []
  · rw [flush_none hn, List.append_nil]
    rw [hn] at h6
    exact ⟨bs, h3, h4, by simpa using h6⟩
  · obtain ⟨e1, e2⟩ := flush_some h1 hn
    rw [e2]
    refine ⟨bs ++ [(addsS ev ([], 0, 0) recs).2.1], ?_, allB_snoc ev recs bs 0 _ h4 ⟨by rw [Nat.zero_add]; exact h7, h1.1.resolve_left hn, h1.2.1, h1.2.2⟩, by rw [cntB_snoc]; exact h6⟩
    rw [catB_snoc, h3, h5, Nat.zero_add]
theorem good_len {ev : Nat} {recs : List Rc} {at_ : Nat} {l : List En} (h : blkGood ev recs at_ l) (no : Nat) : (putB (no : Int) l).1.length = 256 := by
  rw [put_told h.2.2.2 h.2.1 h.2.2.1]
  show (blockB (no : Int) l).length = 256
  unfold blockB
  rw [crcSeal_len, fill_len (by rw [List.length_append, hdr_len]; have := h.2.2.1; omega)]
theorem catB_len {ev : Nat} {recs : List Rc} : ∀ {bs : List (List En)} {at_ i : Nat}, allB ev recs at_ bs → (catB i bs).length = 256 * bs.length
  | [], _, _, _ => rfl
  | l :: bs, at_, i, h => by
    show ((putB (i : Int) l).1 ++ catB (i + 1) bs).length = _
    rw [List.length_append, good_len h.1, catB_len h.2, List.length_cons]; omega
theorem catB_at {ev : Nat} {recs : List Rc} : ∀ {bs : List (List En)} {at_ i k : Nat} {l : List En}, allB ev recs at_ bs → bs[k]? = some l → ((catB i bs).drop (256 * k)).take 256 = (putB ((i + k : Nat) : Int) l).1 ∧ blkGood ev recs (at_ + cntB (bs.take k)) l
  | [], _, _, k, _, _, h => by simp at h
  | b :: bs, at_, i, 0, l, h, hl => by
    obtain rfl : b = l := by simpa using hl
    refine ⟨?_, h.1⟩
    show (((putB (i : Int) b).1 ++ catB (i + 1) bs).drop 0).take 256 = _
    rw [List.drop_zero, List.take_left' (good_len h.1 i)]; rfl
  | b :: bs, at_, i, k + 1, l, h, hl => by
    have ih := catB_at (i := i + 1) h.2 (show bs[k]? = some l by simpa using hl)
    have e1 : (catB i (b :: bs)).drop (256 * (k + 1)) = (catB (i + 1) bs).drop (256 * k) := by
      show ((putB (i : Int) b).1 ++ catB (i + 1) bs).drop _ = _
      rw [show 256 * (k + 1) = 256 + 256 * k by omega, ← List.drop_drop, List.drop_left' (good_len h.1 i)]
    rw [e1]
    refine ⟨by rw [ih.1, show i + 1 + k = i + (k + 1) by omega], ?_⟩
    have := ih.2
    rw [List.take_succ_cons]
    show blkGood ev recs (at_ + (b.length + cntB (bs.take k))) l
    rw [← Nat.add_assoc]; exact this
theorem cnt_take (bs : List (List En)) {k : Nat} {l : List En} (h : bs[k]? = some l) : cntB (bs.take (k + 1)) = cntB (bs.take k) + l.length := by
  rw [List.take_add_one, h, Option.toList_some, cntB_snoc]
theorem cnt_le : ∀ (bs : List (List En)) (k : Nat), cntB (bs.take k) ≤ cntB bs
  | [], k => by simp
  | b :: bs, 0 => by simp [cntB]
  | b :: bs, k + 1 => by
    rw [List.take_succ_cons]
    show b.length + _ ≤ b.length + _
    have := cnt_le bs k; omega

end Go.Proofs.Ytkpncailoekjpaa
