/- Package flog: what a log is. -/
import Derived.Test.YtkpncailoekjpaaBlk11
import Derived.Test.YtkpncailoekjpaaEls
import Derived.Deep.DeepCutAuto
namespace Go.Proofs.Ytkpncailoekjpaa
open Go.ChangeShapes Go.WideShapes Go.ChangeAt Go.RowKit
set_option linter.unusedVariables false
set_option linter.unusedSimpArgs false

theorem putB_e (no : Int) (l : List En) : 0 ≤ (putB no l).2 ∧ (putB no l).2 ≤ 9 := by
  unfold putB
  split
  · split <;> simp
  · simp
theorem putB_no {no : Int} {l : List En} (h : (putB no l).2 ≠ 0) : (putB no l).1 = [] := by
  unfold putB at *
  split
  · rename_i c
    rw [if_pos c] at h
    split
    · rfl
    · rename_i c2
      rw [if_neg c2] at h; exact absurd rfl h
  · rfl
theorem putB_wf {no : Int} {l : List En} (hl : ∀ x ∈ l, EnOk x) : ∀ y ∈ (putB no l).1, 0 ≤ y ∧ y ≤ 255 := by
  intro y hy
  unfold putB at hy
  split at hy
  · split at hy
    · cases hy
    · unfold blockB at hy
      refine crcSeal_bytes _ (bytes_bd (fill_wf ?_)) y hy
      intro z hz
      rcases List.mem_append.1 hz with hz | hz
      · exact hdr_wf _ _ z hz
      · exact entS_wf l _ stK0.2.2 hl z hz
  · cases hy
theorem putB_len {no : Int} {l : List En} : (putB no l).1.length ≤ 256 := by
  unfold putB
  split
  · split
    · simp
    · rename_i c
      unfold blockB
      rw [crcSeal_len, fill_len (by rw [List.length_append, hdr_len]; omega)]
      exact Nat.le_refl _
  · simp
/-- A log: the entries of the block that is not finished, how many records, how many blocks. -/
abbrev FSt := List En × Nat × Nat
def flushS (s : FSt) : List Int × FSt := if s.1.isEmpty then ([], s) else ((putB (s.2.2 : Int) s.1).1, ([], s.2.1, s.2.2 + 1))
def keyS (ev : Nat) (s : FSt) : Bool := s.1.isEmpty || decide (s.2.1 % ev = 0)
def addS (ev : Nat) (s : FSt) (r : Int × List Int) : List Int × FSt :=
  if 248 < (entS (0, zer12) (s.1 ++ [(keyS ev s, r)])).length then ((flushS s).1, ([(true, r)], s.2.1 + 1, (flushS s).2.2.2)) else ([], (s.1 ++ [(keyS ev s, r)], s.2.1 + 1, s.2.2))
def FOk (s : FSt) : Prop := (s.1 = [] ∨ keyed s.1 = true) ∧ (entS (0, zer12) s.1).length ≤ 248 ∧ ∀ x ∈ s.1, EnOk x
theorem layS_ge {st : Int × List Int} {x : En} (h1 : ∀ y ∈ st.2, -2147483648 ≤ y ∧ y ≤ 2147483647) (hx : EnOk x) : 3 ≤ (layS st x).length := by
  unfold layS
  split
  · rw [List.length_cons, keyV_len _ _ hx.2.1]; omega
  · have := (deltaV_len (t := st.1) (u := x.2.1) (get_bd h1) (get_bd hx.2.2)).1
    rw [List.length_cons]; omega
theorem entS_ge : ∀ (l : List En) (st : Int × List Int), (∀ y ∈ st.2, -2147483648 ≤ y ∧ y ≤ 2147483647) → (∀ x ∈ l, EnOk x) → 3 * l.length ≤ (entS st l).length
  | [], _, _, _ => by simp
  | x :: l, st, h1, hx => by
    have h2 := layS_ge h1 (hx x (by simp))
    have h3 := entS_ge l x.2 (hx x (by simp)).2.2 (fun y hy => hx y (by simp [hy]))
    rw [entS, List.length_append, List.length_cons]; omega
theorem fok_few {s : FSt} (h : FOk s) : s.1.length ≤ 82 := by
  have := entS_ge s.1 (0, zer12) stK0.2.2 h.2.2
  have := h.2.1
  omega
theorem ent1 {r : Int × List Int} (h : r.2.length = 12) : (entS (0, zer12) [(true, r)]).length = 53 := by
  show (75 :: keyV r.1 r.2 ++ []).length = 53
  rw [List.append_nil, List.length_cons, keyV_len _ _ h]
theorem fok0 : FOk ([], 0, 0) := ⟨.inl rfl, by simp [entS], fun x hx => by cases hx⟩
theorem flush_ok {s : FSt} (h : FOk s) : FOk (flushS s).2 := by
  unfold flushS
  split
  · exact h
  · exact ⟨.inl rfl, by simp [entS], fun x hx => by cases hx⟩
theorem keyed_snoc {l : List En} {x : En} (h : l = [] → x.1 = true) (hl : l = [] ∨ keyed l = true) : keyed (l ++ [x]) = true := by
  cases l with
  | nil => exact h rfl
  | cons y l => rcases hl with h | h; cases h; exact h
theorem keyS_nil (ev : Nat) {s : FSt} (h : s.1 = []) : keyS ev s = true := by unfold keyS; rw [h]; rfl
theorem add_ok {ev : Nat} {s : FSt} {r : Int × List Int} (h : FOk s) (hr : StK r) : FOk (addS ev s r).2 := by
  have hx : ∀ b, EnOk (b, r) := fun b => ⟨hr.1, hr.2.1, hr.2.2⟩
  unfold addS
  split
  · refine ⟨.inr rfl, by rw [show (([(true, r)], s.2.1 + 1, (flushS s).2.2.2) : FSt).1 = [(true, r)] from rfl, ent1 hr.2.1]; omega, fun x hx2 => ?_⟩
    obtain rfl := List.mem_singleton.1 hx2
    exact hx true
  · rename_i c
    refine ⟨.inr (keyed_snoc (fun e => keyS_nil ev e) h.1), by dsimp only; omega, fun x hx2 => ?_⟩
    rcases List.mem_append.1 hx2 with hx2 | hx2
    · exact h.2.2 x hx2
    · obtain rfl := List.mem_singleton.1 hx2
      exact hx _
theorem put_told {no : Nat} {l : List En} (hl : ∀ x ∈ l, EnOk x) (hk : keyed l = true) (h2 : (entS (0, zer12) l).length ≤ 248) : putB (no : Int) l = (blockB (no : Int) l, 0) := by
  unfold putB
  rw [hk, if_pos rfl, if_neg (by omega)]
theorem flush_some {s : FSt} (h : FOk s) (hn : s.1 ≠ []) : putB (s.2.2 : Int) s.1 = ((flushS s).1, 0) ∧ flushS s = ((putB (s.2.2 : Int) s.1).1, ([], s.2.1, s.2.2 + 1)) := by
  have hk := h.1.resolve_left hn
  have e := put_told (no := s.2.2) h.2.2 hk h.2.1
  have he : s.1.isEmpty = false := by cases hs : s.1 with
    | nil => exact absurd hs hn
    | cons a b => rfl
  have e2 : flushS s = ((putB (s.2.2 : Int) s.1).1, ([], s.2.1, s.2.2 + 1)) := by unfold flushS; rw [he]; rfl
  refine ⟨?_, e2⟩
  rw [e2, e]
theorem flush_none {s : FSt} (hn : s.1 = []) : flushS s = ([], s) := by unfold flushS; rw [hn]; rfl
theorem over_some {ev : Nat} {s : FSt} {r : Int × List Int} (hr : StK r) (h : 248 < (entS (0, zer12) (s.1 ++ [(keyS ev s, r)])).length) : s.1 ≠ [] := by
  intro e
  have hk := keyS_nil ev e
  rw [e, hk, List.nil_append, ent1 hr.2.1] at h
  omega
theorem told_wf {s : FSt} (h : FOk s) : (∀ y ∈ (flushS s).1, (Lit.int .u8 y).wf = true) ∧ (flushS s).1.length ≤ 256 := by
  unfold flushS
  split
  · exact ⟨fun y hy => (by cases hy), by simp⟩
  · exact ⟨bytes_wf (putB_wf h.2.2), putB_len⟩
theorem add_wf {ev : Nat} {s : FSt} {r : Int × List Int} (h : FOk s) : (∀ y ∈ (addS ev s r).1, (Lit.int .u8 y).wf = true) ∧ (addS ev s r).1.length ≤ 256 := by
  unfold addS
  split
  · exact told_wf h
  · exact ⟨fun y hy => (by cases hy), by simp⟩
/-- All records added, one behind the other: what was told, and the log. -/
def addsS (ev : Nat) : FSt → List (Int × List Int) → List Int × FSt
  | s, [] => ([], s)
  | s, r :: l => ((addS ev s r).1 ++ (addsS ev (addS ev s r).2 l).1, (addsS ev (addS ev s r).2 l).2)
theorem addsS_snoc (ev : Nat) : ∀ (l : List (Int × List Int)) (s : FSt) (r : Int × List Int), addsS ev s (l ++ [r]) = ((addsS ev s l).1 ++ (addS ev (addsS ev s l).2 r).1, (addS ev (addsS ev s l).2 r).2)
  | [], s, r => by simp [addsS]
  | x :: l, s, r => by
    show ((addS ev s x).1 ++ (addsS ev (addS ev s x).2 (l ++ [r])).1, (addsS ev (addS ev s x).2 (l ++ [r])).2) = _
    rw [addsS_snoc ev l]
    simp [addsS]
theorem adds_ok {ev : Nat} : ∀ {l : List (Int × List Int)} {s : FSt}, FOk s → (∀ r ∈ l, StK r) → FOk (addsS ev s l).2
  | [], _, h, _ => h
  | r :: l, s, h, hr => show FOk (addsS ev (addS ev s r).2 l).2 from adds_ok (add_ok h (hr r (by simp))) (fun x hx => hr x (by simp [hx]))
theorem add_cnt (ev : Nat) (s : FSt) (r : Int × List Int) : (addS ev s r).2.2.1 = s.2.1 + 1 ∧ (addS ev s r).2.2.2 ≤ s.2.2 + 1 := by
  unfold addS flushS
  split
  · split
    · exact ⟨rfl, Nat.le_succ _⟩
    · exact ⟨rfl, Nat.le_refl _⟩
  · exact ⟨rfl, Nat.le_succ _⟩
theorem flush_cnt (s : FSt) : (flushS s).2.2.1 = s.2.1 ∧ (flushS s).2.2.2 ≤ s.2.2 + 1 := by
  unfold flushS
  split
  · exact ⟨rfl, Nat.le_succ _⟩
  · exact ⟨rfl, Nat.le_refl _⟩
/-- All blocks of some records. -/
def writeS (ev : Nat) (l : List (Int × List Int)) : List Int := (addsS ev ([], 0, 0) l).1 ++ (flushS (addsS ev ([], 0, 0) l).2).1
theorem recP {T : Int} {v : List Int} : StK (T, v) → EnOk (true, T, v) := fun h => ⟨h.1, h.2.1, h.2.2⟩

end Go.Proofs.Ytkpncailoekjpaa
