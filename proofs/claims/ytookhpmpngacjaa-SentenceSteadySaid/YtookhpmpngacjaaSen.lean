/- Package sentence: what its texts say. -/
import Derived.Test.YtookhpmpngacjaaParOne
namespace Go.Proofs.Ytookhpmpngacjaa
open Go.RowKit
set_option linter.unusedVariables false
set_option linter.unusedSimpArgs false

def letN (c : Nat) : Bool := decide (32 ≤ c ∧ c ≤ 126 ∧ c ≠ 33 ∧ c ≠ 36 ∧ c ≠ 42 ∧ c ≠ 92 ∧ c ≠ 94 ∧ c ≠ 126)
def signN (c : Nat) : Bool := decide ((65 ≤ c ∧ c ≤ 90) ∨ (48 ≤ c ∧ c ≤ 57))
def fldN (c : Nat) : Bool := letN c && decide (c ≠ 44)
theorem letN_is {c : Nat} : letN c = true ↔ (32 ≤ c ∧ c ≤ 126 ∧ c ≠ 33 ∧ c ≠ 36 ∧ c ≠ 42 ∧ c ≠ 92 ∧ c ≠ 94 ∧ c ≠ 126) := by unfold letN; exact decide_eq_true_iff
theorem signN_is {c : Nat} : signN c = true ↔ ((65 ≤ c ∧ c ≤ 90) ∨ (48 ≤ c ∧ c ≤ 57)) := by unfold signN; exact decide_eq_true_iff
theorem fldN_is {c : Nat} : fldN c = true ↔ (letN c = true ∧ c ≠ 44) := by unfold fldN; simp
theorem sign_let {c : Nat} (h : signN c = true) : letN c = true := by
  rw [signN_is] at h; rw [letN_is]; omega
theorem let_high {c : Nat} (h : 128 ≤ c) : letN c = false := by
  cases e : letN c with
  | false => rfl
  | true => rw [letN_is] at e; omega
theorem sign_high {c : Nat} (h : 128 ≤ c) : signN c = false := by
  cases e : signN c with
  | false => rfl
  | true => rw [signN_is] at e; omega
theorem fld_high {c : Nat} (h : 128 ≤ c) : fldN c = false := by unfold fldN; rw [let_high h]; rfl
theorem all_step {f : Nat → Bool} {l : List Nat} {k c : Nat} (hk : k < l.length) (hc : l.getD k 0 = c) (h : (l.take k).all f = true) (hf : f c = true) : (l.take (k + 1)).all f = true := by
  rw [List.take_add_one, List.getElem?_eq_getElem hk, Option.toList_some, List.all_append, h]
  rw [List.getD_eq_getElem?_getD, List.getElem?_eq_getElem hk] at hc
  have hc2 : l[k] = c := hc
  simp [hc2, hf]
theorem all_no {f : Nat → Bool} {l : List Nat} {k c : Nat} (hk : k < l.length) (hc : l.getD k 0 = c) (hf : f c = false) : l.all f = false := by
  rw [List.getD_eq_getElem?_getD, List.getElem?_eq_getElem hk] at hc
  have hc2 : l[k] = c := hc
  rw [List.all_eq_false]
  exact ⟨l[k], List.getElem_mem _, by rw [hc2, hf]; simp⟩
def signsS (s : ByteArray) (n : Nat) : Bool := decide (s.size = n) && (sb s).all signN
theorem signsS_is {s : ByteArray} {n : Nat} : signsS s n = true ↔ s.size = n ∧ ∀ c ∈ sb s, signN c = true := by
  unfold signsS
  rw [Bool.and_eq_true, decide_eq_true_iff, List.all_eq_true]
def joinF (acc : ByteArray) : List ByteArray → ByteArray
  | [] => acc
  | f :: fs => joinF (acc ++ (⟨#[44]⟩ ++ f)) fs
theorem joinF_snoc : ∀ (fs : List ByteArray) (acc f : ByteArray), joinF acc (fs ++ [f]) = joinF acc fs ++ (⟨#[44]⟩ ++ f)
  | [], _, _ => rfl
  | g :: gs, acc, f => joinF_snoc gs _ f
def sizeF : List ByteArray → Nat
  | [] => 0
  | f :: fs => 1 + f.size + sizeF fs
theorem sizeF_snoc : ∀ (fs : List ByteArray) (f : ByteArray), sizeF (fs ++ [f]) = sizeF fs + (1 + f.size)
  | [], f => by simp [sizeF]
  | g :: gs, f => by
    show 1 + g.size + sizeF (gs ++ [f]) = 1 + g.size + sizeF gs + (1 + f.size)
    rw [sizeF_snoc gs f]; omega
theorem sizeF_take (F : List ByteArray) : ∀ k, sizeF (F.take k) ≤ sizeF F := by
  induction F with
  | nil => intro k; simp
  | cons f fs ih =>
    intro k
    cases k with
    | zero => simp [sizeF]
    | succ k =>
      rw [List.take_succ_cons]
      have := ih k
      show 1 + f.size + _ ≤ 1 + f.size + _
      omega
def okF (F : List ByteArray) : Bool := F.all fun f => (sb f).all fldN
def putN (T K : ByteArray) (F : List ByteArray) : ByteArray × Int :=
  if signsS T 2 = true ∧ signsS K 3 = true then
    if okF F = true then
      if 82 < 11 + sizeF F then (⟨#[]⟩, 7) else (⟨#[36]⟩ ++ sealT (joinF (T ++ K) F) ++ ⟨#[13, 10]⟩, 0)
    else (⟨#[]⟩, 1)
  else (⟨#[]⟩, 1)
theorem putN_sg {T K : ByteArray} {F : List ByteArray} (h : ¬ (signsS T 2 = true ∧ signsS K 3 = true)) : putN T K F = (⟨#[]⟩, 1) := if_neg h
theorem putN_f {T K : ByteArray} {F : List ByteArray} (h : okF F = false) : putN T K F = (⟨#[]⟩, 1) := by
  unfold putN
  rw [if_neg (show ¬ okF F = true by rw [h]; simp)]
  split <;> rfl
theorem putN_long {T K : ByteArray} {F : List ByteArray} (h : signsS T 2 = true ∧ signsS K 3 = true) (h2 : okF F = true) (h3 : 82 < 11 + sizeF F) : putN T K F = (⟨#[]⟩, 7) := by
  unfold putN
  rw [if_pos h, if_pos h2, if_pos h3]
theorem putN_ok {T K : ByteArray} {F : List ByteArray} (h : signsS T 2 = true ∧ signsS K 3 = true) (h2 : okF F = true) (h3 : ¬ 82 < 11 + sizeF F) : putN T K F = (⟨#[36]⟩ ++ sealT (joinF (T ++ K) F) ++ ⟨#[13, 10]⟩, 0) := by
  unfold putN
  rw [if_pos h, if_pos h2, if_neg h3]
theorem putN_e (T K : ByteArray) (F : List ByteArray) : 0 ≤ (putN T K F).2 ∧ (putN T K F).2 ≤ 9 := by
  unfold putN
  split
  · split
    · split <;> simp
    · simp
  · simp
theorem putN_bad {T K : ByteArray} {F : List ByteArray} (h : (putN T K F).2 ≠ 0) : (putN T K F).1 = ⟨#[]⟩ := by
  unfold putN at *
  split
  · split
    · split
      · rfl
      · rename_i h1 h2 h3
        rw [if_pos h1, if_pos h2, if_neg h3] at h; simp at h
    · rfl
  · rfl
theorem joinF_size : ∀ (F : List ByteArray) (acc : ByteArray), (joinF acc F).size = acc.size + sizeF F
  | [], acc => rfl
  | f :: fs, acc => by
    show (joinF (acc ++ (⟨#[44]⟩ ++ f)) fs).size = acc.size + (1 + f.size + sizeF fs)
    rw [joinF_size fs, ByteArray.size_append, ByteArray.size_append]
    have : (⟨#[44]⟩ : ByteArray).size = 1 := rfl
    omega
/-- Where the first byte 13 stands. -/
def lnF (zs : List Nat) : Nat → Nat → Nat × Int
  | 0, _ => (0, 7)
  | f + 1, i => if zs.length ≤ i then (0, 2) else if zs.getD i 0 = 13 then (i, 0) else if zs.getD i 0 = 42 ∨ letN (zs.getD i 0) = true then lnF zs f (i + 1) else (0, 3)
theorem lnF_short {zs : List Nat} {f i : Nat} (h : zs.length ≤ i) : lnF zs (f + 1) i = (0, 2) := if_pos h
theorem lnF_13 {zs : List Nat} {f i c : Nat} (h : i < zs.length) (hc : zs.getD i 0 = c) (h13 : c = 13) : lnF zs (f + 1) i = (i, 0) := by
  show (if zs.length ≤ i then _ else _) = _
  rw [if_neg (by omega), if_pos (by omega)]
theorem lnF_more {zs : List Nat} {f i c : Nat} (h : i < zs.length) (hc : zs.getD i 0 = c) (h13 : c ≠ 13) (h42 : c = 42 ∨ letN c = true) : lnF zs (f + 1) i = lnF zs f (i + 1) := by
  show (if zs.length ≤ i then _ else _) = _
  rw [if_neg (by omega), if_neg (by omega), if_pos (by rw [hc]; exact h42)]
theorem lnF_form {zs : List Nat} {f i c : Nat} (h : i < zs.length) (hc : zs.getD i 0 = c) (h13 : c ≠ 13) (h42 : c ≠ 42) (hl : letN c = false) : lnF zs (f + 1) i = (0, 3) := by
  show (if zs.length ≤ i then _ else _) = _
  rw [if_neg (by omega), if_neg (by omega), if_neg (by rw [hc, hl]; simp [h42])]
theorem lnF_e {zs : List Nat} : ∀ f i, 0 ≤ (lnF zs f i).2 ∧ (lnF zs f i).2 ≤ 9 ∧ (lnF zs f i).1 ≤ i + f ∧ ((lnF zs f i).2 ≠ 0 → (lnF zs f i).1 = 0)
  | 0, i => ⟨by simp [lnF], by simp [lnF], by simp [lnF], by simp [lnF]⟩
  | f + 1, i => by
    have ih := lnF_e (zs := zs) f (i + 1)
    by_cases h1 : zs.length ≤ i
    · rw [lnF_short h1]; exact ⟨by simp, by simp, by simp, by simp⟩
    by_cases h2 : zs.getD i 0 = 13
    · rw [lnF_13 (by omega) rfl h2]; exact ⟨by simp, by simp, by simp, by simp⟩
    by_cases h3 : zs.getD i 0 = 42 ∨ letN (zs.getD i 0) = true
    · rw [lnF_more (by omega) rfl h2 h3]; exact ⟨ih.1, ih.2.1, by have := ih.2.2.1; omega, ih.2.2.2⟩
    · rw [lnF_form (by omega) rfl h2 (fun h => h3 (.inl h)) (by simpa using fun h => h3 (.inr h))]; exact ⟨by simp, by simp, by simp, by simp⟩
theorem lnF_ok {zs : List Nat} : ∀ {f i j : Nat}, lnF zs f i = (j, 0) → i ≤ j ∧ j < i + f ∧ j < zs.length ∧ zs.getD j 0 = 13 ∧ ∀ p, i ≤ p → p < j → (zs.getD p 0 = 42 ∨ letN (zs.getD p 0) = true)
  | 0, i, j, h => by simp [lnF] at h
  | f + 1, i, j, h => by
    by_cases h1 : zs.length ≤ i
    · rw [lnF_short h1] at h; simp at h
    by_cases h2 : zs.getD i 0 = 13
    · rw [lnF_13 (by omega) rfl h2] at h
      obtain rfl : i = j := congrArg Prod.fst h
      exact ⟨Nat.le_refl _, by omega, by omega, h2, fun p h3 h4 => by omega⟩
    by_cases h3 : zs.getD i 0 = 42 ∨ letN (zs.getD i 0) = true
    · rw [lnF_more (by omega) rfl h2 h3] at h
      obtain ⟨q1, q2, q3, q4, q5⟩ := lnF_ok h
      refine ⟨by omega, by omega, q3, q4, fun p h4 h5 => ?_⟩
      by_cases e : p = i
      · subst e; exact h3
      · exact q5 p (by omega) h5
    · rw [lnF_form (by omega) rfl h2 (fun h => h3 (.inl h)) (by simpa using fun h => h3 (.inr h))] at h
      simp at h
theorem lnF_run {zs : List Nat} {j : Nat} (hj : j < zs.length) (h13 : zs.getD j 0 = 13) : ∀ {n f i : Nat}, i + n = j → n < f → (∀ p, i ≤ p → p < j → (zs.getD p 0 = 42 ∨ letN (zs.getD p 0) = true)) → lnF zs f i = (j, 0)
  | 0, 0, i, hi, hf, h => by omega
  | 0, f + 1, i, hi, hf, h => by
    obtain rfl : i = j := by omega
    exact lnF_13 hj rfl h13
  | n + 1, 0, i, hi, hf, h => by omega
  | n + 1, f + 1, i, hi, hf, h => by
    have h1 := h i (Nat.le_refl _) (by omega)
    rw [lnF_more (by omega) rfl (fun e => by rcases h1 with h1 | h1; omega; rw [letN_is] at h1; omega) h1]
    exact lnF_run hj h13 (n := n) (by omega) (by omega) (fun p h2 h3 => h p (by omega) h3)
theorem getD_app {zs ys : List Nat} {i : Nat} (h : i < zs.length) : (zs ++ ys).getD i 0 = zs.getD i 0 := by
  rw [List.getD_eq_getElem?_getD, List.getD_eq_getElem?_getD, List.getElem?_append_left h]
theorem lnF_pre {zs ys : List Nat} : ∀ {f i : Nat}, (lnF zs f i).2 ≠ 2 → lnF (zs ++ ys) f i = lnF zs f i
  | 0, i, _ => rfl
  | f + 1, i, h => by
    by_cases h1 : zs.length ≤ i
    · rw [lnF_short h1] at h; simp at h
    have hl : i < (zs ++ ys).length := by rw [List.length_append]; omega
    have hg := getD_app (zs := zs) (ys := ys) (i := i) (by omega)
    by_cases h2 : zs.getD i 0 = 13
    · rw [lnF_13 hl hg h2, lnF_13 (by omega) rfl h2]
    by_cases h3 : zs.getD i 0 = 42 ∨ letN (zs.getD i 0) = true
    · rw [lnF_more (by omega) rfl h2 h3] at h ⊢
      rw [lnF_more hl hg h2 h3]
      exact lnF_pre h
    · rw [lnF_form hl hg h2 (fun h => h3 (.inl h)) (by simpa using fun h => h3 (.inr h)), lnF_form (by omega) rfl h2 (fun h => h3 (.inl h)) (by simpa using fun h => h3 (.inr h))]
def endE (l : List Nat) : Int := if l.length < 2 then 2 else if l.take 2 = [13, 10] then 0 else 3
theorem endE_bd (l : List Nat) : 0 ≤ endE l ∧ endE l ≤ 9 := by unfold endE; split <;> (try split) <;> simp
def lineN (zs : List Nat) : Nat × Int := if zs.length = 0 then (0, 2) else if zs.getD 0 0 = 36 then (if (lnF zs 80 1).2 = 0 then ((lnF zs 80 1).1, endE (zs.drop (lnF zs 80 1).1)) else (0, (lnF zs 80 1).2)) else (0, 3)
theorem lineN_e (zs : List Nat) : 0 ≤ (lineN zs).2 ∧ (lineN zs).2 ≤ 9 ∧ (lineN zs).1 ≤ 81 := by
  have h := lnF_e (zs := zs) 80 1
  have h2 := endE_bd (zs.drop (lnF zs 80 1).1)
  unfold lineN
  split
  · simp
  · split
    · split
      · exact ⟨h2.1, h2.2, by have := h.2.2.1; dsimp only; omega⟩
      · exact ⟨h.1, h.2.1, by simp⟩
    · simp
theorem lineN_ok {zs : List Nat} {i : Nat} (h : lineN zs = (i, 0)) : zs.getD 0 0 = 36 ∧ lnF zs 80 1 = (i, 0) ∧ i + 2 ≤ zs.length ∧ zs.getD (i + 1) 0 = 10 := by
  unfold lineN at h
  split at h
  · simp at h
  · split at h
    · split at h
      · rename_i h1 h2 h3
        obtain ⟨j, e⟩ : ∃ r, lnF zs 80 1 = r := ⟨_, rfl⟩
        rw [e] at h h3
        simp only [Prod.mk.injEq] at h
        obtain ⟨rfl, h5⟩ := h
        unfold endE at h5
        split at h5
        · simp at h5
        · split at h5
          · rename_i q1 q2
            rw [List.length_drop] at q1
            refine ⟨h2, by rw [e, ← h3], by omega, ?_⟩
            have q3 := congrArg (fun l => l.getD 1 0) q2
            try dsimp only at q3
            rw [List.getD_eq_getElem?_getD, List.getElem?_take, if_pos (by omega), List.getElem?_drop, ← List.getD_eq_getElem?_getD] at q3
            exact q3
          · simp at h5
      · rename_i h1 h2 h3
        simp only [Prod.mk.injEq] at h
        exact absurd h.2 h3
    · simp at h
theorem lineN_run {zs : List Nat} {i : Nat} (h0 : zs.getD 0 0 = 36) (hl : lnF zs 80 1 = (i, 0)) (h2 : i + 2 ≤ zs.length) (h13 : zs.getD i 0 = 13) (h10 : zs.getD (i + 1) 0 = 10) : lineN zs = (i, 0) := by
  unfold lineN
  rw [if_neg (by omega), if_pos h0, hl]
  dsimp only
  rw [if_pos rfl]
  have e : (zs.drop i).take 2 = [13, 10] := by
    rw [List.drop_eq_getElem_cons (by omega), List.drop_eq_getElem_cons (by omega)]
    rw [List.getD_eq_getElem?_getD, List.getElem?_eq_getElem (by omega)] at h13 h10
    have a : zs[i] = 13 := h13
    have b : zs[i + 1] = 10 := h10
    rw [a, b]; rfl
  unfold endE
  rw [if_neg (by rw [List.length_drop]; omega), if_pos e]
theorem endE_pre {l ys : List Nat} (h : endE l ≠ 2) : endE (l ++ ys) = endE l := by
  unfold endE at *
  by_cases h1 : l.length < 2
  · rw [if_pos h1] at h; simp at h
  · rw [if_neg h1, if_neg (by rw [List.length_append]; omega), List.take_append_of_le_length (by omega)]
theorem lineN_pre {zs ys : List Nat} (h : (lineN zs).2 ≠ 2) : lineN (zs ++ ys) = lineN zs := by
  unfold lineN at *
  by_cases h1 : zs.length = 0
  · rw [if_pos h1] at h; simp at h
  rw [if_neg h1] at h ⊢
  rw [if_neg (by rw [List.length_append]; omega), getD_app (by omega)]
  by_cases h2 : zs.getD 0 0 = 36
  · rw [if_pos h2] at h ⊢
    rw [if_pos h2]
    by_cases h3 : (lnF zs 80 1).2 = 0
    · rw [if_pos h3] at h
      have e := lnF_pre (zs := zs) (ys := ys) (f := 80) (i := 1) (by rw [h3]; simp)
      rw [e, if_pos h3, if_pos h3]
      have hok := lnF_ok (zs := zs) (f := 80) (i := 1) (j := (lnF zs 80 1).1) (by rw [← h3])
      rw [List.drop_append_of_le_length (by omega), endE_pre h]
    · rw [if_neg h3] at h
      have e := lnF_pre (zs := zs) (ys := ys) (f := 80) (i := 1) h
      rw [e, if_neg h3, if_neg h3]
  · rw [if_neg h2, if_neg h2]
/-- What is cut at commas, up to the byte i: where the last one begins, and those ahead of it. -/
def cutS (s : ByteArray) : Nat → Nat × List ByteArray
  | 0 => (0, [])
  | i + 1 => if (sb s).getD i 0 = 44 then (i + 1, (cutS s i).2 ++ [s.extract (cutS s i).1 i]) else cutS s i
def fieldsN (s : ByteArray) : List ByteArray := (cutS s s.size).2 ++ [s.extract (cutS s s.size).1 s.size]
theorem cutS_yes {s : ByteArray} {i c : Nat} (hc : (sb s).getD i 0 = c) (h : c = 44) : cutS s (i + 1) = (i + 1, (cutS s i).2 ++ [s.extract (cutS s i).1 i]) := if_pos (by omega)
theorem cutS_no {s : ByteArray} {i c : Nat} (hc : (sb s).getD i 0 = c) (h : c ≠ 44) : cutS s (i + 1) = cutS s i := if_neg (by omega)
theorem cutS_le (s : ByteArray) : ∀ i, (cutS s i).1 ≤ i ∧ (cutS s i).2.length ≤ i
  | 0 => ⟨Nat.le_refl _, Nat.le_refl _⟩
  | i + 1 => by
    have ih := cutS_le s i
    by_cases h : (sb s).getD i 0 = 44
    · rw [cutS_yes rfl h]; exact ⟨Nat.le_refl _, by rw [List.length_append]; simp; omega⟩
    · rw [cutS_no rfl h]; omega
def stpC (r : List (List Nat) × List Nat) (c : Nat) : List (List Nat) × List Nat := if c = 44 then (r.1 ++ [r.2], []) else (r.1, r.2 ++ [c])
def splL (l : List Nat) : List (List Nat) := (l.foldl stpC ([], [])).1 ++ [(l.foldl stpC ([], [])).2]
def jn : List (List Nat) → List Nat
  | [] => []
  | f :: fs => 44 :: (f ++ jn fs)
theorem jn_app : ∀ a b : List (List Nat), jn (a ++ b) = jn a ++ jn b
  | [], b => rfl
  | f :: fs, b => by
    show 44 :: (f ++ jn (fs ++ b)) = 44 :: (f ++ jn fs) ++ jn b
    rw [jn_app fs b]; simp
theorem stp_jn : ∀ (l : List Nat) (d : List (List Nat)) (cur : List Nat), jn ((l.foldl stpC (d, cur)).1 ++ [(l.foldl stpC (d, cur)).2]) = jn (d ++ [cur]) ++ l
  | [], d, cur => by simp
  | c :: l, d, cur => by
    rw [List.foldl_cons]
    by_cases h : c = 44
    · rw [show stpC (d, cur) c = (d ++ [cur], []) from if_pos h, stp_jn l, jn_app (d ++ [cur]) [[]], h]
      simp [jn]
    · rw [show stpC (d, cur) c = (d, cur ++ [c]) from if_neg h, stp_jn l, jn_app, jn_app]
      simp [jn]
theorem jn_spl (l : List Nat) : jn (splL l) = 44 :: l := by
  unfold splL
  rw [stp_jn l [] []]; rfl
theorem stp_run : ∀ (f : List Nat) (d : List (List Nat)) (cur : List Nat), (∀ c ∈ f, c ≠ 44) → f.foldl stpC (d, cur) = (d, cur ++ f)
  | [], d, cur, _ => by simp
  | c :: f, d, cur, h => by
    rw [List.foldl_cons, show stpC (d, cur) c = (d, cur ++ [c]) from if_neg (h c (by simp)), stp_run f d _ (fun x hx => h x (List.mem_cons_of_mem _ hx))]
    simp
theorem stp_fs : ∀ (fs : List (List Nat)) (d : List (List Nat)) (cur : List Nat), (∀ f ∈ fs, ∀ c ∈ f, c ≠ 44) → ((jn fs).foldl stpC (d, cur)).1 ++ [((jn fs).foldl stpC (d, cur)).2] = d ++ [cur] ++ fs
  | [], d, cur, _ => by simp [jn]
  | f :: fs, d, cur, h => by
    show ((44 :: (f ++ jn fs)).foldl stpC (d, cur)).1 ++ [((44 :: (f ++ jn fs)).foldl stpC (d, cur)).2] = _
    rw [List.foldl_cons, show stpC (d, cur) 44 = (d ++ [cur], []) from rfl, List.foldl_append, stp_run f _ _ (h f (by simp)), stp_fs fs _ _ (fun g hg => h g (List.mem_cons_of_mem _ hg))]
    simp
theorem spl_fs {f : List Nat} {fs : List (List Nat)} (h : ∀ g ∈ f :: fs, ∀ c ∈ g, c ≠ 44) : splL (f ++ jn fs) = f :: fs := by
  unfold splL
  rw [List.foldl_append, stp_run f [] [] (h f (by simp)), stp_fs fs _ _ (fun g hg => h g (List.mem_cons_of_mem _ hg))]
  simp
theorem cutS_fold (s : ByteArray) : ∀ i, i ≤ s.size → ((sb s).take i).foldl stpC ([], []) = ((cutS s i).2.map sb, ((sb s).take i).drop (cutS s i).1)
  | 0, _ => by simp [cutS]
  | i + 1, h => by
    have ih := cutS_fold s i (by omega)
    have hl : i < (sb s).length := by rw [sb_len]; omega
    have hle := (cutS_le s i).1
    have e : (sb s).take (i + 1) = (sb s).take i ++ [(sb s).getD i 0] := by
      rw [List.take_add_one, List.getElem?_eq_getElem hl, Option.toList_some, List.getD_eq_getElem?_getD, List.getElem?_eq_getElem hl]; rfl
    have hlen : ((sb s).take i).length = i := by rw [List.length_take]; omega
    rw [e, List.foldl_append, ih]
    by_cases h44 : (sb s).getD i 0 = 44
    · rw [cutS_yes rfl h44, h44]
      dsimp only
      rw [show [44].foldl stpC ((cutS s i).2.map sb, ((sb s).take i).drop (cutS s i).1) = ((cutS s i).2.map sb ++ [((sb s).take i).drop (cutS s i).1], []) from rfl, List.map_append, List.map_singleton, sb_extract]
      have e2 : ((sb s).take i ++ [44]).drop (i + 1) = [] := List.drop_of_length_le (by rw [List.length_append, hlen]; simp)
      rw [e2, List.drop_take]
    · rw [cutS_no rfl h44]
      generalize (sb s).getD i 0 = c at *
      rw [List.foldl_cons, List.foldl_nil]
      show (if c = 44 then _ else _) = _
      rw [if_neg h44]
      dsimp only
      rw [List.drop_append_of_le_length (by rw [hlen]; exact hle)]
theorem fieldsN_sb (s : ByteArray) : (fieldsN s).map sb = splL (sb s) := by
  have h := cutS_fold s s.size (Nat.le_refl _)
  have e : (sb s).take s.size = sb s := List.take_of_length_le (by rw [sb_len]; exact Nat.le_refl _)
  rw [e] at h
  unfold fieldsN splL
  rw [h, List.map_append, List.map_singleton, sb_extract]
  dsimp only
  rw [List.take_of_length_le (by rw [List.length_drop, sb_len]; exact Nat.le_refl _)]
theorem map_sb_inj : ∀ {a b : List ByteArray}, a.map sb = b.map sb → a = b
  | [], [], _ => rfl
  | [], _ :: _, h => by simp at h
  | _ :: _, [], h => by simp at h
  | x :: a, y :: b, h => by
    simp only [List.map_cons, List.cons.injEq] at h
    rw [sb_inj h.1, map_sb_inj h.2]
theorem sb_joinF : ∀ (F : List ByteArray) (acc : ByteArray), sb (joinF acc F) = sb acc ++ jn (F.map sb)
  | [], acc => by simp [joinF, jn]
  | f :: fs, acc => by
    show sb (joinF (acc ++ (⟨#[44]⟩ ++ f)) fs) = _
    rw [sb_joinF fs, sb_append, sb_append]
    show sb acc ++ ([44] ++ sb f) ++ jn (fs.map sb) = sb acc ++ 44 :: (sb f ++ jn (fs.map sb))
    simp
/-- The same, as the papers do it: what stands ahead of the first comma is none. -/
def cutR (s : ByteArray) : Nat → Nat × List ByteArray
  | 0 => (0, [])
  | i + 1 => if (sb s).getD i 0 = 44 then (i + 1, if 0 < (cutR s i).1 then (cutR s i).2 ++ [s.extract (cutR s i).1 i] else (cutR s i).2) else cutR s i
def fieldsR (s : ByteArray) : List ByteArray := if 0 < (cutR s s.size).1 then (cutR s s.size).2 ++ [s.extract (cutR s s.size).1 s.size] else (cutR s s.size).2
theorem cutR_le (s : ByteArray) : ∀ i, (cutR s i).1 ≤ i ∧ (cutR s i).2.length ≤ i
  | 0 => ⟨Nat.le_refl _, Nat.le_refl _⟩
  | i + 1 => by
    have ih := cutR_le s i
    show (if (sb s).getD i 0 = 44 then _ else _ : Nat × List ByteArray).1 ≤ _ ∧ (if (sb s).getD i 0 = 44 then _ else _ : Nat × List ByteArray).2.length ≤ _
    by_cases h : (sb s).getD i 0 = 44
    · rw [if_pos h]
      refine ⟨Nat.le_refl _, ?_⟩
      dsimp only
      split
      · rw [List.length_append]; simp; omega
      · omega
    · rw [if_neg h]; omega
theorem cutR_yes {s : ByteArray} {i c : Nat} (hc : (sb s).getD i 0 = c) (h : c = 44) : cutR s (i + 1) = (i + 1, if 0 < (cutR s i).1 then (cutR s i).2 ++ [s.extract (cutR s i).1 i] else (cutR s i).2) := if_pos (by omega)
theorem cutR_no {s : ByteArray} {i c : Nat} (hc : (sb s).getD i 0 = c) (h : c ≠ 44) : cutR s (i + 1) = cutR s i := if_neg (by omega)
theorem cutR_head {s : ByteArray} : ∀ i, (∀ p, p < i → (sb s).getD p 0 ≠ 44) → cutR s i = (0, [])
  | 0, _ => rfl
  | i + 1, h => by
    rw [cutR_no rfl (h i (by omega))]
    exact cutR_head i (fun p hp => h p (by omega))
theorem ext_ext {s : ByteArray} {a b : Nat} (hb : b ≤ s.size - 6) : (s.extract 6 s.size).extract a b = s.extract (6 + a) (6 + b) := by
  refine sb_inj ?_
  rw [sb_extract, sb_extract, sb_extract, List.drop_take, List.take_take, List.drop_drop]
  congr 1; omega
theorem cutR_tail {s : ByteArray} (h5 : ∀ p, p < 5 → (sb s).getD p 0 ≠ 44) (h44 : (sb s).getD 5 0 = 44) : ∀ j, 6 + j ≤ s.size → cutR s (6 + j) = (6 + (cutS (s.extract 6 s.size) j).1, (cutS (s.extract 6 s.size) j).2)
  | 0, h => by
    show cutR s (5 + 1) = _
    rw [cutR_yes rfl h44, cutR_head 5 h5]; rfl
  | j + 1, h => by
    have ih := cutR_tail h5 h44 j (by omega)
    have hle := cutS_le (s.extract 6 s.size) j
    have eg : (sb (s.extract 6 s.size)).getD j 0 = (sb s).getD (6 + j) 0 := by
      rw [sb_extract, List.getD_eq_getElem?_getD, List.getElem?_take, if_pos (by omega), List.getElem?_drop, ← List.getD_eq_getElem?_getD]
    by_cases hc : (sb s).getD (6 + j) 0 = 44
    · rw [show 6 + (j + 1) = (6 + j) + 1 from rfl, cutR_yes rfl hc, cutS_yes eg hc, ih]
      dsimp only
      rw [if_pos (by omega), ext_ext (by omega)]
      rfl
    · rw [show 6 + (j + 1) = (6 + j) + 1 from rfl, cutR_no rfl hc, cutS_no eg hc, ih]
theorem fieldsR_is {s : ByteArray} (h5 : ∀ p, p < 5 → (sb s).getD p 0 ≠ 44) (hs : 5 ≤ s.size) (h44 : 5 < s.size → (sb s).getD 5 0 = 44) : fieldsR s = if 5 < s.size then fieldsN (s.extract 6 s.size) else [] := by
  by_cases h : 5 < s.size
  · rw [if_pos h]
    have e := cutR_tail h5 (h44 h) (s.size - 6) (by omega)
    rw [show 6 + (s.size - 6) = s.size by omega] at e
    have ez : (s.extract 6 s.size).size = s.size - 6 := by rw [ByteArray.size_extract]; omega
    unfold fieldsR fieldsN
    rw [e]
    dsimp only
    rw [if_pos (by omega), ez, ext_ext (Nat.le_refl _), show 6 + (s.size - 6) = s.size by omega]
  · rw [if_neg h]
    have e := cutR_head s.size (fun p hp => h5 p (by omega))
    unfold fieldsR
    rw [e]; rfl
def formP (s : ByteArray) : Prop := 8 ≤ s.size ∧ (sb s).getD (s.size - 3) 0 = 42 ∧ unhOk (s.extract (s.size - 2) s.size) = true ∧ signsS (s.extract 0 5) 5 = true ∧ (sb (s.extract 5 (s.size - 3))).all letN = true ∧ (s.size = 8 ∨ (sb s).getD 5 0 = 44)
instance (s : ByteArray) : Decidable (formP s) := by unfold formP; infer_instance
def Snt := ByteArray × ByteArray × List ByteArray
def noS : Snt := (⟨#[]⟩, ⟨#[]⟩, [])
def ofS (u : ByteArray) : Snt := (u.extract 0 2, u.extract 2 5, if 5 < u.size then fieldsN (u.extract 6 u.size) else [])
def takeN (t : ByteArray) : Snt × Nat × Int :=
  if (lineN (sb t)).2 = 0 then
    if formP (t.extract 1 (lineN (sb t)).1) then
      if opnOk (t.extract 1 (lineN (sb t)).1) = true then (ofS (opnV (t.extract 1 (lineN (sb t)).1)), (lineN (sb t)).1 + 2, 0) else (noS, 0, 4)
    else (noS, 0, 3)
  else (noS, 0, (lineN (sb t)).2)
theorem takeN_line {t : ByteArray} {r : Nat × Int} (hr : lineN (sb t) = r) (h : r.2 ≠ 0) : takeN t = (noS, 0, r.2) := by
  unfold takeN
  rw [hr, if_neg h]
theorem takeN_form {t : ByteArray} {i : Nat} (hr : lineN (sb t) = (i, 0)) (h : ¬ formP (t.extract 1 i)) : takeN t = (noS, 0, 3) := by
  unfold takeN
  rw [hr, if_pos rfl, if_neg h]
theorem takeN_sum {t : ByteArray} {i : Nat} (hr : lineN (sb t) = (i, 0)) (h : formP (t.extract 1 i)) (h2 : opnOk (t.extract 1 i) = false) : takeN t = (noS, 0, 4) := by
  unfold takeN
  rw [hr, if_pos rfl, if_pos h, if_neg (by rw [h2]; simp)]
theorem takeN_ok {t : ByteArray} {i : Nat} (hr : lineN (sb t) = (i, 0)) (h : formP (t.extract 1 i)) (h2 : opnOk (t.extract 1 i) = true) : takeN t = (ofS (opnV (t.extract 1 i)), i + 2, 0) := by
  unfold takeN
  rw [hr, if_pos rfl, if_pos h, if_pos h2]
theorem takeN_e (t : ByteArray) : 0 ≤ (takeN t).2.2 ∧ (takeN t).2.2 ≤ 9 ∧ (takeN t).2.1 ≤ 83 := by
  have h := lineN_e (sb t)
  unfold takeN
  split
  · split
    · split
      · refine ⟨by simp, by simp, ?_⟩
        dsimp only; omega
      · exact ⟨by simp, by simp, by simp⟩
    · exact ⟨by simp, by simp, by simp⟩
  · exact ⟨h.1, h.2.1, by simp⟩
theorem takeN_bad {t : ByteArray} (h : (takeN t).2.2 ≠ 0) : (takeN t).1 = noS ∧ (takeN t).2.1 = 0 := by
  unfold takeN at *
  split
  · split
    · split
      · rename_i h1 h2 h3
        rw [if_pos h1, if_pos h2, if_pos h3] at h; simp at h
      · exact ⟨rfl, rfl⟩
    · exact ⟨rfl, rfl⟩
  · exact ⟨rfl, rfl⟩

end Go.Proofs.Ytookhpmpngacjaa
