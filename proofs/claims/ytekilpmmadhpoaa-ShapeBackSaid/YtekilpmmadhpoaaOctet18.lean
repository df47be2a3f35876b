/- Stage 4: what is written is read: the bytes of the calls. -/
import Derived.Test.YtekilpmmadhpoaaOctet17
namespace Go.Proofs.Ytekilpmmadhpoaa
open Go.ChangeShapes Go.WideShapes Go.ChangeAt Go.RowKit Go.Shelf
set_option linter.unusedVariables false

/-- The bytes that a call writes, and whether it may. -/
def pc (o : OpV) : List Int := if o.k = 0 then bytesL o.u o.n.toNat else if o.k = 1 then bytesL (wrapU o.i) o.n.toNat else o.z
def okp (o : OpV) : Bool := if o.k = 0 then fitU o.n o.u else if o.k = 1 then fitI o.n o.i else true
def catP (f : Nat → OpV) : Nat → List Int
  | 0 => []
  | k + 1 => catP f k ++ pc (f k)
def okAll (f : Nat → OpV) : Nat → Bool
  | 0 => true
  | k + 1 => okAll f k && okp (f k)
def sufP (f : Nat → OpV) (k : Nat) : Nat → List Int
  | 0 => []
  | m + 1 => pc (f k) ++ sufP f (k + 1) m
/-- All that a writer has behind k calls. -/
def wst (f : Nat → OpV) (k : Nat) : List Int := if okAll f k then catP f k else []
theorem cat_suf (f : Nat → OpV) : ∀ m k, catP f k ++ sufP f k m = catP f (k + m)
  | 0, k => by simp [sufP]
  | m + 1, k => by
    have h := cat_suf f m (k + 1)
    unfold sufP
    rw [← List.append_assoc]
    show catP f (k + 1) ++ sufP f (k + 1) m = _
    rw [h]; congr 1; omega
theorem bytesL_len (u : Int) (n : Nat) : (bytesL u n).length = n := by simp [bytesL, lowL]
theorem bytesL_get (u : Int) (n i : Nat) (h : i < n) : (bytesL u n).getD i 0 = u / 2 ^ (8 * i) % 256 := by
  simp [bytesL, lowL, byteOf, byteAt, List.getD, h]
theorem bytesL_bd (u : Int) (n : Nat) : ∀ x ∈ bytesL u n, 0 ≤ x ∧ x ≤ 255 := by
  intro x hx
  obtain ⟨y, _, rfl⟩ := List.mem_map.1 hx
  exact y.2
theorem ok_len {o : OpV} (h : okp o = true) (hl : o.l ≤ 100) (hz : o.z.length = o.l) : (pc o).length ≤ 100 := by
  unfold okp at h
  unfold pc
  split
  · rename_i c
    rw [if_pos c] at h
    have := (of_decide_eq_true h).2.1
    rw [bytesL_len]; omega
  · rename_i c
    rw [if_neg c] at h
    split
    · rename_i c1
      rw [if_pos c1] at h
      have := (of_decide_eq_true h).2.1
      rw [bytesL_len]; omega
    · omega
theorem pc_wf {o : OpV} (hz : ∀ x ∈ o.z, (Lit.int .u8 x).wf = true) : ∀ x ∈ pc o, (Lit.int .u8 x).wf = true := by
  unfold pc
  split
  · exact bytes_wf (bytesL_bd _ _)
  · split
    · exact bytes_wf (bytesL_bd _ _)
    · exact hz
theorem cat_len (f : Nat → OpV) : ∀ k, okAll f k = true → (∀ i, i < k → (f i).l ≤ 100 ∧ (f i).z.length = (f i).l) → (catP f k).length ≤ 100 * k
  | 0, _, _ => by simp [catP]
  | k + 1, h, hl => by
    unfold okAll at h
    rw [Bool.and_eq_true] at h
    have h1 := cat_len f k h.1 (fun i hi => hl i (by omega))
    have h2 := ok_len h.2 (hl k (by omega)).1 (hl k (by omega)).2
    unfold catP
    rw [List.length_append]; omega
theorem suf_wf (f : Nat → OpV) : ∀ m k, (∀ i, i < k + m → ∀ x ∈ (f i).z, (Lit.int .u8 x).wf = true) → ∀ x ∈ sufP f k m, (Lit.int .u8 x).wf = true
  | 0, _, _ => by intro x hx; cases hx
  | m + 1, k, h => by
    intro x hx
    unfold sufP at hx
    rcases List.mem_append.1 hx with h1 | h1
    · exact pc_wf (h k (by omega)) x h1
    · exact suf_wf f m (k + 1) (fun i hi => h i (by omega)) x h1
theorem wst_len (f : Nat → OpV) (k : Nat) (hk : k ≤ 60) (hl : ∀ i, i < k → (f i).l ≤ 100 ∧ (f i).z.length = (f i).l) : (wst f k).length ≤ 6000 := by
  unfold wst
  split
  · rename_i c
    have := cat_len f k c hl
    omega
  · simp
theorem wst_next (f : Nat → OpV) (k : Nat) : gotW (okAll f k && okp (f k)) (wst f k) (pc (f k)) = wst f (k + 1) ∧ (okAll f k && okp (f k)) = okAll f (k + 1) := by
  refine ⟨?_, rfl⟩
  unfold gotW wst
  show _ = if (okAll f k && okp (f k)) = true then catP f k ++ pc (f k) else []
  cases h : okAll f k <;> cases h2 : okp (f k) <;> simp
/-- The first k bytes of a number. -/
theorem numB_low (u : Nat) (n : Nat) : ∀ k, k ≤ n → numB (bytesL (u : Int) n) k = u % 256 ^ k
  | 0, _ => by simp [numB, Nat.mod_one]
  | k + 1, h => by
    unfold numB
    rw [numB_low u n k (by omega), bytesL_get _ _ _ (by omega)]
    have e : ((u : Int) / 2 ^ (8 * k) % 256).toNat = u / 256 ^ k % 256 := by
      have e1 : (2 : Int) ^ (8 * k) = ((256 ^ k : Nat) : Int) := by
        rw [Int.pow_mul]; simp
      rw [e1]
      have : ((u : Int) / ((256 ^ k : Nat) : Int) % 256) = ((u / 256 ^ k % 256 : Nat) : Int) := by simp
      rw [this]; rfl
    rw [e, Nat.mod_pow_succ, Nat.mul_comm (256 ^ k)]
theorem read_u (u n : Int) (h0 : 0 ≤ u) (hf : fitU n u = true) (R : List Int) : ((numB ((bytesL u n.toNat ++ R).take n.toNat) n.toNat : Nat) : Int) = u ∧ (bytesL u n.toNat ++ R).drop n.toNat = R := by
  obtain ⟨v, rfl⟩ : ∃ v : Nat, u = v := ⟨u.toNat, by omega⟩
  obtain ⟨_, _, h3⟩ := of_decide_eq_true hf
  have e : (bytesL (v : Int) n.toNat ++ R).take n.toNat = bytesL v n.toNat := List.take_left' (bytesL_len _ _)
  rw [e, numB_low v _ _ (Nat.le_refl _)]
  refine ⟨?_, List.drop_left' (bytesL_len _ _)⟩
  have h4 : v < 256 ^ n.toNat := by
    have e2 : (256 : Int) ^ n.toNat = ((256 ^ n.toNat : Nat) : Int) := by simp
    omega
  rw [Nat.mod_eq_of_lt h4]
theorem sgn_wrap (n : Nat) (h1 : 1 ≤ n) (h8 : n ≤ 8) (i : Int) (ha : -(128 * 256 ^ (n - 1)) ≤ i) (hb : i < 128 * 256 ^ (n - 1)) : sgn n ((wrapU i).toNat % 256 ^ n) = i := by
  unfold sgn wrapU
  obtain rfl | rfl | rfl | rfl | rfl | rfl | rfl | rfl : n = 1 ∨ n = 2 ∨ n = 3 ∨ n = 4 ∨ n = 5 ∨ n = 6 ∨ n = 7 ∨ n = 8 := by omega
  all_goals (simp only [Nat.reduceMul, Nat.reduceSub, Nat.reducePow, Int.reducePow, Int.reduceMul, Int.reduceNeg] at *; split <;> omega)
theorem read_i (i n : Int) (hf : fitI n i = true) (R : List Int) : sgn n.toNat (numB ((bytesL (wrapU i) n.toNat ++ R).take n.toNat) n.toNat) = i ∧ (bytesL (wrapU i) n.toNat ++ R).drop n.toNat = R := by
  obtain ⟨h1, h2, h3, h4⟩ := of_decide_eq_true hf
  have hw := wrapU_b i
  have e : (bytesL (wrapU i) n.toNat ++ R).take n.toNat = bytesL (wrapU i) n.toNat := List.take_left' (bytesL_len _ _)
  have ev : wrapU i = (((wrapU i).toNat : Nat) : Int) := by omega
  refine ⟨?_, List.drop_left' (bytesL_len _ _)⟩
  rw [e]
  have e2 := numB_low (wrapU i).toNat n.toNat n.toNat (Nat.le_refl _)
  rw [← ev] at e2
  rw [e2]
  exact sgn_wrap n.toNat (by omega) (by omega) i h3 h4

end Go.Proofs.Ytekilpmmadhpoaa
