/- Package decim: digits, without the program. -/
import Derived.Test.YtobgibmpodggkaaGreatDoorKA
import Derived.Lib.ItoaNum
import Derived.Lib.ItoaMem
import Derived.Lib.SlTrimSet
import Derived.Lib.Repeat
namespace Go.Proofs.YtobgibmpodggkaaGreatDoor
set_option linter.unusedVariables false
set_option linter.unusedSimpArgs false

/-- The k lowest digits of n, the highest of them ahead. -/
def dgt : Nat → Nat → List Nat
  | 0, _ => []
  | k + 1, n => dgt k (n / 10) ++ [48 + n % 10]
theorem dgt_len : ∀ k n, (dgt k n).length = k
  | 0, _ => rfl
  | k + 1, n => by simp [dgt, dgt_len k]
theorem dgt_cons : ∀ k n, dgt (k + 1) n = (48 + n / 10 ^ k % 10) :: dgt k n
  | 0, n => by simp [dgt]
  | k + 1, n => by
    have e : dgt (k + 1 + 1) n = dgt (k + 1) (n / 10) ++ [48 + n % 10] := rfl
    rw [e, dgt_cons k (n / 10), List.cons_append]
    have h : n / 10 / 10 ^ k = n / 10 ^ (k + 1) := by rw [Nat.div_div_eq_div_mul, Nat.pow_succ, Nat.mul_comm]
    rw [h]
    rfl
theorem dgt_bd : ∀ k n, ∀ c ∈ dgt k n, 48 ≤ c ∧ c ≤ 57
  | 0, _, c, h => by cases h
  | k + 1, n, c, h => by
    rcases List.mem_append.1 h with h | h
    · exact dgt_bd k _ c h
    · simp at h; omega
theorem dgt_pad : ∀ j k n, n < 10 ^ k → dgt (j + k) n = List.replicate j 48 ++ dgt k n
  | 0, k, n, h => by simp
  | j + 1, k, n, h => by
    have h1 : n / 10 ^ (j + k) = 0 := Nat.div_eq_of_lt (Nat.lt_of_lt_of_le h (Nat.pow_le_pow_right (by decide) (by omega)))
    rw [show j + 1 + k = (j + k) + 1 by omega, dgt_cons, h1, dgt_pad j k n h, List.replicate_succ, List.cons_append]
def nd (n : Nat) : Nat := if n = 0 then 0 else Lib.nDigits n
theorem lt_nd (n : Nat) : n < 10 ^ nd n := by
  unfold nd
  split
  · omega
  · exact Lib.lt_pow_nDigits n
theorem nd_small {n : Nat} : ∀ {k : Nat}, n < 10 ^ k → nd n ≤ k
  | 0, h => by have : n = 0 := by omega
               subst this; simp [nd]
  | k + 1, h => by
    by_cases h2 : n < 10 ^ k
    · exact Nat.le_succ_of_le (nd_small h2)
    · unfold nd
      split
      · omega
      · rw [Lib.nDigits_unique k n (by omega) h]; exact Nat.le_refl _
theorem nd_ge {n : Nat} (h : n ≠ 0) : 10 ^ (nd n - 1) ≤ n := by
  refine Decidable.byContradiction fun h2 => ?_
  have h3 := nd_small (Nat.lt_of_not_le h2)
  have h4 : 1 ≤ nd n := by unfold nd; rw [if_neg h]; exact Lib.nDigits_pos n
  omega
theorem nd_pos {n : Nat} (h : n ≠ 0) : 1 ≤ nd n := by unfold nd; rw [if_neg h]; exact Lib.nDigits_pos n
theorem nd_le {n k : Nat} (h : n < 10 ^ k) : nd n ≤ k := nd_small h
/-- As many digits as there are, at least so many. -/
def digV (n least : Nat) : List Nat := dgt (max least (nd n)) n
theorem dec_dgt : ∀ k u, Lib.nDigits u = k → (Lib.decDigits u).map UInt8.toNat = dgt k u := by
  intro k
  induction k with
  | zero => intro u h; have := Lib.nDigits_pos u; omega
  | succ k ih =>
    intro u h
    rw [Lib.decDigits]
    split
    · rename_i h10
      rw [Lib.nDigits_small h10] at h
      obtain rfl : k = 0 := by omega
      have e : u % 10 = u := Nat.mod_eq_of_lt h10
      have e2 : (UInt8.ofNat (48 + u)).toNat = 48 + u := by
        rw [UInt8.toNat_ofNat']; omega
      simp only [List.map_cons, List.map_nil, dgt, List.nil_append, e, e2]
    · rename_i h10
      rw [Lib.nDigits_big h10] at h
      have e2 : (UInt8.ofNat (48 + u % 10)).toNat = 48 + u % 10 := by
        rw [UInt8.toNat_ofNat']; omega
      rw [List.map_append, ih (u / 10) (by omega), List.map_cons, List.map_nil, e2]
      rfl
/-- Bytes as a text. -/
def nb (l : List Nat) : ByteArray := ⟨(l.map UInt8.ofNat).toArray⟩
theorem nb_app (a b : List Nat) : nb (a ++ b) = nb a ++ nb b := by
  apply ByteArray.ext
  simp [nb, ByteArray.data_append]
theorem nb_size (l : List Nat) : (nb l).size = l.length := by simp [nb, ByteArray.size]
theorem nb_of (b : List UInt8) : nb (b.map UInt8.toNat) = ⟨b.toArray⟩ := by
  unfold nb
  rw [List.map_map]
  have : (UInt8.ofNat ∘ UInt8.toNat) = id := by funext x; simp
  rw [this, List.map_id]
theorem ofNat_toNat {c : Nat} (h : c < 256) : (UInt8.ofNat c).toNat = c := by rw [UInt8.toNat_ofNat']; omega
/-- The text of a number, with noughts ahead. -/
def padV (n digits : Nat) : List Nat := dgt (max digits (Lib.nDigits n)) n
theorem padV_dig {n d : Nat} (h : 1 ≤ d) : padV n d = digV n d := by
  unfold padV digV nd
  split
  · rename_i h0; subst h0
    rw [Lib.nDigits_small (by decide)]
    congr 1; omega
  · rfl
theorem padV_is (n d : Nat) : List.replicate (d - Lib.nDigits n) 48 ++ dgt (Lib.nDigits n) n = padV n d := by
  unfold padV
  rw [← dgt_pad _ _ _ (Lib.lt_pow_nDigits n)]
  congr 1; omega
theorem itoa_is (n : Nat) : (⟨(Lib.itoa (n : Int)).toArray⟩ : ByteArray) = nb (dgt (Lib.nDigits n) n) := by
  rw [Lib.itoa_nonneg, ← dec_dgt _ n rfl, nb_of]
theorem rep_is (k : Nat) : (⟨(Lib.repeatL [48] k).toArray⟩ : ByteArray) = nb (List.replicate k 48) := by
  have e : Lib.repeatL [48] k = List.replicate k 48 := by
    have := Lib.repeatL_replicate 48 1 k
    simpa using this
  rw [e, ← nb_of]
  simp
/-- Digits without the noughts at their end, n below 10^k. -/
def behN : Nat → Nat → List Nat
  | 0, _ => []
  | k + 1, n => if n % 10 = 0 then behN k (n / 10) else dgt (k + 1) n
def behV (k n : Nat) : List Nat := if n = 0 then [] else 46 :: behN k n
theorem behN_len : ∀ k n, (behN k n).length ≤ k
  | 0, _ => by simp [behN]
  | k + 1, n => by
    unfold behN
    split
    · exact Nat.le_succ_of_le (behN_len k _)
    · rw [dgt_len]; exact Nat.le_refl _
theorem behN_bd : ∀ k n, ∀ c ∈ behN k n, 48 ≤ c ∧ c ≤ 57
  | 0, _, c, h => by cases h
  | k + 1, n, c, h => by
    unfold behN at h
    split at h
    · exact behN_bd k _ c h
    · exact dgt_bd _ _ c h
theorem trim_snoc0 (l : List UInt8) : Lib.trimRightS (l ++ [48]) [48] = Lib.trimRightS l [48] := by
  unfold Lib.trimRightS
  rw [List.reverse_append, List.reverse_singleton, List.singleton_append, List.dropWhile_cons_of_pos (by decide)]
theorem trim_snoc {l : List UInt8} {c : UInt8} (h : c ≠ 48) : Lib.trimRightS (l ++ [c]) [48] = l ++ [c] := by
  unfold Lib.trimRightS
  rw [List.reverse_append, List.reverse_singleton, List.singleton_append, List.dropWhile_cons_of_neg (by rw [Lib.contains_one]; simpa using h)]
  simp
theorem trim_dgt : ∀ k n, Lib.trimRightS ((dgt k n).map UInt8.ofNat) [48] = (behN k n).map UInt8.ofNat
  | 0, _ => rfl
  | k + 1, n => by
    unfold behN
    have e : (dgt (k + 1) n).map UInt8.ofNat = (dgt k (n / 10)).map UInt8.ofNat ++ [UInt8.ofNat (48 + n % 10)] := by
      show (dgt k (n / 10) ++ [48 + n % 10]).map UInt8.ofNat = _
      rw [List.map_append]; rfl
    split
    · rename_i h
      rw [e, h, ← trim_dgt k (n / 10)]
      exact trim_snoc0 _
    · rename_i h
      rw [e]
      refine trim_snoc fun e2 => h ?_
      have := congrArg UInt8.toNat e2
      rw [ofNat_toNat (by omega)] at this
      have h48 : (48 : UInt8).toNat = 48 := rfl
      omega
theorem trim_is (k n : Nat) : (⟨(Lib.trimRightS (nb (dgt k n)).data.toList [48]).toArray⟩ : ByteArray) = nb (behN k n) := by
  have e : (nb (dgt k n)).data.toList = (dgt k n).map UInt8.ofNat := by simp [nb]
  rw [e, trim_dgt]
  rfl
/-! Reading. -/
def isD (c : Nat) : Bool := decide (48 ≤ c ∧ c ≤ 57)
def cnt : List Nat → Nat
  | [] => 0
  | c :: l => if isD c = true then cnt l + 1 else 0
theorem cnt_le : ∀ l, cnt l ≤ l.length
  | [] => Nat.le_refl _
  | c :: l => by
    unfold cnt
    have := cnt_le l
    split
    · simp; omega
    · simp
theorem cnt_all : ∀ {l : List Nat}, ∀ i, i < cnt l → isD (l.getD i 0) = true
  | [], i, h => by simp [cnt] at h
  | c :: l, i, h => by
    unfold cnt at h
    split at h
    · cases i with
      | zero => simpa
      | succ i => simpa using cnt_all (l := l) i (by omega)
    · omega
theorem cnt_end : ∀ {l : List Nat}, cnt l < l.length → isD (l.getD (cnt l) 0) = false
  | [], h => by simp [cnt] at h
  | c :: l, h => by
    unfold cnt at h ⊢
    split
    · rename_i hc
      rw [if_pos hc] at h
      have := cnt_end (l := l) (by simpa using h)
      simpa using this
    · rename_i hc
      simpa using hc
theorem cnt_is : ∀ {l : List Nat} {k : Nat}, k ≤ l.length → (∀ i, i < k → isD (l.getD i 0) = true) → (k < l.length → isD (l.getD k 0) = false) → cnt l = k
  | [], k, h, _, _ => by simp at h; subst h; rfl
  | c :: l, 0, _, _, h2 => by
    unfold cnt
    have := h2 (by simp)
    rw [if_neg (by simpa using this)]
  | c :: l, k + 1, h, h1, h2 => by
    unfold cnt
    rw [if_pos (by simpa using h1 0 (by omega)), cnt_is (l := l) (k := k) (by simpa using h) (fun i hi => by simpa using h1 (i + 1) (by omega)) (fun hk => by simpa using h2 (by simpa using hk))]
def valN (a : Nat) (l : List Nat) : Nat := l.foldl (fun a c => 10 * a + (c - 48)) a
theorem valN_nil (a : Nat) : valN a [] = a := rfl
theorem valN_cons (a c : Nat) (l : List Nat) : valN a (c :: l) = valN (10 * a + (c - 48)) l := by unfold valN; rw [List.foldl_cons]
theorem valN_app (l m : List Nat) (a : Nat) : valN a (l ++ m) = valN (valN a l) m := List.foldl_append
theorem valN_one (a c : Nat) : valN a [c] = 10 * a + (c - 48) := by unfold valN; rw [List.foldl_cons, List.foldl_nil]
theorem dgt_snoc (k n : Nat) : dgt (k + 1) n = dgt k (n / 10) ++ [48 + n % 10] := rfl
theorem mod_ten (k n : Nat) : n % 10 ^ (k + 1) = n % 10 + 10 * (n / 10 % 10 ^ k) := by rw [Nat.pow_succ, Nat.mul_comm (10 ^ k) 10, Nat.mod_mul]
theorem ten_mul (a p : Nat) : a * (p * 10) = 10 * (a * p) := by rw [← Nat.mul_assoc, Nat.mul_comm]
theorem valN_dgt : ∀ k n a, valN a (dgt k n) = a * 10 ^ k + n % 10 ^ k
  | 0, n, a => by rw [show dgt 0 n = [] from rfl, valN_nil, Nat.pow_zero, Nat.mod_one, Nat.mul_one, Nat.add_zero]
  | k + 1, n, a => by
    rw [dgt_snoc, valN_app, valN_dgt k, valN_one, mod_ten, Nat.pow_succ, ten_mul]
    generalize a * 10 ^ k = x
    generalize n / 10 % 10 ^ k = y
    omega
theorem valN_lt : ∀ (l : List Nat) (a : Nat), (∀ c ∈ l, 48 ≤ c ∧ c ≤ 57) → valN a l < (a + 1) * 10 ^ l.length
  | [], a, _ => by rw [valN_nil, List.length_nil, Nat.pow_zero, Nat.mul_one]; exact Nat.lt_succ_self a
  | c :: l, a, h => by
    have h1 := h c (by simp)
    have h2 := valN_lt l (10 * a + (c - 48)) (fun d hd => h d (List.mem_cons_of_mem _ hd))
    rw [valN_cons]
    refine Nat.lt_of_lt_of_le h2 ?_
    rw [List.length_cons, Nat.pow_succ]
    have : (10 * a + (c - 48) + 1) ≤ (a + 1) * 10 := by omega
    calc _ ≤ (a + 1) * 10 * 10 ^ l.length := Nat.mul_le_mul_right _ this
      _ = _ := by rw [Nat.mul_assoc, Nat.mul_comm 10]

/-! What the calls tell. -/
def p10 (k : Nat) : Int := ((10 ^ k : Nat) : Int)
theorem p10_zero : p10 0 = 1 := rfl
theorem p10_succ (k : Nat) : p10 (k + 1) = 10 * p10 k := by unfold p10; rw [Nat.pow_succ]; omega
theorem p10_pos (k : Nat) : 1 ≤ p10 k := by unfold p10; have := Nat.pow_pos (n := k) (show 0 < 10 by decide); omega
theorem p10_mono {a b : Nat} (h : a ≤ b) : p10 a ≤ p10 b := by unfold p10; exact Int.ofNat_le.2 (Nat.pow_le_pow_right (by decide) h)
theorem p10_18 : p10 18 = 1000000000000000000 := by decide +kernel
theorem p10_le {k : Nat} (h : k ≤ 18) : p10 k ≤ 1000000000000000000 := by rw [← p10_18]; exact p10_mono h
def rightC (W M F lo hi : Int) : Bool := decide (1 ≤ W ∧ W ≤ M ∧ M ≤ 12 ∧ 0 ≤ F ∧ F ≤ 6 ∧ lo ≤ hi ∧ -p10 (M + F).toNat < lo ∧ hi < p10 (M + F).toNat)
theorem rightC_is {W M F lo hi : Int} : rightC W M F lo hi = true ↔ (1 ≤ W ∧ W ≤ M ∧ M ≤ 12 ∧ 0 ≤ F ∧ F ≤ 6 ∧ lo ≤ hi ∧ -p10 (M + F).toNat < lo ∧ hi < p10 (M + F).toNat) := by unfold rightC; exact decide_eq_true_iff
theorem rightC_no {W M F lo hi : Int} (h : ¬ (1 ≤ W ∧ W ≤ M ∧ M ≤ 12 ∧ 0 ≤ F ∧ F ≤ 6 ∧ lo ≤ hi ∧ -p10 (M + F).toNat < lo ∧ hi < p10 (M + F).toNat)) : rightC W M F lo hi = false := by unfold rightC; exact decide_eq_false h
def missE (is : Bool) (n lo hi : Int) : Int := if (is = false ∧ n ≠ 0) ∨ (is = true ∧ (n < lo ∨ hi < n)) then 5 else 0
def numV (a W F : Nat) : List Nat := digV (a / 10 ^ F) W ++ behV F (a % 10 ^ F)
def sgnV (n : Int) : List Nat := if n < 0 then [45] else []
def putD (is : Bool) (n W M F lo hi : Int) : List Nat × Int :=
  if rightC W M F lo hi = false then ([], 1) else if missE is n lo hi ≠ 0 then ([], 5) else if is = false then ([], 0) else (sgnV n ++ numV n.natAbs W.toNat F.toNat, 0)
theorem nd_lt_iff (a j : Nat) : 0 < a / 10 ^ j ↔ j < nd a := by
  constructor
  · intro h
    refine Decidable.byContradiction fun h2 => ?_
    have h3 : a < 10 ^ j := Nat.lt_of_lt_of_le (lt_nd a) (Nat.pow_le_pow_right (by decide) (by omega))
    rw [Nat.div_eq_of_lt h3] at h
    omega
  · intro h
    by_cases h0 : a = 0
    · subst h0; simp [nd] at h
    · have h1 := nd_ge h0
      have h2 : 10 ^ j ≤ a := Nat.le_trans (Nat.pow_le_pow_right (by decide) (by omega)) h1
      exact Nat.div_pos h2 (Nat.pow_pos (by decide))
theorem behN_step {k n : Nat} (h : n % 10 = 0) : behN (k + 1) n = behN k (n / 10) := by rw [behN, if_pos h]
theorem behN_stop {k n : Nat} (h : n % 10 ≠ 0) : behN (k + 1) n = dgt (k + 1) n := by rw [behN, if_neg h]
theorem div_lt_pow {n k : Nat} (h : n < 10 ^ (k + 1)) : n / 10 < 10 ^ k := by rw [Nat.pow_succ] at h; omega
theorem digV_eq {n k : Nat} (h : n < 10 ^ k) : digV n k = dgt k n := by
  unfold digV
  congr 1
  have := nd_le h
  omega
theorem padV_eq {n k : Nat} (h : n < 10 ^ k) (h1 : 1 ≤ k) : padV n k = dgt k n := by rw [padV_dig h1, digV_eq h]
theorem digV_len (n d : Nat) : (digV n d).length = max d (nd n) := by unfold digV; exact dgt_len _ _
theorem behV_len (k n : Nat) : (behV k n).length ≤ k + 1 := by
  unfold behV
  split
  · simp
  · rw [List.length_cons]; have := behN_len k n; omega

end Go.Proofs.YtobgibmpodggkaaGreatDoor
