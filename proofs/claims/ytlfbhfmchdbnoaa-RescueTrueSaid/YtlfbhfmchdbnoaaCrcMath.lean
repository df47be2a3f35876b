/- Sums of 16 bits, as plain numbers: a step is linear, and nothing but 0 comes to 0. -/
import Derived.Test.YtlfbhfmchdbnoaaKA
namespace Go.Proofs.Ytlfbhfmchdbnoaa
set_option linter.unusedVariables false

/-- One bit is moved out. -/
def sh (x : Nat) : Nat := if x % 2 = 1 then x / 2 ^^^ 33800 else x / 2
def shs : Nat → Nat → Nat
  | 0, x => x
  | n + 1, x => shs n (sh x)
theorem xor_div2 (a b : Nat) : (a ^^^ b) / 2 = a / 2 ^^^ b / 2 := by
  refine Nat.eq_of_testBit_eq fun i => ?_
  rw [Nat.testBit_xor, ← Nat.testBit_succ, ← Nat.testBit_succ, ← Nat.testBit_succ, Nat.testBit_xor]
theorem xor_odd (a b : Nat) : ((a ^^^ b) % 2 = 1) ↔ ((a % 2 = 1) ≠ (b % 2 = 1)) := by
  have h := Nat.testBit_xor a b 0
  rw [Nat.testBit_zero, Nat.testBit_zero, Nat.testBit_zero] at h
  by_cases h1 : a % 2 = 1 <;> by_cases h2 : b % 2 = 1 <;> simp [h1, h2] at h ⊢ <;> omega
theorem sh_xor (a b : Nat) : sh (a ^^^ b) = sh a ^^^ sh b := by
  unfold sh
  rw [xor_div2]
  have h := xor_odd a b
  by_cases h1 : a % 2 = 1 <;> by_cases h2 : b % 2 = 1
  · rw [if_neg (by rw [h]; simp [h1, h2]), if_pos h1, if_pos h2]
    rw [Nat.xor_assoc, ← Nat.xor_assoc 33800, Nat.xor_comm 33800 (b / 2), Nat.xor_assoc (b / 2), Nat.xor_self, Nat.xor_zero]
  · rw [if_pos (by rw [h]; simp [h1, h2]), if_pos h1, if_neg h2]
    rw [Nat.xor_assoc, Nat.xor_comm (b / 2), ← Nat.xor_assoc]
  · rw [if_pos (by rw [h]; simp [h1, h2]), if_neg h1, if_pos h2, Nat.xor_assoc]
  · rw [if_neg (by rw [h]; simp [h1, h2]), if_neg h1, if_neg h2]
theorem shs_xor : ∀ (n a b : Nat), shs n (a ^^^ b) = shs n a ^^^ shs n b
  | 0, _, _ => rfl
  | n + 1, a, b => by simp only [shs]; rw [sh_xor, shs_xor n]
theorem sh_double (x : Nat) : sh (2 * x) = x := by unfold sh; rw [if_neg (by omega)]; omega
theorem shs_pow : ∀ (n x : Nat), shs n (2 ^ n * x) = x
  | 0, x => by simp [shs]
  | n + 1, x => by
    simp only [shs]
    rw [Nat.pow_succ, Nat.mul_comm (2 ^ n) 2, Nat.mul_assoc, sh_double, shs_pow n]
theorem shs_add : ∀ (m n x : Nat), shs (m + n) x = shs n (shs m x)
  | 0, n, x => by simp [shs]
  | m + 1, n, x => by rw [Nat.add_right_comm]; simp only [shs]; exact shs_add m n _
theorem sh_zero : sh 0 = 0 := rfl
theorem shs_zero : ∀ n, shs n 0 = 0
  | 0 => rfl
  | n + 1 => by simp only [shs]; rw [sh_zero, shs_zero n]
theorem sh_lt (x : Nat) (h : x < 65536) : sh x < 65536 := by
  unfold sh; split
  · exact Nat.xor_lt_two_pow (n := 16) (by omega) (by omega)
  · omega
theorem shs_lt : ∀ (n x : Nat), x < 65536 → shs n x < 65536
  | 0, _, h => h
  | n + 1, x, h => shs_lt n _ (sh_lt x h)
theorem xor_zero {a b : Nat} (h : a ^^^ b = 0) : a = b := by
  have e : a = (a ^^^ b) ^^^ b := by rw [Nat.xor_assoc, Nat.xor_self, Nat.xor_zero]
  rw [e, h, Nat.zero_xor]
theorem sh_nz (x : Nat) (h : x < 65536) (h0 : sh x = 0) : x = 0 := by
  unfold sh at h0
  split at h0
  · have := xor_zero h0; omega
  · omega
theorem shs_nz : ∀ (n x : Nat), x < 65536 → shs n x = 0 → x = 0
  | 0, _, _, h => h
  | n + 1, x, h, h0 => sh_nz x h (shs_nz n _ (sh_lt x h) h0)

theorem join_xor (k x y : Nat) (h : y < 2 ^ k) : 2 ^ k * x + y = 2 ^ k * x ^^^ y := by
  refine Nat.eq_of_testBit_eq fun i => ?_
  rw [Nat.testBit_two_pow_mul_add _ h, Nat.testBit_xor, Nat.testBit_two_pow_mul]
  by_cases hi : i < k
  · have : ¬ k ≤ i := by omega
    simp [hi, this]
  · have h1 : k ≤ i := by omega
    have h2 : y.testBit i = false := Nat.testBit_lt_two_pow (Nat.lt_of_lt_of_le h (Nat.pow_le_pow_right (by omega) h1))
    simp [hi, h1, h2]

/-- The sum c with a byte more. -/
def stepN (c x : Nat) : Nat := shs 8 (c ^^^ x)
def crcF : Nat → List Int → Nat
  | c, [] => c
  | c, z :: r => crcF (stepN c z.toNat) r
def tab (i : Nat) : Nat := shs 4 i
theorem half (c : Nat) : c / 16 ^^^ tab (c % 16) = shs 4 c := by
  have e : c = 2 ^ 4 * (c / 16) ^^^ c % 16 := by rw [← join_xor 4 _ _ (by have := Nat.mod_lt c (show 16 > 0 by omega); omega)]; omega
  have h := shs_xor 4 (2 ^ 4 * (c / 16)) (c % 16)
  rw [shs_pow, ← e] at h
  exact h.symm
theorem step_tab (c : Nat) : shs 4 c / 16 ^^^ tab (shs 4 c % 16) = shs 8 c := by rw [half, ← shs_add]
theorem stepN_lt (c x : Nat) (hc : c < 65536) (hx : x < 256) : stepN c x < 65536 := shs_lt _ _ (Nat.xor_lt_two_pow (n := 16) hc (by omega))
theorem crcF_lt : ∀ (l : List Int) (c : Nat), c < 65536 → (∀ n ∈ l, 0 ≤ n ∧ n ≤ 255) → crcF c l < 65536
  | [], _, h, _ => h
  | z :: r, c, h, hz => crcF_lt r _ (stepN_lt _ _ h (by have := hz z (by simp); omega)) (fun n hn => hz n (by simp [hn]))
theorem crcF_append : ∀ (a b : List Int) (c : Nat), crcF c (a ++ b) = crcF (crcF c a) b
  | [], _, _ => rfl
  | z :: r, b, c => crcF_append r b _
/-- All bytes as one number, the first one lowest. -/
def numL : List Int → Nat
  | [] => 0
  | z :: r => 2 ^ 8 * numL r + z.toNat
theorem crcF_num (l : List Int) : ∀ (c : Nat), (∀ n ∈ l, 0 ≤ n ∧ n ≤ 255) → crcF c l = shs (8 * l.length) (c ^^^ numL l) := by
  induction l with
  | nil =>
    intro c _
    have h : numL [] = 0 := rfl
    rw [h, Nat.xor_zero]; rfl
  | cons z r ih =>
    intro c hz
    have hz0 := hz z (by simp)
    have h1 : numL (z :: r) = 2 ^ 8 * numL r ^^^ z.toNat := join_xor 8 (numL r) z.toNat (by omega)
    have h2 : 8 * (z :: r).length = 8 + 8 * r.length := by rw [List.length_cons]; omega
    rw [h1, h2, shs_add]
    refine (ih (stepN c z.toNat) (fun n hn => hz n (by simp [hn]))).trans ?_
    refine congrArg (shs (8 * r.length)) ?_
    rw [show c ^^^ (2 ^ 8 * numL r ^^^ z.toNat) = (c ^^^ z.toNat) ^^^ 2 ^ 8 * numL r from by rw [Nat.xor_comm (2 ^ 8 * numL r), Nat.xor_assoc], shs_xor 8, shs_pow]
    rfl
def crcSeal (zs : List Int) : List Int := zs ++ [((crcF 65535 zs % 256 : Nat) : Int), ((crcF 65535 zs / 256 : Nat) : Int)]
theorem crcSeal_len (zs : List Int) : (crcSeal zs).length = zs.length + 2 := by simp [crcSeal]
/-- Two bytes behind make the sum 0 just where they are the sum. -/
theorem crc_tail (C p q : Nat) (hp : p < 256) (hq : q < 256) (hC : C < 65536) : crcF C [(p : Int), (q : Int)] = 0 ↔ C = p + 256 * q := by
  rw [crcF_num _ _ (by intro n hn; simp at hn; omega)]
  have e : numL [(p : Int), (q : Int)] = p + 256 * q := by simp [numL]; omega
  rw [e]
  constructor
  · intro h
    have := shs_nz _ _ (Nat.xor_lt_two_pow (n := 16) hC (by omega)) h
    exact xor_zero this
  · intro h
    rw [h, Nat.xor_self, shs_zero]
theorem crc_seal_zero (zs : List Int) (hz : ∀ n ∈ zs, 0 ≤ n ∧ n ≤ 255) : crcF 65535 (crcSeal zs) = 0 := by
  unfold crcSeal
  have hlt := crcF_lt zs 65535 (by omega) hz
  rw [crcF_append]
  exact (crc_tail _ _ _ (by omega) (by omega) hlt).2 (by omega)
theorem crcSeal_bytes (zs : List Int) (hz : ∀ n ∈ zs, 0 ≤ n ∧ n ≤ 255) : ∀ n ∈ crcSeal zs, 0 ≤ n ∧ n ≤ 255 := by
  have hlt := crcF_lt zs 65535 (by omega) hz
  intro n hn
  unfold crcSeal at hn
  rcases List.mem_append.1 hn with h | h
  · exact hz n h
  · simp at h; omega
def crcOpen (zs : List Int) : Option (List Int) := if zs.length < 2 then none else if crcSeal (zs.take (zs.length - 2)) = zs then some (zs.take (zs.length - 2)) else none
theorem split2 (zs : List Int) (n : Nat) (h : zs.length = n + 2) : zs = zs.take n ++ [zs.getD n 0, zs.getD (n + 1) 0] := by
  have h1 : zs.drop n = zs.getD n 0 :: zs.drop (n + 1) := by rw [List.drop_eq_getElem_cons (by omega)]; simp [show n < zs.length by omega]
  have h2 : zs.drop (n + 1) = zs.getD (n + 1) 0 :: zs.drop (n + 1 + 1) := by rw [List.drop_eq_getElem_cons (by omega)]; simp [show n + 1 < zs.length by omega]
  have h3 : zs.drop (n + 1 + 1) = [] := List.drop_of_length_le (by omega)
  rw [h2, h3] at h1
  rw [← h1]; exact (List.take_append_drop n zs).symm
/-- A list opens just where its sum is 0. -/
theorem crcOpen_zero (zs : List Int) (n : Nat) (h : zs.length = n + 2) (hz : ∀ m ∈ zs, 0 ≤ m ∧ m ≤ 255) : crcSeal (zs.take n) = zs ↔ crcF 65535 zs = 0 := by
  have hzt : ∀ m ∈ zs.take n, 0 ≤ m ∧ m ≤ 255 := fun m hm => hz m (List.mem_of_mem_take hm)
  have e := split2 zs n h
  have hb1 := hz (zs.getD n 0) (by simp [show n < zs.length by omega])
  have hb2 := hz (zs.getD (n + 1) 0) (by simp [show n + 1 < zs.length by omega])
  obtain ⟨p, hp⟩ := Int.eq_ofNat_of_zero_le hb1.1
  obtain ⟨q, hq⟩ := Int.eq_ofNat_of_zero_le hb2.1
  have hlt := crcF_lt (zs.take n) 65535 (by omega) hzt
  rw [hp] at hb1
  rw [hq] at hb2
  rw [hp, hq] at e
  have h0 : crcF 65535 zs = crcF (crcF 65535 (zs.take n)) [(p : Int), (q : Int)] := by
    rw [← crcF_append, ← e]
  rw [h0, crc_tail _ _ _ (by omega) (by omega) hlt]
  constructor
  · intro hs
    rw [← hs] at e
    unfold crcSeal at e
    have e3 := List.append_inj_right' e (by simp)
    simp at e3
    omega
  · intro hs
    conv => rhs; rw [e]
    unfold crcSeal
    congr 1
    simp
    omega
theorem crcOpen_is (zs : List Int) (n : Nat) (h : zs.length = n + 2) (hz : ∀ m ∈ zs, 0 ≤ m ∧ m ≤ 255) : crcOpen zs = if crcF 65535 zs = 0 then some (zs.take n) else none := by
  unfold crcOpen
  rw [if_neg (by omega), show zs.length - 2 = n from by omega]
  by_cases hs : crcF 65535 zs = 0
  · rw [if_pos hs, if_pos ((crcOpen_zero zs n h hz).2 hs)]
  · rw [if_neg hs, if_neg (fun hh => hs ((crcOpen_zero zs n h hz).1 hh))]
theorem crcOpen_no (zs : List Int) (h : zs.length < 2) : crcOpen zs = none := if_pos h
theorem crcOpen_seal (zs : List Int) : crcOpen (crcSeal zs) = some zs := by
  have h := crcSeal_len zs
  have e : (crcSeal zs).take zs.length = zs := by simp [crcSeal]
  unfold crcOpen
  rw [if_neg (by omega), show (crcSeal zs).length - 2 = zs.length from by omega, e, if_pos rfl]

/-- A burst of at most 16 bits never comes to 0. -/
theorem burst (N a B : Nat) (hB : B < 65536) (ha : a ≤ N) : shs N (2 ^ a * B) = 0 ↔ B = 0 := by
  obtain ⟨m, rfl⟩ : ∃ m, N = a + m := ⟨N - a, by omega⟩
  rw [shs_add, shs_pow]
  constructor
  · exact shs_nz m B hB
  · rintro rfl; exact shs_zero m
theorem crc_burst (s t : List Int) (a B : Nat) (hs : ∀ m ∈ s, 0 ≤ m ∧ m ≤ 255) (ht : ∀ m ∈ t, 0 ≤ m ∧ m ≤ 255) (hl : t.length = s.length) (h0 : crcF 65535 s = 0) (hn : numL t = numL s ^^^ 2 ^ a * B) (hB : B < 65536) (ha : a ≤ 8 * s.length) : crcF 65535 t = 0 ↔ B = 0 := by
  rw [crcF_num s _ hs] at h0
  rw [crcF_num t _ ht, hl, hn, ← Nat.xor_assoc, shs_xor, h0, Nat.zero_xor]
  exact burst _ a B hB ha
theorem numL_set : ∀ (l : List Int) (i : Nat) (x : Nat), i < l.length → (∀ m ∈ l, 0 ≤ m ∧ m ≤ 255) → (hx : x < 256) → numL (l.set i (((l.getD i 0).toNat ^^^ x : Nat) : Int)) = numL l ^^^ 2 ^ (8 * i) * x
  | [], i, x, h, _, _ => by simp at h
  | z :: r, 0, x, h, hz, hx => by
    have hz0 := hz z (by simp)
    simp only [List.set_cons_zero, List.getD_cons_zero, numL, Int.toNat_natCast, Nat.mul_zero, Nat.pow_zero, Nat.one_mul]
    rw [join_xor 8 _ _ (Nat.xor_lt_two_pow (n := 8) (by omega) (by omega)), join_xor 8 (numL r) z.toNat (by omega), Nat.xor_assoc]
  | z :: r, i + 1, x, h, hz, hx => by
    have hz0 := hz z (by simp)
    have ih := numL_set r i x (by simpa using h) (fun n hn => hz n (by simp [hn])) hx
    simp only [List.set_cons_succ, List.getD_cons_succ, numL]
    rw [ih, join_xor 8 _ z.toNat (by omega), join_xor 8 (numL r) z.toNat (by omega)]
    have e : 2 ^ 8 * (numL r ^^^ 2 ^ (8 * i) * x) = 2 ^ 8 * numL r ^^^ 2 ^ (8 * (i + 1)) * x := by
      have e2 : 2 ^ (8 * (i + 1)) * x = 2 ^ 8 * (2 ^ (8 * i) * x) := by rw [show 8 * (i + 1) = 8 + 8 * i from by omega, Nat.pow_add, Nat.mul_assoc]
      rw [e2]
      refine Nat.eq_of_testBit_eq fun j => ?_
      rw [Nat.testBit_xor, Nat.testBit_two_pow_mul, Nat.testBit_two_pow_mul, Nat.testBit_two_pow_mul, Nat.testBit_xor]
      by_cases hj : 8 ≤ j <;> simp [hj]
    rw [e, Nat.xor_assoc, Nat.xor_assoc, Nat.xor_comm (2 ^ (8 * (i + 1)) * x)]

end Go.Proofs.Ytlfbhfmchdbnoaa
