/- Several texts in one: VaM, Va, Va2. -/
import Derived.Test.YtlfbhfmchdbnoaaKA
import Derived.Laws.BitsAllLaws
import Derived.Laws.MathBits

/- Numbers in as few bytes as they need, in plain numbers and lists. -/
namespace Go.Proofs.Ytlfbhfmchdbnoaa

def zigS (n : Int) : Int := if n < 0 then -(2 * n) - 1 else 2 * n
def zagS (u : Int) : Int := if u % 2 = 1 then -(u / 2) - 1 else u / 2
theorem zag_zig (n : Int) : zagS (zigS n) = n := by unfold zigS zagS; split <;> split <;> omega
theorem zig_bd (n : Int) (h1 : -9223372036854775808 ≤ n) (h2 : n ≤ 9223372036854775807) : 0 ≤ zigS n ∧ zigS n ≤ 18446744073709551615 := by unfold zigS; split <;> omega
theorem zag_bd (u : Int) (h1 : 0 ≤ u) (h2 : u ≤ 18446744073709551615) : -9223372036854775808 ≤ zagS u ∧ zagS u ≤ 9223372036854775807 := by unfold zagS; split <;> omega

/-- The bytes of a number. -/
def vpF : Nat → Nat → List Int
  | 0, u => [(u : Int)]
  | f + 1, u => if 127 < u then ((u % 128 + 128 : Nat) : Int) :: vpF f (u / 128) else [(u : Int)]
def vpS (u : Nat) : List Int := vpF 9 u
theorem vpF_len (f : Nat) : ∀ u, (vpF f u).length ≤ f + 1 := by
  induction f with
  | zero => intro u; simp [vpF]
  | succ f ih => intro u; unfold vpF; split
                 · have := ih (u / 128); simp; omega
                 · simp
theorem vpS_len (u : Nat) : (vpS u).length ≤ 10 := vpF_len 9 u
theorem vpF_more (f u : Nat) (h : 127 < u) : vpF (f + 1) u = ((u % 128 + 128 : Nat) : Int) :: vpF f (u / 128) := if_pos h
theorem vpF_last (f u : Nat) (h : ¬ 127 < u) : vpF f u = [(u : Int)] := by
  cases f with
  | zero => rfl
  | succ f => exact if_neg h
theorem vpF_wf (f : Nat) : ∀ u, u < 128 ^ (f + 1) → ∀ n ∈ vpF f u, 0 ≤ n ∧ n ≤ 255 := by
  induction f with
  | zero => intro u h n hn; simp [vpF] at hn; subst hn; omega
  | succ f ih =>
    intro u h n hn
    by_cases hu : 127 < u
    · rw [vpF_more f u hu] at hn
      rcases List.mem_cons.1 hn with rfl | hn
      · omega
      · exact ih (u / 128) (by rw [Nat.pow_succ] at h; exact (Nat.div_lt_iff_lt_mul (by decide)).2 h) n hn
    · rw [vpF_last _ u hu] at hn; simp at hn; subst hn; omega

/-- Take: the number, its bytes, the error. -/
def takeS : List Int → Nat → Nat → Nat × Nat × Nat
  | [], _, _ => (0, 0, 2)
  | c :: r, i, u => if i = 9 ∧ 1 < c then (0, 0, 3) else if 127 < c then takeS r (i + 1) (u + 128 ^ i * (c % 128).toNat) else if c = 0 ∧ 0 < i then (0, 0, 3) else (u + 128 ^ i * (c % 128).toNat, i + 1, 0)
theorem takeS_nil (i u : Nat) : takeS [] i u = (0, 0, 2) := rfl
theorem takeS_tenth (c : Int) (r : List Int) (u : Nat) (h : 1 < c) : takeS (c :: r) 9 u = (0, 0, 3) := if_pos ⟨rfl, h⟩
theorem takeS_more (c : Int) (r : List Int) (i u : Nat) (h : ¬ (i = 9 ∧ 1 < c)) (h2 : 127 < c) : takeS (c :: r) i u = takeS r (i + 1) (u + 128 ^ i * (c % 128).toNat) := by
  rw [takeS, if_neg h, if_pos h2]
theorem takeS_zero (c : Int) (r : List Int) (i u : Nat) (h2 : c = 0) (h3 : 0 < i) : takeS (c :: r) i u = (0, 0, 3) := by
  rw [takeS, if_neg (by omega), if_neg (by omega), if_pos ⟨h2, h3⟩]
theorem takeS_last (c : Int) (r : List Int) (i u : Nat) (h : ¬ (i = 9 ∧ 1 < c)) (h2 : ¬ 127 < c) (h3 : ¬ (c = 0 ∧ 0 < i)) : takeS (c :: r) i u = (u + 128 ^ i * (c % 128).toNat, i + 1, 0) := by
  rw [takeS, if_neg h, if_neg h2, if_neg h3]

theorem drop_step (l : List Int) (k : Nat) (h : k < l.length) : l.drop k = l.getD k 0 :: l.drop (k + 1) := by
  rw [List.drop_eq_getElem_cons h]; simp [h]

/-- What an answer of takeS is. -/
theorem takeS_err (b : List Int) : ∀ (i u : Nat), (takeS b i u).2.2 ≠ 0 → (takeS b i u).1 = 0 ∧ (takeS b i u).2.1 = 0 ∧ ((takeS b i u).2.2 = 2 ∨ (takeS b i u).2.2 = 3) := by
  induction b with
  | nil => intro i u _; exact ⟨rfl, rfl, .inl rfl⟩
  | cons c r ih =>
    intro i u h
    by_cases h1 : i = 9 ∧ 1 < c
    · have e : takeS (c :: r) i u = (0, 0, 3) := if_pos h1
      rw [e]; exact ⟨rfl, rfl, .inr rfl⟩
    · by_cases h2 : 127 < c
      · rw [takeS_more c r i u h1 h2] at h ⊢; exact ih _ _ h
      · by_cases h3 : c = 0 ∧ 0 < i
        · rw [takeS_zero c r i u h3.1 h3.2]; exact ⟨rfl, rfl, .inr rfl⟩
        · rw [takeS_last c r i u h1 h2 h3] at h; exact absurd rfl h

theorem pow128_9 : (128 : Nat) ^ 9 = 9223372036854775808 := by decide +kernel
theorem pow128_le (i : Nat) (h : i ≤ 9) : (128 : Nat) ^ i ≤ 9223372036854775808 := by rw [← pow128_9]; exact Nat.pow_le_pow_right (by decide) h

/-- What is taken, put, is those bytes. -/
theorem vput_take (b : List Int) (hb : ∀ c ∈ b, 0 ≤ c ∧ c ≤ 255) : ∀ (i u : Nat), i ≤ 9 → u < 128 ^ i → (takeS b i u).2.2 = 0 →
    ∃ y, (takeS b i u).1 = u + 128 ^ i * y ∧ vpF (9 - i) y = b.take ((takeS b i u).2.1 - i) ∧ i < (takeS b i u).2.1 ∧ (takeS b i u).2.1 ≤ i + b.length ∧ (0 < i → 0 < y) ∧ u + 128 ^ i * y < 18446744073709551616 := by
  induction b with
  | nil => intro i u _ _ h; exact absurd h (by simp [takeS])
  | cons c r ih =>
    intro i u hi hu h
    obtain ⟨hc0, hc1⟩ := hb c (by simp)
    have hr : ∀ c ∈ r, 0 ≤ c ∧ c ≤ 255 := fun x hx => hb x (by simp [hx])
    by_cases h1 : i = 9 ∧ 1 < c
    · have e : takeS (c :: r) i u = (0, 0, 3) := if_pos h1
      rw [e] at h; exact absurd h (by decide)
    · by_cases h2 : 127 < c
      · have hi9 : i ≤ 8 := by omega
        rw [takeS_more c r i u h1 h2] at h ⊢
        have hm : 128 ^ i * (c % 128).toNat ≤ 128 ^ i * 127 := Nat.mul_le_mul_left _ (by omega)
        obtain ⟨y, e1, e2, e3, e4, e5, e6⟩ := ih hr (i + 1) _ (by omega) (by rw [Nat.pow_succ]; omega) h
        have hy := e5 (by omega)
        have hpw : 128 ^ (i + 1) * y = 128 ^ i * (128 * y) := by rw [Nat.pow_succ, Nat.mul_assoc]
        have hadd : u + 128 ^ i * (c % 128).toNat + 128 ^ (i + 1) * y = u + 128 ^ i * ((c % 128).toNat + 128 * y) := by rw [hpw, Nat.mul_add]; omega
        refine ⟨(c % 128).toNat + 128 * y, by rw [e1, hadd], ?_, by omega, by simp; omega, fun _ => by omega, by rw [← hadd]; exact e6⟩
        rw [show 9 - i = (9 - (i + 1)) + 1 from by omega, vpF_more _ _ (by omega)]
        rw [show (takeS r (i + 1) (u + 128 ^ i * (c % 128).toNat)).2.1 - i = ((takeS r (i + 1) (u + 128 ^ i * (c % 128).toNat)).2.1 - (i + 1)) + 1 from by omega, List.take_succ_cons, ← e2]
        rw [show ((c % 128).toNat + 128 * y) / 128 = y from by omega]
        congr 1
        omega
      · by_cases h3 : c = 0 ∧ 0 < i
        · rw [takeS_zero c r i u h3.1 h3.2] at h; exact absurd h (by decide)
        · rw [takeS_last c r i u h1 h2 h3]
          have hcm : (c % 128).toNat = c.toNat := by omega
          rw [hcm]
          refine ⟨c.toNat, rfl, ?_, by simp, by simp, fun _ => by omega, ?_⟩
          · rw [vpF_last _ _ (by omega)]
            show _ = List.take (i + 1 - i) (c :: r)
            rw [show i + 1 - i = 1 from by omega]
            simp; omega
          · have hp := pow128_le i hi
            by_cases h9 : i = 9
            · subst h9
              have : 128 ^ 9 * c.toNat ≤ 128 ^ 9 * 1 := Nat.mul_le_mul_left _ (by omega)
              omega
            · have h8 : (128 : Nat) ^ (i + 1) ≤ 9223372036854775808 := pow128_le (i + 1) (by omega)
              have : 128 ^ i * c.toNat ≤ 128 ^ i * 127 := Nat.mul_le_mul_left _ (by omega)
              rw [Nat.pow_succ] at h8
              omega

theorem takeS_ok (b : List Int) (hb : ∀ c ∈ b, 0 ≤ c ∧ c ≤ 255) (h : (takeS b 0 0).2.2 = 0) :
    1 ≤ (takeS b 0 0).2.1 ∧ (takeS b 0 0).2.1 ≤ b.length ∧ (takeS b 0 0).1 ≤ 18446744073709551615 ∧ vpS (takeS b 0 0).1 = b.take (takeS b 0 0).2.1 := by
  obtain ⟨y, e1, e2, e3, e4, _, e6⟩ := vput_take b hb 0 0 (by decide) (by decide) h
  have ey : (takeS b 0 0).1 = y := by rw [e1]; omega
  refine ⟨by omega, by omega, by rw [e1]; omega, ?_⟩
  rw [ey]; exact e2

/-- What is put is taken, whatever stands behind it. -/
theorem vtake_put (f : Nat) : ∀ (u i v : Nat) (rest : List Int), i + f = 9 → u < 128 ^ (f + 1) → (0 < i → 0 < u) → 128 ^ i * u < 18446744073709551616 →
    takeS (vpF f u ++ rest) i v = (v + 128 ^ i * u, i + (vpF f u).length, 0) := by
  induction f with
  | zero =>
    intro u i v rest hi hu h0 hb
    obtain rfl : i = 9 := by omega
    have hu1 : u ≤ 1 := by
      apply Nat.le_of_not_lt; intro hh
      have : 128 ^ 9 * 2 ≤ 128 ^ 9 * u := Nat.mul_le_mul_left _ hh
      have := pow128_9
      omega
    have h1 := h0 (by omega)
    obtain rfl : u = 1 := by omega
    show takeS (((1 : Nat) : Int) :: rest) 9 v = _
    rw [takeS_last _ _ _ _ (by omega) (by omega) (by omega)]
    rfl
  | succ f ih =>
    intro u i v rest hi hu h0 hb
    by_cases h : 127 < u
    · rw [vpF_more f u h, List.cons_append, takeS_more _ _ _ _ (by omega) (by omega)]
      have hdm : 128 ^ (i + 1) * (u / 128) + 128 ^ i * (u % 128) = 128 ^ i * u := by
        rw [Nat.pow_succ, Nat.mul_assoc, ← Nat.mul_add, Nat.div_add_mod]
      have hcm : ((((u % 128 + 128 : Nat) : Int)) % 128).toNat = u % 128 := by omega
      rw [hcm, ih (u / 128) (i + 1) _ rest (by omega) (by rw [Nat.pow_succ] at hu; exact (Nat.div_lt_iff_lt_mul (by decide)).2 hu) (fun _ => by omega) (by omega)]
      rw [show v + 128 ^ i * (u % 128) + 128 ^ (i + 1) * (u / 128) = v + 128 ^ i * u from by omega]
      rw [List.length_cons, show i + 1 + (vpF f (u / 128)).length = i + ((vpF f (u / 128)).length + 1) from by omega]
    · rw [vpF_last _ u h, List.singleton_append, takeS_last _ _ _ _ (by omega) (by omega) (by omega)]
      have hcm : ((u : Int) % 128).toNat = u := by omega
      rw [hcm]; rfl

theorem vtake_putS (u : Nat) (rest : List Int) (h : u ≤ 18446744073709551615) : takeS (vpS u ++ rest) 0 0 = (u, (vpS u).length, 0) := by
  have := vtake_put 9 u 0 0 rest rfl (by omega) (by omega) (by omega)
  unfold vpS
  rw [this]; simp

def parseF : Nat → List Int → List Int → Nat → List Int × Nat × Nat
  | 0, _, acc, n => (acc, n, 0)
  | k + 1, b, acc, n => if (takeS b 0 0).2.2 = 0 then parseF k (b.drop (takeS b 0 0).2.1) (acc ++ [zagS (takeS b 0 0).1]) (n + (takeS b 0 0).2.1) else ([], 0, (takeS b 0 0).2.2)
def parseS (b : List Int) (n : Int) : List Int × Nat × Nat := if n < 0 then ([], 0, 1) else parseF n.toNat b [] 0
theorem parseF_yes (k : Nat) (b acc : List Int) (n : Nat) (h : (takeS b 0 0).2.2 = 0) : parseF (k + 1) b acc n = parseF k (b.drop (takeS b 0 0).2.1) (acc ++ [zagS (takeS b 0 0).1]) (n + (takeS b 0 0).2.1) := if_pos h
theorem parseF_no (k : Nat) (b acc : List Int) (n : Nat) (h : (takeS b 0 0).2.2 ≠ 0) : parseF (k + 1) b acc n = ([], 0, (takeS b 0 0).2.2) := if_neg h

def intsS (l : List Int) : List Int := l.flatMap fun n => vpS (zigS n).toNat
theorem parse_ints (l : List Int) (hl : ∀ n ∈ l, -9223372036854775808 ≤ n ∧ n ≤ 9223372036854775807) : ∀ (rest acc : List Int) (n : Nat), parseF l.length (intsS l ++ rest) acc n = (acc ++ l, n + (intsS l).length, 0) := by
  induction l with
  | nil => intro rest acc n; simp [parseF, intsS]
  | cons x r ih =>
    intro rest acc n
    have hx := zig_bd x (hl x (by simp)).1 (hl x (by simp)).2
    have e : intsS (x :: r) ++ rest = vpS (zigS x).toNat ++ (intsS r ++ rest) := by simp [intsS]
    have ht := vtake_putS (zigS x).toNat (intsS r ++ rest) (by omega)
    rw [List.length_cons, e, parseF_yes _ _ _ _ (by rw [ht]), ht]
    show parseF r.length ((vpS (zigS x).toNat ++ (intsS r ++ rest)).drop (vpS (zigS x).toNat).length) (acc ++ [zagS ((zigS x).toNat : Int)]) (n + (vpS (zigS x).toNat).length) = _
    rw [List.drop_left, show (((zigS x).toNat : Nat) : Int) = zigS x from by omega, zag_zig, ih (fun n hn => hl n (by simp [hn]))]
    have e2 : intsS (x :: r) = vpS (zigS x).toNat ++ intsS r := by simp [intsS]
    rw [e2, List.length_append, List.append_assoc, List.singleton_append, Nat.add_assoc]

theorem ints_len (l : List Int) : (intsS l).length ≤ 10 * l.length := by
  induction l with
  | nil => simp [intsS]
  | cons x r ih =>
    have e : intsS (x :: r) = vpS (zigS x).toNat ++ intsS r := by simp [intsS]
    have := vpS_len (zigS x).toNat
    rw [e, List.length_append, List.length_cons]; omega

theorem parseF_len (k : Nat) : ∀ (b acc : List Int) (n : Nat), (∀ c ∈ b, 0 ≤ c ∧ c ≤ 255) → (parseF k b acc n).1.length ≤ acc.length + b.length := by
  induction k with
  | zero => intro b acc n _; simp [parseF]
  | succ k ih =>
    intro b acc n hb
    by_cases h : (takeS b 0 0).2.2 = 0
    · obtain ⟨h1, h2, _⟩ := takeS_ok b hb h
      rw [parseF_yes _ _ _ _ h]
      have := ih (b.drop (takeS b 0 0).2.1) (acc ++ [zagS (takeS b 0 0).1]) (n + (takeS b 0 0).2.1) (fun c hc => hb c (List.mem_of_mem_drop hc))
      rw [List.length_append, List.length_singleton, List.length_drop] at this
      omega
    · rw [parseF_no _ _ _ _ h]; simp
theorem parse_len (b : List Int) (n : Int) (h : b.length ≤ 1000) (hb : ∀ c ∈ b, 0 ≤ c ∧ c ≤ 255) : (parseS b n).1.length ≤ 1000000 := by
  unfold parseS; split
  · simp
  · have := parseF_len n.toNat b [] 0 hb; simp at this; omega
theorem parseF_err (k : Nat) : ∀ (b acc : List Int) (n : Nat), (parseF k b acc n).2.2 ≤ 3 := by
  induction k with
  | zero => intro b acc n; simp [parseF]
  | succ k ih =>
    intro b acc n
    by_cases h : (takeS b 0 0).2.2 = 0
    · rw [parseF_yes _ _ _ _ h]; exact ih _ _ _
    · rw [parseF_no _ _ _ _ h]; have := (takeS_err b 0 0 h).2.2; show (takeS b 0 0).2.2 ≤ 3; omega
theorem parse_err (b : List Int) (n : Int) : (parseS b n).2.2 ≤ 3 := by
  unfold parseS; split
  · exact Nat.le_succ_of_le (Nat.le_succ 1)
  · exact parseF_err _ _ _ _
theorem vwf_byte {n : Int} (h1 : 0 ≤ n) (h2 : n ≤ 255) : (Lit.int .u8 n).wf = true := by
  have h3 : IntKind.u8.min = 0 := rfl
  have h4 : IntKind.u8.max = 255 := rfl
  simp [Lit.wf, h3, h4]; exact ⟨h1, h2⟩
theorem ints_wf (l : List Int) (hl : ∀ n ∈ l, -9223372036854775808 ≤ n ∧ n ≤ 9223372036854775807) : ∀ n ∈ intsS l, (Lit.int .u8 n).wf = true := by
  intro n hn
  obtain ⟨x, hx, hn⟩ := List.mem_flatMap.1 hn
  have hz := zig_bd x (hl x hx).1 (hl x hx).2
  have := vpF_wf 9 (zigS x).toNat (by omega) n hn
  exact vwf_byte this.1 this.2

end Go.Proofs.Ytlfbhfmchdbnoaa

/- What each function of package vary comes to: contracts, by walking their text. -/
namespace Go.Proofs.Ytlfbhfmchdbnoaa
open Go.ChangeShapes Go.WideShapes Go.ChangeAt Go.RowKit
set_option linter.unusedVariables false

theorem xor_ones (x : Nat) (hx : x < 18446744073709551616) : x ^^^ 18446744073709551615 = 18446744073709551615 - x := by
  have h := congrArg BitVec.toNat (BitVec.xor_allOnes (x := BitVec.ofNat 64 x))
  rw [BitVec.toNat_xor, BitVec.toNat_not, BitVec.toNat_allOnes, BitVec.toNat_ofNat, Nat.mod_eq_of_lt (by omega)] at h
  simpa using h

theorem zig_bits (n : Int) (h1 : -9223372036854775808 ≤ n) (h2 : n ≤ 9223372036854775807) : bits .xor .u64 (IntKind.u64.wrap (wrap64 (n * 2))) (IntKind.u64.wrap (n / 9223372036854775808)) = zigS n := by
  obtain ⟨x, hx, hxl⟩ : ∃ x : Nat, IntKind.u64.wrap (wrap64 (n * 2)) = (x : Int) ∧ x < 18446744073709551616 := by
    refine ⟨(IntKind.u64.wrap (wrap64 (n * 2))).toNat, ?_, ?_⟩ <;> (simp only [IntKind.wrap_u64, wrap64]; omega)
  have hx2 : (x : Int) = if n < 0 then 2 * n + 18446744073709551616 else 2 * n := by
    rw [← hx]; simp only [IntKind.wrap_u64, wrap64]; split <;> omega
  rw [hx]
  unfold zigS
  by_cases hn : n < 0
  · rw [if_pos hn] at hx2 ⊢
    have hy : IntKind.u64.wrap (n / 9223372036854775808) = ((18446744073709551615 : Nat) : Int) := by simp only [IntKind.wrap_u64]; omega
    rw [hy, u64_xor_nat _ _ hxl (by decide), xor_ones x hxl]; omega
  · rw [if_neg hn] at hx2 ⊢
    have hy : IntKind.u64.wrap (n / 9223372036854775808) = ((0 : Nat) : Int) := by simp only [IntKind.wrap_u64]; omega
    rw [hy, u64_xor_nat _ _ hxl (by decide), Nat.xor_zero]; omega

theorem i64_xor_zero (a : Int) (h0 : 0 ≤ a) (h1 : a < 9223372036854775808) : bits .xor .i64 a 0 = a := by
  show IntKind.i64.wrap ((BitVec.ofInt 64 a ^^^ BitVec.ofInt 64 0).toNat : Int) = a
  obtain ⟨x, rfl⟩ := Int.eq_ofNat_of_zero_le h0
  rw [BitVec.toNat_xor, ofInt_u64 x (by omega), show (BitVec.ofInt 64 0).toNat = 0 from rfl, Nat.xor_zero, IntKind.wrap_i64]
  omega

theorem i64_xor_ones (a : Int) (h0 : 0 ≤ a) (h1 : a < 9223372036854775808) : bits .xor .i64 a (-1) = -a - 1 := by
  show IntKind.i64.wrap ((BitVec.ofInt 64 a ^^^ BitVec.ofInt 64 (-1)).toNat : Int) = _
  obtain ⟨x, rfl⟩ := Int.eq_ofNat_of_zero_le h0
  rw [BitVec.toNat_xor, ofInt_u64 x (by omega), show (BitVec.ofInt 64 (-1)).toNat = 18446744073709551615 from by decide +kernel, xor_ones x (by omega), IntKind.wrap_i64]
  omega

theorem zag_bits (n : Int) (h1 : 0 ≤ n) (h2 : n ≤ 18446744073709551615) : bits .xor .i64 (n / 2) (wrap64 (-wrap64 (bits .and .u64 n 1))) = zagS n := by
  obtain ⟨x, rfl⟩ := Int.eq_ofNat_of_zero_le h1
  have ha : bits .and .u64 (x : Int) 1 = ((x % 2 : Nat) : Int) := by
    rw [show (1 : Int) = ((1 : Nat) : Int) from rfl, u64_and_nat x 1 (by omega) (by decide), nat_mask1]
  rw [ha]
  unfold zagS
  by_cases hx : (x : Int) % 2 = 1
  · rw [if_pos hx, show wrap64 (-wrap64 ((x % 2 : Nat) : Int)) = -1 from by unfold wrap64; omega, i64_xor_ones _ (by omega) (by omega)]
  · rw [if_neg hx, show wrap64 (-wrap64 ((x % 2 : Nat) : Int)) = 0 from by unfold wrap64; omega, i64_xor_zero _ (by omega) (by omega)]

theorem zag_any (n : Int) (w : World) (h1 : 0 ≤ n) (h2 : n ≤ 18446744073709551615) :
    Calls Try.prog 71 #[.int .u64 n] w fun e w' => e = .returned (.int .i64 (zagS n)) ∧ w' = w := by
  have HV := hid (zag_bits n h1 h2)
  go_enter Try.func71, Try.ntmps71
  go_wp2
  go_ret
  exact ⟨ret_int HV.out, rfl⟩

def RowAt (w : World) (g : Nat) (zs : List Int) : Prop := ∃ a cap, w.cell? ⟨g, 0, none⟩ = some (.slice a zs.length cap) ∧ w.frozen? ⟨g, 0, none⟩ = false ∧ Own .u8 5 w (g + 1) (.slice a zs.length cap) zs ∧ g < w.heap.size

theorem rowat_store {wr W1 : World} {g : Nat} {zs : List Int} {a : Option Addr} {cap : Nat} {c0 : Value} (hg : g < wr.heap.size) (hc : wr.cell? ⟨g, 0, none⟩ = some c0) (hf : wr.frozen? ⟨g, 0, none⟩ = false)
    (hb : Below (g + 1) wr W1) (hown : Own .u8 5 W1 (g + 1) (.slice a zs.length cap) zs) :
    RowAt (W1.setCell ⟨g, 0, none⟩ (.slice a zs.length cap)) g zs ∧ Below g wr (W1.setCell ⟨g, 0, none⟩ (.slice a zs.length cap)) := by
  have hc1 : W1.cell? ⟨g, 0, none⟩ = some c0 := (hb.cell (p := ⟨g, 0, none⟩) (Nat.lt_succ_self g)).trans hc
  have hf1 : W1.frozen? ⟨g, 0, none⟩ = false := (hb.frozen (p := ⟨g, 0, none⟩) (Nat.lt_succ_self g)).trans hf
  refine ⟨⟨a, cap, World.cell?_setCell_same W1 _ _ hc1, by rw [World.frozen?_setCell]; exact hf1, ownsRow_setCell_below hown (Nat.lt_succ_self g) _, ?_⟩, (hb.mono (Nat.le_succ g)).setCell (Nat.le_refl g) _⟩
  rw [World.size_setCell]; exact Nat.lt_of_lt_of_le hg hb.size

theorem or128 (m : Nat) : bits .or .u8 ((m : Int) % 256) 128 = (m : Int) % 128 + 128 := by
  have h := u8_or_nat (m % 256) 128 (by omega) (by decide)
  have e : ((m % 256 : Nat) : Int) = (m : Int) % 256 := rfl
  rw [← e, show (128 : Int) = ((128 : Nat) : Int) from rfl, h]
  have h1 : m % 256 ||| 128 = m % 128 + 128 := by
    have h2 : m % 256 = 128 * (m % 256 / 128) + m % 128 := by omega
    by_cases hh : m % 256 / 128 = 0
    · have h3 : m % 256 = m % 128 := by omega
      rw [h3, Nat.or_comm, nat_join 7 128 (m % 128) (by decide) (by omega)]
      omega
    · have h3 : m % 256 = 128 + m % 128 := by omega
      rw [h3, ← nat_join 7 128 (m % 128) (by decide) (by omega), Nat.or_assoc, Nat.or_comm (m % 128), ← Nat.or_assoc, Nat.or_self, nat_join 7 128 (m % 128) (by decide) (by omega)]
      omega
  rw [h1]; omega

theorem and127 (c : Nat) (hc : c ≤ 255) : bits .and .u8 (c : Int) 127 = (c : Int) % 128 := by
  rw [show (127 : Int) = ((127 : Nat) : Int) from rfl, u8_and_nat c 127 (by omega) (by decide), nat_mask7]; rfl

theorem pow_7 (k : Nat) : 2 ^ (7 * k) = 128 ^ k := by rw [Nat.pow_mul]

theorem take_or (m c k : Nat) (hk : k ≤ 8 ∨ k = 9 ∧ c ≤ 1) (hm : m < 128 ^ k) :
    bits .or .u64 (m : Int) (IntKind.u64.wrap ((c : Int) % 128 * 2 ^ (7 * k))) = ((m + 128 ^ k * (c % 128) : Nat) : Int) ∧ m + 128 ^ k * (c % 128) < 128 ^ (k + 1) ∧ m + 128 ^ k * (c % 128) < 18446744073709551616 := by
  have e1 : (c : Int) % 128 * 2 ^ (7 * k) = ((c % 128 * 128 ^ k : Nat) : Int) := by rw [← pow_7]; simp
  have h1 : m + 128 ^ k * (c % 128) < 128 ^ (k + 1) := by
    have : 128 ^ k * (c % 128) ≤ 128 ^ k * 127 := Nat.mul_le_mul_left _ (by omega)
    rw [Nat.pow_succ]; omega
  have h2 : m + 128 ^ k * (c % 128) < 18446744073709551616 := by
    rcases hk with hk | ⟨rfl, hc⟩
    · have : 128 ^ (k + 1) ≤ 128 ^ 9 := Nat.pow_le_pow_right (by decide) (by omega)
      have : (128 : Nat) ^ 9 = 9223372036854775808 := by decide +kernel
      omega
    · have : 128 ^ 9 * (c % 128) ≤ 128 ^ 9 * 1 := Nat.mul_le_mul_left _ (by omega)
      have : (128 : Nat) ^ 9 = 9223372036854775808 := by decide +kernel
      omega
  refine ⟨?_, h1, h2⟩
  have h3 : c % 128 * 128 ^ k < 18446744073709551616 := by rw [Nat.mul_comm]; omega
  rw [e1, IntKind.wrap_u64, Int.emod_eq_of_lt (by omega) (by omega), u64_or_nat m _ (by omega) h3, Nat.or_comm, nat_join (7 * k) _ m (by rw [pow_7]; exact Nat.mul_mod_left _ _) (by rw [pow_7]; exact hm), Nat.mul_comm (c % 128), Nat.add_comm]

theorem take_or9 (m : Nat) (hm : m < 128 ^ 9) :
    bits .or .u64 (m : Int) (IntKind.u64.wrap (IntKind.u64.wrap (bits .and .u8 1 127) * 9223372036854775808)) = ((m + 128 ^ 9 * ((1 : Int) % 128).toNat : Nat) : Int) := by
  have h := (take_or m 1 9 (Or.inr ⟨rfl, Nat.le_refl _⟩) hm).1
  have e : IntKind.u64.wrap (IntKind.u64.wrap (bits .and .u8 1 127) * 9223372036854775808) = IntKind.u64.wrap (((1 : Nat) : Int) % 128 * 2 ^ (7 * 9)) := by decide +kernel
  rw [e, h]; rfl

def vtakeV (r : Nat × Nat × Nat) : Value := .tuple #[.int .u64 r.1, .int .i64 r.2.1, .int .i64 r.2.2]

set_option maxHeartbeats 1000000 in
theorem vtake_any (a : Option Addr) (len cap : Nat) (zs : List Int) (w : World) (hl : len ≤ 1000000) (hsl : Sl .u8 w a len cap zs) (hz : ∀ n ∈ zs, (Lit.int .u8 n).wf = true) :
    Calls Try.prog 70 #[.slice a len cap] w fun e w' => e = .returned (vtakeV (takeS zs 0 0)) ∧ w' = w := by
  obtain ⟨rfl, -, -, -, hr⟩ := hsl
  go_enter Try.func70, Try.ntmps70
  go_wp2_with fail
  go_loop [5, 10] (fun u i => ∃ (k m : Nat), k ≤ zs.length ∧ k ≤ 9 ∧ i = .int .i64 k ∧ u = .int .u64 m ∧ m < 128 ^ k ∧ takeS (zs.drop k) k m = takeS zs 0 0) (fun _ i => zs.length - (intOf i).toNat)
  case atStart => exact ⟨0, 0, Nat.zero_le _, Nat.zero_le _, rfl, rfl, by decide, rfl⟩
  case round =>
    obtain ⟨k, m, hk, hk9, rfl, rfl, hm, hs⟩ := hrel
    have HS := hid hs
    have HM := hid hm
    clear hs hm
    by_cases hlt : k < zs.length
    · obtain ⟨b, off, rfl, hc⟩ := hr k hlt
      have HD := hid (drop_step zs k hlt)
      have hb := bounds_u8 (hz _ (List.getElem_mem hlt))
      have he : zs.getD k 0 = zs[k] := by simp [hlt]
      rw [← he] at hb
      generalize zs.getD k 0 = x at *
      clear he hr hz
      obtain ⟨c, rfl⟩ := Int.eq_ofNat_of_zero_le hb.1
      by_cases h9 : k = 9
      · subst h9
        by_cases h1 : 1 < c
        · go_wp2
          go_ret3
          exact ⟨by rw [← HS.out, HD.out, takeS_tenth _ _ _ (by omega)]; rfl, rfl⟩
        · by_cases h0 : c = 0
          · subst h0
            go_wp2
            go_ret3
            exact ⟨by rw [← HS.out, HD.out, takeS_zero ((0 : Nat) : Int) _ _ _ rfl (by omega)]; rfl, rfl⟩
          · obtain rfl : c = 1 := by omega
            have H9 := hid (take_or9 m HM.out)
            go_wp2
            go_ret3
            refine ⟨?_, rfl⟩
            rw [← HS.out, HD.out, takeS_last _ _ _ _ (by omega) (by omega) (by omega)]
            show _ = Ending.returned (Value.tuple #[.int .u64 ((m + 128 ^ 9 * ((1 : Int) % 128).toNat : Nat) : Int), .int .i64 10, .int .i64 0])
            rw [← H9.out]; rfl
      · have hand := and127 c (by omega)
        obtain ⟨hor, hlt1, hlt2⟩ := take_or m c k (Or.inl (by omega)) HM.out
        have hcm : Go.RowKit.Hid (((c : Int) % 128).toNat = c % 128) := hid (by omega)
        generalize HX : m + 128 ^ k * (c % 128) = X at *
        have HX2 := hid HX
        have hlt1h := hid hlt1
        clear HX hlt1
        by_cases h1 : 127 < c
        · go_wp2
          go_round
          case rel => exact ⟨k + 1, X, by omega, by omega, by go_num, rfl, hlt1h.out, by rw [← HS.out, HD.out, takeS_more _ _ _ _ (by omega) (by omega), hcm.out, HX2.out]⟩
          case measure => simp [intOf]; omega
        · by_cases h0 : c = 0 ∧ 0 < k
          · obtain ⟨hc0, hk0⟩ := h0
            have hcz : ((c : Int) == 0) = true := by simp [hc0]
            have HC := hid hc0
            clear hc0
            go_wp2
            go_ret3
            exact ⟨by rw [← HS.out, HD.out, takeS_zero _ _ _ _ (by have := HC.out; omega) (by omega)]; rfl, rfl⟩
          · have HV : Go.RowKit.Hid (takeS zs 0 0 = (X, k + 1, 0)) := hid (by rw [← HS.out, HD.out, takeS_last _ _ _ _ (by omega) (by omega) (by omega), hcm.out, HX2.out])
            by_cases hc0 : c = 0
            · have hcz : ((c : Int) == 0) = true := by simp [hc0]
              have hk0 : k ≤ 0 := by omega
              clear hc0 h0
              go_wp2
              go_ret3
              exact ⟨by rw [HV.out]; rfl, rfl⟩
            · have hcz : ((c : Int) == 0) = false := by simp; omega
              clear hc0 h0
              go_wp2
              go_ret3
              exact ⟨by rw [HV.out]; rfl, rfl⟩
    · go_wp2
      go_ret3
      exact ⟨by rw [← HS.out, show k = zs.length from by omega, List.drop_length, takeS_nil]; rfl, rfl⟩

theorem rzig_any (n : Int) (w : World) (h1 : -9223372036854775808 ≤ n) (h2 : n ≤ 9223372036854775807) :
    Calls Try.prog 74 #[.int .i64 n] w fun e w' => e = .returned (.int .u64 (zigS n)) ∧ w' = w := by
  by_cases h : n < 0
  · have HV : Go.RowKit.Hid (zigS n = _) := if_pos h
    go_enter Try.func74, Try.ntmps74
    go_wp2
    go_ret
    exact ⟨ret_int (by rw [HV.out]; omega), rfl⟩
  · have HV : Go.RowKit.Hid (zigS n = _) := if_neg h
    go_enter Try.func74, Try.ntmps74
    go_wp2
    go_ret
    exact ⟨ret_int (by rw [HV.out]), rfl⟩

theorem rzag_any (n : Int) (w : World) (h1 : 0 ≤ n) (h2 : n ≤ 18446744073709551615) :
    Calls Try.prog 43 #[.int .u64 n] w fun e w' => e = .returned (.int .i64 (zagS n)) ∧ w' = w := by
  by_cases h : n % 2 = 1
  · have HV : Go.RowKit.Hid (zagS n = _) := if_pos h
    have hb : (n % 2 == 1) = true := by simp [h]
    go_enter Try.func43, Try.ntmps43
    go_wp2
    go_ret
    exact ⟨ret_int (by rw [HV.out]), rfl⟩
  · have HV : Go.RowKit.Hid (zagS n = _) := if_neg h
    have hb : (n % 2 == 1) = false := by simp; omega
    go_enter Try.func43, Try.ntmps43
    go_wp2
    go_ret
    exact ⟨ret_int (by rw [HV.out]), rfl⟩

set_option maxHeartbeats 1000000 in
theorem rvput_any (u : Nat) (w : World) (hu2 : u ≤ 18446744073709551615) :
    Calls Try.prog 72 #[.int .u64 u] w fun e w' => ∃ a cap, e = .returned (.slice a (vpS u).length cap) ∧ Own .u8 5 w' w.heap.size (.slice a (vpS u).length cap) (vpS u) ∧ Below w.heap.size w w' := by
  go_enter Try.func72, Try.ntmps72
  go_wp2_with fail
  go_loopw [0, 3] (fun x v wr => ∃ (m f : Nat) (ys : List Int) (a : Option Addr) (cap : Nat), x = .int .u64 m ∧ v = .slice a ys.length cap ∧ m < 128 ^ (f + 1) ∧ m ≤ 18446744073709551615 ∧ ys.length + f ≤ 10 ∧ Own .u8 5 wr w.heap.size (.slice a ys.length cap) ys ∧ Below w.heap.size w wr ∧ ys ++ vpF f m = vpS u) (fun x _ _ => (intOf x).toNat)
  case atStart => exact ⟨u, 9, [], none, 0, rfl, rfl, by omega, hu2, by simp, Own.nil _ _ _ _, Below.refl _ _, rfl⟩
  case round =>
    obtain ⟨m, f, ys, a, cap, rfl, rfl, hm, hm2, hyl, hown, hbel, he⟩ := hrel
    have HE := hid he
    have HM := hid hm
    have hsz := hbel.size
    clear he hm
    by_cases hlt : 127 < m
    · go_wp2_with (first
        | (at_builtin; refine wpList_app1 wr w rfl (.tmp 6) (.tmp 11) 22 rfl w.heap.size w.heap.size 5 .u8 1 bytesOf (.slice a ys.length cap) ys rfl hown ((m : Int) % 128 + 128) rfl (by omega) (by decide) hbel (Nat.le_refl _) hsz ?_))
      intro a1 cap1 W1 own1 bel1
      clear hown hbel hsz
      go_wp2_with fail
      go_roundw
      case rel =>
        cases f with
        | zero => exact absurd HM.out (by omega)
        | succ f => exact ⟨m / 128, f, ys ++ [(m : Int) % 128 + 128], a1, cap1, by go_num, by simp, by have := HM.out; rw [Nat.pow_succ] at this; exact (Nat.div_lt_iff_lt_mul (by decide)).2 this, by omega, by simp; omega, by simpa using own1, bel1, by rw [← HE.out, vpF_more f m hlt, List.append_assoc]; rfl⟩
      case measure => simp [intOf]; omega
    · go_wp2_with (first
        | (at_builtin; refine wpList_app1 wr w rfl (.tmp 15) (.tmp 18) 22 rfl w.heap.size w.heap.size 5 .u8 1 bytesOf (.slice a ys.length cap) ys rfl hown (m : Int) rfl (by omega) (by decide) hbel (Nat.le_refl _) hsz ?_))
      intro a1 cap1 W1 own1 bel1
      have hfin : ys ++ [(m : Int)] = vpS u := by rw [← HE.out, vpF_last f m hlt]
      have hfl : ys.length + 1 = (vpS u).length := by rw [← hfin]; simp
      rw [hfin] at own1
      rw [hfl] at own1 ⊢
      have hh := hid own1
      clear hown hbel hsz hfin hfl own1
      go_wp2_with fail
      go_ret
      exact ⟨a1, cap1, rfl, hh.out, bel1⟩


end Go.Proofs.Ytlfbhfmchdbnoaa

/- What Ints, Parse and the document's answers for layer 3 come to: contracts, by walking their text. -/
namespace Go.Proofs.Ytlfbhfmchdbnoaa
open Go.ChangeShapes Go.WideShapes Go.ChangeAt Go.RowKit
set_option linter.unusedVariables false

def ParseOk (w : World) (r : List Int × Nat × Nat) (e : Ending) (w' : World) : Prop := ∃ a cap, e = .returned (.tuple #[.slice a r.1.length cap, .int .i64 r.2.1, .int .i64 r.2.2]) ∧ Own .i64 2 w' w.heap.size (.slice a r.1.length cap) r.1 ∧ Below w.heap.size w w'

theorem parse_none (w w' : World) (r : List Int × Nat × Nat) (e : Nat) (hr : r = ([], 0, e)) (hb : Below w.heap.size w w') : ParseOk w r (.returned (.tuple #[.slice none 0 0, .int .i64 0, .int .i64 e])) w' := by
  subst hr; exact ⟨none, 0, rfl, Own.nil _ _ _ _, hb⟩

theorem vdrew2 (w : World) (a b : Nat) : ∃ k, (w.drewN a).drewN b = w.drewN k := ⟨a + b, World.drewN_drewN w a b⟩

theorem vtake_ret (s : Int) (k n : Nat) (h : s = (n : Int)) : Ending.returned (.tuple #[.int .u64 s, .int .i64 ((k : Int) + 1), .int .i64 0]) = .returned (vtakeV (n, k + 1, 0)) := by
  subst h; rfl

set_option maxRecDepth 100000 in
set_option maxHeartbeats 2000000 in
theorem rvtake_any (a : Option Addr) (len cap : Nat) (zs : List Int) (w : World) (hl : len ≤ 1000000) (hsl : Sl .u8 w a len cap zs) (hz : ∀ n ∈ zs, (Lit.int .u8 n).wf = true) :
    Calls Try.prog 42 #[.slice a len cap] w fun e w' => e = .returned (vtakeV (takeS zs 0 0)) ∧ w' = w := by
  obtain ⟨rfl, -, -, -, hr⟩ := hsl
  go_enter Try.func42, Try.ntmps42
  go_wp2_with fail
  go_loop [5, 6, 7] (fun u p i => ∃ (k m q : Nat), k ≤ zs.length ∧ k ≤ 9 ∧ i = .int .i64 k ∧ u = .int .u64 m ∧ p = .int .u64 q ∧ q = 128 ^ k ∧ m < 128 ^ k ∧ takeS (zs.drop k) k m = takeS zs 0 0) (fun _ _ i => zs.length - (intOf i).toNat)
  case atStart => exact ⟨0, 0, 1, Nat.zero_le _, Nat.zero_le _, rfl, rfl, rfl, by decide, by decide, rfl⟩
  case round =>
    obtain ⟨k, m, q, hk, hk9, rfl, rfl, rfl, hq, hm, hs⟩ := hrel
    have HS := hid hs
    have HM := hid hm
    have HQ := hid hq
    have hq9 : q ≤ 9223372036854775808 := by rw [hq]; exact pow128_le k hk9
    clear hs hm hq
    by_cases hlt : k < zs.length
    · obtain ⟨b, off, rfl, hc⟩ := hr k hlt
      have HD := hid (drop_step zs k hlt)
      have hb := bounds_u8 (hz _ (List.getElem_mem hlt))
      have he : zs.getD k 0 = zs[k] := by simp [hlt]
      rw [← he] at hb
      generalize zs.getD k 0 = x at *
      clear he hr hz
      obtain ⟨c, rfl⟩ := Int.eq_ofNat_of_zero_le hb.1
      by_cases h91 : k = 9 ∧ 1 < c
      · obtain ⟨rfl, h1⟩ := h91
        go_wp2
        go_ret3
        exact ⟨by rw [← HS.out, HD.out, takeS_tenth _ _ _ (by omega)]; rfl, rfl⟩
      · obtain ⟨_, hlt1, hlt2⟩ := take_or m c k (by omega) HM.out
        have hcm : Go.RowKit.Hid (((c : Int) % 128).toNat = c % 128) := hid (by omega)
        have hmul : (q : Int) * ((c : Int) % 128) = ((128 ^ k * (c % 128) : Nat) : Int) := by rw [HQ.out]; simp
        generalize HX : 128 ^ k * (c % 128) = X at *
        have HX2 := hid HX
        have hlt1h := hid hlt1
        clear HX hlt1
        have h9b : ((k : Int) == 9 && decide (1 < (c : Int))) = false := by
          by_cases h9 : k = 9
          · have : ¬ 1 < c := fun h => h91 ⟨h9, h⟩
            rw [decide_eq_false (by omega), Bool.and_false]
          · rw [show ((k : Int) == 9) = false from by simp; omega, Bool.false_and]
        by_cases h1 : 127 < c
        · have hk8 : k ≤ 8 := by omega
          have hq8 : q ≤ 72057594037927936 := by
            rw [HQ.out]; have := Nat.pow_le_pow_right (show 0 < 128 by decide) hk8; have e : (128 : Nat) ^ 8 = 72057594037927936 := by decide +kernel
            omega
          have hk9f : ((k : Int) == 9) = false := by simp; omega
          go_wp2
          go_round
          case rel => exact ⟨k + 1, m + X, q * 128, by omega, by omega, by go_num, by go_num, by go_num, by rw [HQ.out, Nat.pow_succ], hlt1h.out, by rw [← HS.out, HD.out, takeS_more _ _ _ _ (by omega) (by omega), hcm.out, HX2.out]⟩
          case measure => simp [intOf]; omega
        · by_cases h0 : c = 0 ∧ 0 < k
          · obtain ⟨hc0, hk0⟩ := h0
            have hcz : ((c : Int) == 0) = true := by simp [hc0]
            have HC := hid hc0
            clear hc0 h91
            have hc1 : c ≤ 1 := by have := HC.out; omega
            by_cases hk9e : k = 9
            · have hk9f : ((k : Int) == 9) = true := by simp [hk9e]
              have HK := hid hk9e
              clear hk9e
              go_wp2
              go_ret3
              exact ⟨by rw [← HS.out, HD.out, takeS_zero _ _ _ _ (by have := HC.out; omega) (by omega)]; rfl, rfl⟩
            · have hk9f : ((k : Int) == 9) = false := by simp; omega
              clear hk9e
              go_wp2
              go_ret3
              exact ⟨by rw [← HS.out, HD.out, takeS_zero _ _ _ _ (by have := HC.out; omega) (by omega)]; rfl, rfl⟩
          · have HV : Go.RowKit.Hid (takeS zs 0 0 = (m + X, k + 1, 0)) := hid (by rw [← HS.out, HD.out, takeS_last _ _ _ _ (by omega) (by omega) (by omega), hcm.out, HX2.out])
            by_cases hk9e : k = 9
            · have hk9f : ((k : Int) == 9) = true := by simp [hk9e]
              have hc1 : c ≤ 1 := by omega
              have hc2 : 1 ≤ c := by omega
              have hcz : ((c : Int) == 0) = false := by simp; omega
              have hk1 : 1 ≤ k := by omega
              clear hk9e h91 h0
              go_wp2
              go_ret3
              exact ⟨by rw [HV.out]; exact vtake_ret _ _ _ (by omega), rfl⟩
            · have hk9f : ((k : Int) == 9) = false := by simp; omega
              clear hk9e h91
              by_cases hc0 : c = 0
              · have hcz : ((c : Int) == 0) = true := by simp [hc0]
                have hk0 : k ≤ 0 := by omega
                clear hc0 h0
                go_wp2
                go_ret3
                exact ⟨by rw [HV.out]; exact vtake_ret _ _ _ (by omega), rfl⟩
              · have hcz : ((c : Int) == 0) = false := by simp; omega
                clear hc0 h0
                go_wp2
                go_ret3
                exact ⟨by rw [HV.out]; exact vtake_ret _ _ _ (by omega), rfl⟩
    · go_wp2
      go_ret3
      exact ⟨by rw [← HS.out, show k = zs.length from by omega, List.drop_length, takeS_nil]; rfl, rfl⟩

end Go.Proofs.Ytlfbhfmchdbnoaa
