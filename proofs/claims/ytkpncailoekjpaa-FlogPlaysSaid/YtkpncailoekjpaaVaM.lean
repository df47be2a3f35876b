/- Numbers in as few bytes as they need, in plain numbers and lists. -/
import Derived.Test.YtkpncailoekjpaaKA
namespace Go.Proofs.Ytkpncailoekjpaa

def zigS (n : Int) : Int := if n < 0 then -(2 * n) - 1 else 2 * n
def zagS (u : Int) : Int := if u % 2 = 1 then -(u / 2) - 1 else u / 2
theorem zag_zig (n : Int) : zagS (zigS n) = n := by unfold zigS zagS; split <;> split <;> omega
theorem zig_bd (n : Int) (h1 : -9223372036854775808 ≤ n) (h2 : n ≤ 9223372036854775807) : 0 ≤ zigS n ∧ zigS n ≤ 18446744073709551615 := by unfold zigS; split <;> omega
theorem zag_bd (u : Int) (h1 : 0 ≤ u) (h2 : u ≤ 18446744073709551615) : -9223372036854775808 ≤ zagS u ∧ zagS u ≤ 9223372036854775807 := by unfold zagS; split <;> omega

/-- The bytes of a number. -/
def vpF : Nat → Nat → List Int
  | 0, u => [(u : Int)]
  | f + 1, u => if 127 < u then ((u % 128 + 128 : Nat) : Int) :: vpF f (u / 128) else [(u : Int)]
def vpS (u : Nat) : List Int := vpF 9 u
theorem vpF_len (f : Nat) : ∀ u, (vpF f u).length ≤ f + 1 := by
  induction f with
  | zero => intro u; simp [vpF]
  | succ f ih => intro u; unfold vpF; split
                 · have := ih (u / 128); simp; omega
                 · simp
theorem vpS_len (u : Nat) : (vpS u).length ≤ 10 := vpF_len 9 u
theorem vpF_more (f u : Nat) (h : 127 < u) : vpF (f + 1) u = ((u % 128 + 128 : Nat) : Int) :: vpF f (u / 128) := if_pos h
theorem vpF_last (f u : Nat) (h : ¬ 127 < u) : vpF f u = [(u : Int)] := by
  cases f with
  | zero => rfl
  | succ f => exact if_neg h
theorem vpF_wf (f : Nat) : ∀ u, u < 128 ^ (f + 1) → ∀ n ∈ vpF f u, 0 ≤ n ∧ n ≤ 255 := by
  induction f with
  | zero => intro u h n hn; simp [vpF] at hn; subst hn; omega
  | succ f ih =>
    intro u h n hn
    by_cases hu : 127 < u
    · rw [vpF_more f u hu] at hn
      rcases List.mem_cons.1 hn with rfl | hn
      · omega
      · exact ih (u / 128) (by rw [Nat.pow_succ] at h; exact (Nat.div_lt_iff_lt_mul (by decide)).2 h) n hn
    · rw [vpF_last _ u hu] at hn; simp at hn; subst hn; omega

/-- Take: the number, its bytes, the error. -/
def takeS : List Int → Nat → Nat → Nat × Nat × Nat
  | [], _, _ => (0, 0, 2)
  | c :: r, i, u => if i = 9 ∧ 1 < c then (0, 0, 3) else if 127 < c then takeS r (i + 1) (u + 128 ^ i * (c % 128).toNat) else if c = 0 ∧ 0 < i then (0, 0, 3) else (u + 128 ^ i * (c % 128).toNat, i + 1, 0)
theorem takeS_nil (i u : Nat) : takeS [] i u = (0, 0, 2) := rfl
theorem takeS_tenth (c : Int) (r : List Int) (u : Nat) (h : 1 < c) : takeS (c :: r) 9 u = (0, 0, 3) := if_pos ⟨rfl, h⟩
theorem takeS_more (c : Int) (r : List Int) (i u : Nat) (h : ¬ (i = 9 ∧ 1 < c)) (h2 : 127 < c) : takeS (c :: r) i u = takeS r (i + 1) (u + 128 ^ i * (c % 128).toNat) := by
  rw [takeS, if_neg h, if_pos h2]
theorem takeS_zero (c : Int) (r : List Int) (i u : Nat) (h2 : c = 0) (h3 : 0 < i) : takeS (c :: r) i u = (0, 0, 3) := by
  rw [takeS, if_neg (by omega), if_neg (by omega), if_pos ⟨h2, h3⟩]
theorem takeS_last (c : Int) (r : List Int) (i u : Nat) (h : ¬ (i = 9 ∧ 1 < c)) (h2 : ¬ 127 < c) (h3 : ¬ (c = 0 ∧ 0 < i)) : takeS (c :: r) i u = (u + 128 ^ i * (c % 128).toNat, i + 1, 0) := by
  rw [takeS, if_neg h, if_neg h2, if_neg h3]

theorem drop_step (l : List Int) (k : Nat) (h : k < l.length) : l.drop k = l.getD k 0 :: l.drop (k + 1) := by
  rw [List.drop_eq_getElem_cons h]; simp [h]

/-- What an answer of takeS is. -/
theorem takeS_err (b : List Int) : ∀ (i u : Nat), (takeS b i u).2.2 ≠ 0 → (takeS b i u).1 = 0 ∧ (takeS b i u).2.1 = 0 ∧ ((takeS b i u).2.2 = 2 ∨ (takeS b i u).2.2 = 3) := by
  induction b with
  | nil => intro i u _; exact ⟨rfl, rfl, .inl rfl⟩
  | cons c r ih =>
    intro i u h
    by_cases h1 : i = 9 ∧ 1 < c
    · have e : takeS (c :: r) i u = (0, 0, 3) := if_pos h1
      rw [e]; exact ⟨rfl, rfl, .inr rfl⟩
    · by_cases h2 : 127 < c
      · rw [takeS_more c r i u h1 h2] at h ⊢; exact ih _ _ h
      · by_cases h3 : c = 0 ∧ 0 < i
        · rw [takeS_zero c r i u h3.1 h3.2]; exact ⟨rfl, rfl, .inr rfl⟩
        · rw [takeS_last c r i u h1 h2 h3] at h; exact absurd rfl h

theorem pow128_9 : (128 : Nat) ^ 9 = 9223372036854775808 := by decide +kernel
theorem pow128_le (i : Nat) (h : i ≤ 9) : (128 : Nat) ^ i ≤ 9223372036854775808 := by rw [← pow128_9]; exact Nat.pow_le_pow_right (by decide) h

/-- What is taken, put, is those bytes. -/
theorem vput_take (b : List Int) (hb : ∀ c ∈ b, 0 ≤ c ∧ c ≤ 255) : ∀ (i u : Nat), i ≤ 9 → u < 128 ^ i → (takeS b i u).2.2 = 0 →
    ∃ y, (takeS b i u).1 = u + 128 ^ i * y ∧ vpF (9 - i) y = b.take ((takeS b i u).2.1 - i) ∧ i < (takeS b i u).2.1 ∧ (takeS b i u).2.1 ≤ i + b.length ∧ (0 < i → 0 < y) ∧ u + 128 ^ i * y < 18446744073709551616 := by
  induction b with
  | nil => intro i u _ _ h; exact absurd h (by simp [takeS])
  | cons c r ih =>
    intro i u hi hu h
    obtain ⟨hc0, hc1⟩ := hb c (by simp)
    have hr : ∀ c ∈ r, 0 ≤ c ∧ c ≤ 255 := fun x hx => hb x (by simp [hx])
    by_cases h1 : i = 9 ∧ 1 < c
    · have e : takeS (c :: r) i u = (0, 0, 3) := if_pos h1
      rw [e] at h; exact absurd h (by decide)
    · by_cases h2 : 127 < c
      · have hi9 : i ≤ 8 := by omega
        rw [takeS_more c r i u h1 h2] at h ⊢
        have hm : 128 ^ i * (c % 128).toNat ≤ 128 ^ i * 127 := Nat.mul_le_mul_left _ (by omega)
        obtain ⟨y, e1, e2, e3, e4, e5, e6⟩ := ih hr (i + 1) _ (by omega) (by rw [Nat.pow_succ]; omega) h
        have hy := e5 (by omega)
        have hpw : 128 ^ (i + 1) * y = 128 ^ i * (128 * y) := by rw [Nat.pow_succ, Nat.mul_assoc]
        have hadd : u + 128 ^ i * (c % 128).toNat + 128 ^ (i + 1) * y = u + 128 ^ i * ((c % 128).toNat + 128 * y) := by rw [hpw, Nat.mul_add]; omega
        refine ⟨(c % 128).toNat + 128 * y, by rw [e1, hadd], ?_, by omega, by simp; omega, fun _ => by omega, by rw [← hadd]; exact e6⟩
        rw [show 9 - i = (9 - (i + 1)) + 1 from by omega, vpF_more _ _ (by omega)]
        rw [show (takeS r (i + 1) (u + 128 ^ i * (c % 128).toNat)).2.1 - i = ((takeS r (i + 1) (u + 128 ^ i * (c % 128).toNat)).2.1 - (i + 1)) + 1 from by omega, List.take_succ_cons, ← e2]
        rw [show ((c % 128).toNat + 128 * y) / 128 = y from by omega]
        congr 1
        omega
      · by_cases h3 : c = 0 ∧ 0 < i
        · rw [takeS_zero c r i u h3.1 h3.2] at h; exact absurd h (by decide)
        · rw [takeS_last c r i u h1 h2 h3]
          have hcm : (c % 128).toNat = c.toNat := by omega
          rw [hcm]
          refine ⟨c.toNat, rfl, ?_, by simp, by simp, fun _ => by omega, ?_⟩
          · rw [vpF_last _ _ (by omega)]
            show _ = List.take (i + 1 - i) (c :: r)
            rw [show i + 1 - i = 1 from by omega]
            simp; omega
          · have hp := pow128_le i hi
            by_cases h9 : i = 9
            · subst h9
              have : 128 ^ 9 * c.toNat ≤ 128 ^ 9 * 1 := Nat.mul_le_mul_left _ (by omega)
              omega
            · have h8 : (128 : Nat) ^ (i + 1) ≤ 9223372036854775808 := pow128_le (i + 1) (by omega)
              have : 128 ^ i * c.toNat ≤ 128 ^ i * 127 := Nat.mul_le_mul_left _ (by omega)
              rw [Nat.pow_succ] at h8
              omega

theorem takeS_ok (b : List Int) (hb : ∀ c ∈ b, 0 ≤ c ∧ c ≤ 255) (h : (takeS b 0 0).2.2 = 0) :
    1 ≤ (takeS b 0 0).2.1 ∧ (takeS b 0 0).2.1 ≤ b.length ∧ (takeS b 0 0).1 ≤ 18446744073709551615 ∧ vpS (takeS b 0 0).1 = b.take (takeS b 0 0).2.1 := by
  obtain ⟨y, e1, e2, e3, e4, _, e6⟩ := vput_take b hb 0 0 (by decide) (by decide) h
  have ey : (takeS b 0 0).1 = y := by rw [e1]; omega
  refine ⟨by omega, by omega, by rw [e1]; omega, ?_⟩
  rw [ey]; exact e2

/-- What is put is taken, whatever stands behind it. -/
theorem vtake_put (f : Nat) : ∀ (u i v : Nat) (rest : List Int), i + f = 9 → u < 128 ^ (f + 1) → (0 < i → 0 < u) → 128 ^ i * u < 18446744073709551616 →
    takeS (vpF f u ++ rest) i v = (v + 128 ^ i * u, i + (vpF f u).length, 0) := by
  induction f with
  | zero =>
    intro u i v rest hi hu h0 hb
    obtain rfl : i = 9 := by omega
    have hu1 : u ≤ 1 := by
      apply Nat.le_of_not_lt; intro hh
      have : 128 ^ 9 * 2 ≤ 128 ^ 9 * u := Nat.mul_le_mul_left _ hh
      have := pow128_9
      omega
    have h1 := h0 (by omega)
    obtain rfl : u = 1 := by omega
    show takeS (((1 : Nat) : Int) :: rest) 9 v = _
    rw [takeS_last _ _ _ _ (by omega) (by omega) (by omega)]
    rfl
  | succ f ih =>
    intro u i v rest hi hu h0 hb
    by_cases h : 127 < u
    · rw [vpF_more f u h, List.cons_append, takeS_more _ _ _ _ (by omega) (by omega)]
      have hdm : 128 ^ (i + 1) * (u / 128) + 128 ^ i * (u % 128) = 128 ^ i * u := by
        rw [Nat.pow_succ, Nat.mul_assoc, ← Nat.mul_add, Nat.div_add_mod]
      have hcm : ((((u % 128 + 128 : Nat) : Int)) % 128).toNat = u % 128 := by omega
      rw [hcm, ih (u / 128) (i + 1) _ rest (by omega) (by rw [Nat.pow_succ] at hu; exact (Nat.div_lt_iff_lt_mul (by decide)).2 hu) (fun _ => by omega) (by omega)]
      rw [show v + 128 ^ i * (u % 128) + 128 ^ (i + 1) * (u / 128) = v + 128 ^ i * u from by omega]
      rw [List.length_cons, show i + 1 + (vpF f (u / 128)).length = i + ((vpF f (u / 128)).length + 1) from by omega]
    · rw [vpF_last _ u h, List.singleton_append, takeS_last _ _ _ _ (by omega) (by omega) (by omega)]
      have hcm : ((u : Int) % 128).toNat = u := by omega
      rw [hcm]; rfl

theorem vtake_putS (u : Nat) (rest : List Int) (h : u ≤ 18446744073709551615) : takeS (vpS u ++ rest) 0 0 = (u, (vpS u).length, 0) := by
  have := vtake_put 9 u 0 0 rest rfl (by omega) (by omega) (by omega)
  unfold vpS
  rw [this]; simp

def parseF : Nat → List Int → List Int → Nat → List Int × Nat × Nat
  | 0, _, acc, n => (acc, n, 0)
  | k + 1, b, acc, n => if (takeS b 0 0).2.2 = 0 then parseF k (b.drop (takeS b 0 0).2.1) (acc ++ [zagS (takeS b 0 0).1]) (n + (takeS b 0 0).2.1) else ([], 0, (takeS b 0 0).2.2)
def parseS (b : List Int) (n : Int) : List Int × Nat × Nat := if n < 0 then ([], 0, 1) else parseF n.toNat b [] 0
theorem parseF_yes (k : Nat) (b acc : List Int) (n : Nat) (h : (takeS b 0 0).2.2 = 0) : parseF (k + 1) b acc n = parseF k (b.drop (takeS b 0 0).2.1) (acc ++ [zagS (takeS b 0 0).1]) (n + (takeS b 0 0).2.1) := if_pos h
theorem parseF_no (k : Nat) (b acc : List Int) (n : Nat) (h : (takeS b 0 0).2.2 ≠ 0) : parseF (k + 1) b acc n = ([], 0, (takeS b 0 0).2.2) := if_neg h

def intsS (l : List Int) : List Int := l.flatMap fun n => vpS (zigS n).toNat
theorem parse_ints (l : List Int) (hl : ∀ n ∈ l, -9223372036854775808 ≤ n ∧ n ≤ 9223372036854775807) : ∀ (rest acc : List Int) (n : Nat), parseF l.length (intsS l ++ rest) acc n = (acc ++ l, n + (intsS l).length, 0) := by
  induction l with
  | nil => intro rest acc n; simp [parseF, intsS]
  | cons x r ih =>
    intro rest acc n
    have hx := zig_bd x (hl x (by simp)).1 (hl x (by simp)).2
    have e : intsS (x :: r) ++ rest = vpS (zigS x).toNat ++ (intsS r ++ rest) := by simp [intsS]
    have ht := vtake_putS (zigS x).toNat (intsS r ++ rest) (by omega)
    rw [List.length_cons, e, parseF_yes _ _ _ _ (by rw [ht]), ht]
    show parseF r.length ((vpS (zigS x).toNat ++ (intsS r ++ rest)).drop (vpS (zigS x).toNat).length) (acc ++ [zagS ((zigS x).toNat : Int)]) (n + (vpS (zigS x).toNat).length) = _
    rw [List.drop_left, show (((zigS x).toNat : Nat) : Int) = zigS x from by omega, zag_zig, ih (fun n hn => hl n (by simp [hn]))]
    have e2 : intsS (x :: r) = vpS (zigS x).toNat ++ intsS r := by simp [intsS]
    rw [e2, List.length_append, List.append_assoc, List.singleton_append, Nat.add_assoc]

theorem ints_len (l : List Int) : (intsS l).length ≤ 10 * l.length := by
  induction l with
  | nil => simp [intsS]
  | cons x r ih =>
    have e : intsS (x :: r) = vpS (zigS x).toNat ++ intsS r := by simp [intsS]
    have := vpS_len (zigS x).toNat
    rw [e, List.length_append, List.length_cons]; omega

theorem parseF_len (k : Nat) : ∀ (b acc : List Int) (n : Nat), (∀ c ∈ b, 0 ≤ c ∧ c ≤ 255) → (parseF k b acc n).1.length ≤ acc.length + b.length := by
  induction k with
  | zero => intro b acc n _; simp [parseF]
  | succ k ih =>
    intro b acc n hb
    by_cases h : (takeS b 0 0).2.2 = 0
    · obtain ⟨h1, h2, _⟩ := takeS_ok b hb h
      rw [parseF_yes _ _ _ _ h]
      have := ih (b.drop (takeS b 0 0).2.1) (acc ++ [zagS (takeS b 0 0).1]) (n + (takeS b 0 0).2.1) (fun c hc => hb c (List.mem_of_mem_drop hc))
      rw [List.length_append, List.length_singleton, List.length_drop] at this
      omega
    · rw [parseF_no _ _ _ _ h]; simp
theorem parse_len (b : List Int) (n : Int) (h : b.length ≤ 1000) (hb : ∀ c ∈ b, 0 ≤ c ∧ c ≤ 255) : (parseS b n).1.length ≤ 1000000 := by
  unfold parseS; split
  · simp
  · have := parseF_len n.toNat b [] 0 hb; simp at this; omega
theorem parseF_err (k : Nat) : ∀ (b acc : List Int) (n : Nat), (parseF k b acc n).2.2 ≤ 3 := by
  induction k with
  | zero => intro b acc n; simp [parseF]
  | succ k ih =>
    intro b acc n
    by_cases h : (takeS b 0 0).2.2 = 0
    · rw [parseF_yes _ _ _ _ h]; exact ih _ _ _
    · rw [parseF_no _ _ _ _ h]; have := (takeS_err b 0 0 h).2.2; show (takeS b 0 0).2.2 ≤ 3; omega
theorem parse_err (b : List Int) (n : Int) : (parseS b n).2.2 ≤ 3 := by
  unfold parseS; split
  · exact Nat.le_succ_of_le (Nat.le_succ 1)
  · exact parseF_err _ _ _ _
theorem vwf_byte {n : Int} (h1 : 0 ≤ n) (h2 : n ≤ 255) : (Lit.int .u8 n).wf = true := by
  have h3 : IntKind.u8.min = 0 := rfl
  have h4 : IntKind.u8.max = 255 := rfl
  simp [Lit.wf, h3, h4]; exact ⟨h1, h2⟩
theorem ints_wf (l : List Int) (hl : ∀ n ∈ l, -9223372036854775808 ≤ n ∧ n ≤ 9223372036854775807) : ∀ n ∈ intsS l, (Lit.int .u8 n).wf = true := by
  intro n hn
  obtain ⟨x, hx, hn⟩ := List.mem_flatMap.1 hn
  have hz := zig_bd x (hl x hx).1 (hl x hx).2
  have := vpF_wf 9 (zigS x).toNat (by omega) n hn
  exact vwf_byte this.1 this.2

end Go.Proofs.Ytkpncailoekjpaa
