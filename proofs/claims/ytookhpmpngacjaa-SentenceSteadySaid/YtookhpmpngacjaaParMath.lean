/- Parity and digits: plain numbers. -/
import Derived.Test.YtookhpmpngacjaaKA
import Derived.Laws.DeepStrings4
namespace Go.Proofs.Ytookhpmpngacjaa
open Go.RowKit
set_option linter.unusedVariables false

def bitB (b : Nat) (i : Nat) : Bool := b / 2 ^ i % 2 == 1
def xorF : Nat → List Nat → Nat
  | c, [] => c
  | c, x :: r => xorF (c ^^^ x) r
def oddF (i : Nat) : Bool → List Nat → Bool
  | o, [] => o
  | o, x :: r => oddF i (o != bitB x i) r
theorem bitB_is (b i : Nat) : bitB b i = b.testBit i := by
  unfold bitB; rw [Nat.testBit_eq_decide_div_mod_eq]
  by_cases h : b / 2 ^ i % 2 = 1 <;> simp [h]
theorem bitB_xor (a b i : Nat) : bitB (a ^^^ b) i = (bitB a i != bitB b i) := by
  rw [bitB_is, bitB_is, bitB_is, Nat.testBit_xor]
theorem oddF_xor (i : Nat) (l : List Nat) : ∀ c, bitB (xorF c l) i = oddF i (bitB c i) l := by
  induction l with
  | nil => intro c; rfl
  | cons x r ih => intro c; show bitB (xorF (c ^^^ x) r) i = _; rw [ih, bitB_xor]; try rfl
theorem bitB_zero (i : Nat) : bitB 0 i = false := by rw [bitB_is]; exact Nat.zero_testBit i
theorem oddF_zero (i : Nat) (l : List Nat) : oddF i false l = bitB (xorF 0 l) i := by rw [oddF_xor, bitB_zero]
theorem xor_lt {a b : Nat} (ha : a < 256) (hb : b < 256) : a ^^^ b < 256 := Nat.xor_lt_two_pow (n := 8) ha hb
theorem xorF_lt (l : List Nat) : ∀ c, c < 256 → (∀ x ∈ l, x < 256) → xorF c l < 256 := by
  induction l with
  | nil => intro c h _; exact h
  | cons x r ih => intro c h hl; exact ih _ (xor_lt h (hl x (by simp))) (fun y hy => hl y (by simp [hy]))
theorem bitB_step (x i : Nat) : x % 2 ^ (i + 1) = x % 2 ^ i + (if bitB x i then 2 ^ i else 0) := by
  rw [Nat.pow_succ, Nat.mod_mul]
  unfold bitB
  rcases Nat.mod_two_eq_zero_or_one (x / 2 ^ i) with h | h <;> simp [h]

/-- Which digit: 16 for none. -/
def dgN (c : Nat) : Nat := if 48 ≤ c ∧ c ≤ 57 then c - 48 else if 65 ≤ c ∧ c ≤ 70 then c - 55 else if 97 ≤ c ∧ c ≤ 102 then c - 87 else 16
def dgV (c : Nat) : Nat := if dgN c = 16 then 0 else dgN c
def dgOk (c : Nat) : Bool := dgN c != 16
def dgI (c : Nat) : Int := if dgN c = 16 then -1 else dgN c
def dj (i : Nat) : Nat := if i < 10 then 48 + i else 55 + i
def upc (c : Nat) : Nat := if 97 ≤ c ∧ c ≤ 102 then c - 32 else c
theorem dgN_le (c : Nat) : dgN c ≤ 16 := by unfold dgN; split <;> (try split) <;> (try split) <;> omega
theorem dg_hit (c i : Nat) (hi : i < 16) (h : upc c = dj i) : dgN c = i := by
  unfold upc dj at h; unfold dgN
  split at h <;> split at h <;> (split <;> (try split) <;> (try split) <;> omega)
theorem dg_miss (c : Nat) (h : ∀ i, i < 16 → upc c ≠ dj i) : dgN c = 16 := by
  unfold dgN
  split
  · rename_i hc; exfalso; refine h (c - 48) (by omega) ?_; unfold upc dj; rw [if_neg (by omega), if_pos (by omega)]; omega
  · split
    · rename_i hc; exfalso; refine h (c - 55) (by omega) ?_; unfold upc dj; rw [if_neg (by omega), if_neg (by omega)]; omega
    · split
      · rename_i hc; exfalso; refine h (c - 87) (by omega) ?_; unfold upc dj; rw [if_pos (by omega), if_neg (by omega)]; omega
      · rfl
theorem dg_high (c : Nat) (h : 128 ≤ c) : dgN c = 16 := by unfold dgN; rw [if_neg (by omega), if_neg (by omega), if_neg (by omega)]
theorem digs_at : ∀ k, k < 16 → (sb ⟨#[48, 49, 50, 51, 52, 53, 54, 55, 56, 57, 65, 66, 67, 68, 69, 70]⟩).getD k 0 = dj k := by decide
theorem dj_lt (i : Nat) (h : i < 16) : dj i < 128 := by unfold dj; split <;> omega

theorem Iter.nextA {P : Program} {w : World} {b : Nat} {s : ByteArray} {pos : Nat} (h : Iter w b s pos) (hp : pos < s.size) (x : Nat) (hx : (sb s).getD pos 0 = x) (ha : x < 128) (ty : TypeId) :
    (Instr.next (.pointer (some ⟨b, 0, none⟩)) true ty).run P w = .ok (.tuple #[.bool true, .int .i64 pos, .int .i32 x]) (itAt w b s (pos + 1)) := by
  rw [sb_get s pos hp] at hx
  rw [Iter.next h hp, decode_ascii s pos hp (by omega), hx]

/-- One digit, two digits. -/
def hx1 (i : Nat) : ByteArray := ⟨#[UInt8.ofNat (dj i)]⟩
def hexS (b : Nat) : ByteArray := hx1 (b / 16) ++ hx1 (b % 16)
theorem hx1_at : ∀ k, k < 16 → (⟨#[48, 49, 50, 51, 52, 53, 54, 55, 56, 57, 65, 66, 67, 68, 69, 70]⟩ : ByteArray).extract k (k + 1) = hx1 k := by
  intro k hk
  have : ∀ k, k < 16 → ((⟨#[48, 49, 50, 51, 52, 53, 54, 55, 56, 57, 65, 66, 67, 68, 69, 70]⟩ : ByteArray).extract k (k + 1)).data.toList = (hx1 k).data.toList := by decide
  have h := this k hk
  cases h1 : (⟨#[48, 49, 50, 51, 52, 53, 54, 55, 56, 57, 65, 66, 67, 68, 69, 70]⟩ : ByteArray).extract k (k + 1)
  cases h2 : hx1 k
  rw [h1, h2] at h
  simp at h
  rw [h]
theorem strslice {P : Program} (t : TypeId) (ht : P.underlying t = some .string) (s : ByteArray) (l h : Nat) (hl : l ≤ h) (hh : h ≤ s.size) (k kh : IntKind) (L H : Int) (eL : L = l) (eH : H = h) (w : World) :
    (Instr.slice t (.string s) (some (.int k L)) (some (.int kh H)) none).run P w = .ok (.string (s.extract l h)) w := by
  subst eL eH
  rw [run_slice_string_if w t s k kh l h ht, if_pos (by omega), if_pos (by omega)]
  rfl

/-- The byte that two digits are. -/
def unhP (s : ByteArray) : Prop := s.size = 2 ∧ dgN ((sb s).getD 0 0) < 16 ∧ dgN ((sb s).getD 1 0) < 16
instance (s : ByteArray) : Decidable (unhP s) := by unfold unhP; infer_instance
def unhV (s : ByteArray) : Nat := if unhP s then 16 * dgN ((sb s).getD 0 0) + dgN ((sb s).getD 1 0) else 0
def unhOk (s : ByteArray) : Bool := decide (unhP s)
def sealT (s : ByteArray) : ByteArray := s ++ ⟨#[42]⟩ ++ hexS (xorF 0 (sb s))
def opnP (s : ByteArray) : Prop := 3 ≤ s.size ∧ (sb s).getD (s.size - 3) 0 = 42 ∧ unhOk (s.extract (s.size - 2) s.size) = true ∧ unhV (s.extract (s.size - 2) s.size) = xorF 0 (sb (s.extract 0 (s.size - 3)))
instance (s : ByteArray) : Decidable (opnP s) := by unfold opnP; infer_instance
def opnV (s : ByteArray) : ByteArray := if opnP s then s.extract 0 (s.size - 3) else ⟨#[]⟩
def opnOk (s : ByteArray) : Bool := decide (opnP s)

theorem unhV_no {s : ByteArray} (h : ¬ unhP s) : unhV s = 0 ∧ unhOk s = false := ⟨by unfold unhV; rw [if_neg h], by unfold unhOk; rw [decide_eq_false h]⟩
theorem unhV_yes {s : ByteArray} (h : unhP s) : unhV s = 16 * dgN ((sb s).getD 0 0) + dgN ((sb s).getD 1 0) ∧ unhOk s = true := ⟨by unfold unhV; rw [if_pos h], by unfold unhOk; rw [decide_eq_true h]⟩
/-- k digits read. -/
def stP (s : ByteArray) (k m : Nat) : Prop := (k = 0 ∧ m = 0) ∨ (k = 1 ∧ m = dgN ((sb s).getD 0 0) ∧ m < 16) ∨ (k = 2 ∧ unhP s ∧ m = unhV s)
theorem st_le {s : ByteArray} {k m : Nat} (h : stP s k m) (hk : k < 2) : m < 16 := by unfold stP at h; omega
theorem st_step {s : ByteArray} {k m : Nat} (h : stP s k m) (hk : k < 2) (hs : s.size = 2) (hd : dgN ((sb s).getD k 0) < 16) : stP s (k + 1) (16 * m + dgN ((sb s).getD k 0)) := by
  rcases h with ⟨rfl, rfl⟩ | ⟨rfl, rfl, h⟩ | ⟨rfl, -⟩
  · exact .inr (.inl ⟨rfl, by omega, by omega⟩)
  · have hp : unhP s := ⟨hs, h, hd⟩
    exact .inr (.inr ⟨rfl, hp, (unhV_yes hp).1.symm⟩)
  · omega
theorem st_no {s : ByteArray} {k m : Nat} (hk : k < 2) (hd : dgN ((sb s).getD k 0) = 16) : ¬ unhP s := by
  intro h
  rcases Nat.lt_or_ge k 1 with h1 | h1
  · obtain rfl : k = 0 := by omega
    have := h.2.1; omega
  · obtain rfl : k = 1 := by omega
    have := h.2.2; omega
theorem st_end {s : ByteArray} {m : Nat} (h : stP s 2 m) : unhV s = m ∧ unhOk s = true := by
  rcases h with ⟨h, -⟩ | ⟨h, -⟩ | ⟨-, hp, hm⟩
  · omega
  · omega
  · exact ⟨hm.symm, (unhV_yes hp).2⟩
theorem dg_join (m d : Nat) (hm : m < 16) (hd : d < 16) : bits .or .u8 ((m : Int) * 16) (d : Int) = ((16 * m + d : Nat) : Int) := by
  have h := u8_or_nat (m * 16) d (by omega) (by omega)
  rw [nat_join 4 (m * 16) d (by omega) (by omega)] at h
  rw [show ((m : Int) * 16) = ((m * 16 : Nat) : Int) from by omega, h]
  omega
theorem opn_is (s : ByteArray) (n : Nat) (hn : s.size = n + 3) : opnP s ↔ (sb s).getD n 0 = 42 ∧ unhOk (s.extract (n + 1) (n + 3)) = true ∧ unhV (s.extract (n + 1) (n + 3)) = xorF 0 (sb (s.extract 0 n)) := by
  unfold opnP
  rw [hn, show n + 3 - 3 = n from rfl, show n + 3 - 2 = n + 1 from rfl]
  constructor
  · exact fun h => h.2
  · exact fun h => ⟨by omega, h⟩
theorem opn_no {s : ByteArray} (h : ¬ opnP s) : opnV s = ⟨#[]⟩ ∧ opnOk s = false := ⟨by unfold opnV; rw [if_neg h], by unfold opnOk; rw [decide_eq_false h]⟩
theorem opn_yes {s : ByteArray} (n : Nat) (hn : s.size = n + 3) (h : opnP s) : opnV s = s.extract 0 n ∧ opnOk s = true := ⟨by unfold opnV; rw [if_pos h, hn]; rfl, by unfold opnOk; rw [decide_eq_true h]⟩
theorem ret_tup {a a' b b' : Value} (h : a' = a) (h2 : b' = b) : Ending.returned (.tuple #[a, b]) = Ending.returned (.tuple #[a', b']) := by rw [h, h2]

end Go.Proofs.Ytookhpmpngacjaa
