/- What is sealed, and one byte made another one: plain numbers. -/
import Derived.Test.YtookhpmpngacjaaLaw07
namespace Go.Proofs.Ytookhpmpngacjaa
open Go.RowKit
set_option linter.unusedVariables false

theorem sb_append (a b : ByteArray) : sb (a ++ b) = sb a ++ sb b := by simp [sb]
theorem sb_extract (a : ByteArray) (i j : Nat) : sb (a.extract i j) = ((sb a).drop i).take (j - i) := by
  simp [sb, List.extract_eq_take_drop, List.map_take, List.map_drop]
theorem sb_hx1 : ∀ i, i < 16 → sb (hx1 i) = [dj i] := by decide
theorem sb_hexS (b : Nat) (hb : b < 256) : sb (hexS b) = [dj (b / 16), dj (b % 16)] := by
  unfold hexS; rw [sb_append, sb_hx1 _ (by omega), sb_hx1 _ (by omega)]; rfl
theorem dg_dj : ∀ i, i < 16 → dgN (dj i) = i := by decide
def lowc (c : Nat) : Nat := if 65 ≤ c ∧ c ≤ 70 then c + 32 else c
theorem dg_low : ∀ i, i < 16 → dgN (lowc (dj i)) = i := by decide
theorem low_lt : ∀ i, i < 16 → lowc (dj i) < 256 := by decide
theorem unh_of (t : ByteArray) (x y : Nat) (h : sb t = [x, y]) (hx : dgN x < 16) (hy : dgN y < 16) : unhV t = 16 * dgN x + dgN y ∧ unhOk t = true := by
  have hs : t.size = 2 := by rw [← sb_len, h]; rfl
  have h0 : (sb t).getD 0 0 = x := by rw [h]; rfl
  have h1 : (sb t).getD 1 0 = y := by rw [h]; rfl
  have hp : unhP t := ⟨hs, by rw [h0]; exact hx, by rw [h1]; exact hy⟩
  have := unhV_yes hp
  rw [h0, h1] at this
  exact this
theorem unh_hexS (b : Nat) (hb : b < 256) : unhV (hexS b) = b ∧ unhOk (hexS b) = true := by
  have h := unh_of _ _ _ (sb_hexS b hb) (by rw [dg_dj _ (by omega)]; omega) (by rw [dg_dj _ (by omega)]; omega)
  rw [dg_dj _ (by omega), dg_dj _ (by omega)] at h
  exact ⟨by rw [h.1]; omega, h.2⟩
/-- The first k digits of b, small. -/
def lws (b k : Nat) : ByteArray := ⟨(((sb (hexS b)).take k).map fun c => UInt8.ofNat (lowc c)).toArray⟩
theorem lws_step (b k : Nat) (h : k < (sb (hexS b)).length) : lws b k ++ ⟨#[UInt8.ofNat (lowc ((sb (hexS b)).getD k 0))]⟩ = lws b (k + 1) := by
  refine ba_ext ?_
  simp [lws]
  rw [List.take_add_one]
  simp [h]
theorem unh_lws (b : Nat) (hb : b < 256) : unhV (lws b 2) = b ∧ unhOk (lws b 2) = true := by
  have e : sb (lws b 2) = [lowc (dj (b / 16)), lowc (dj (b % 16))] := by
    unfold lws
    rw [sb_hexS b hb]
    simp [sb, Nat.mod_eq_of_lt (low_lt (b / 16) (by omega)), Nat.mod_eq_of_lt (low_lt (b % 16) (by omega))]
  have h := unh_of _ _ _ e (by rw [dg_low _ (by omega)]; omega) (by rw [dg_low _ (by omega)]; omega)
  rw [dg_low _ (by omega), dg_low _ (by omega)] at h
  exact ⟨by rw [h.1]; omega, h.2⟩

theorem xorF_shift (l : List Nat) : ∀ c d, xorF (c ^^^ d) l = xorF c l ^^^ d := by
  induction l with
  | nil => intro c d; rfl
  | cons x r ih =>
    intro c d
    show xorF (c ^^^ d ^^^ x) r = xorF (c ^^^ x) r ^^^ d
    rw [Nat.xor_assoc, Nat.xor_comm d x, ← Nat.xor_assoc, ih]
theorem xorF_set (l : List Nat) : ∀ c i x, i < l.length → xorF c (l.set i x) = xorF c l ^^^ (l.getD i 0 ^^^ x) := by
  induction l with
  | nil => intro c i x h; simp at h
  | cons y r ih =>
    intro c i x h
    cases i with
    | zero =>
      show xorF (c ^^^ x) r = xorF (c ^^^ y) r ^^^ (y ^^^ x)
      rw [xorF_shift, xorF_shift, Nat.xor_assoc, ← Nat.xor_assoc y y x, Nat.xor_self, Nat.zero_xor]
    | succ i => exact ih _ i x (by simpa using h)
theorem xor_same (a b : Nat) : a ^^^ b = a ↔ b = 0 := by
  constructor
  · intro h
    have : a ^^^ (a ^^^ b) = 0 := by rw [h, Nat.xor_self]
    rw [← Nat.xor_assoc, Nat.xor_self, Nat.zero_xor] at this
    exact this
  · rintro rfl; exact Nat.xor_zero a
theorem xor_zero (a b : Nat) : a ^^^ b = 0 ↔ b = a := by
  constructor
  · intro h
    have : a ^^^ (a ^^^ b) = a := by rw [h, Nat.xor_zero]
    rw [← Nat.xor_assoc, Nat.xor_self, Nat.zero_xor] at this
    exact this
  · rintro rfl; exact Nat.xor_self _

/-- A text with a sum behind it. -/
theorem opn_form (T : ByteArray) (l : List Nat) (X : Nat) (hX : X < 256) (hT : sb T = l ++ [42, dj (X / 16), dj (X % 16)]) :
    T.size = l.length + 3 ∧ opnOk T = decide (xorF 0 l = X) ∧ (xorF 0 l = X → sb (opnV T) = l) := by
  have hs : T.size = l.length + 3 := by rw [← sb_len, hT]; simp
  have h0 : (sb T).getD l.length 0 = 42 := by rw [hT]; simp
  have h1 : sb (T.extract (l.length + 1) (l.length + 3)) = [dj (X / 16), dj (X % 16)] := by
    have e9 : List.drop (l.length + 1) (l ++ [42, dj (X / 16), dj (X % 16)]) = [dj (X / 16), dj (X % 16)] := by
      rw [List.drop_append]; simp
    rw [sb_extract, hT, e9]
    rw [show l.length + 3 - (l.length + 1) = 2 from by omega]; rfl
  have h2 : sb (T.extract 0 l.length) = l := by rw [sb_extract, hT]; simp
  have h3 := unh_of _ _ _ h1 (by rw [dg_dj _ (by omega)]; omega) (by rw [dg_dj _ (by omega)]; omega)
  rw [dg_dj _ (by omega), dg_dj _ (by omega), show 16 * (X / 16) + X % 16 = X from by omega] at h3
  have hI := opn_is T l.length hs
  rw [h0, h3.1, h3.2, h2] at hI
  refine ⟨hs, ?_, ?_⟩
  · unfold opnOk
    rw [decide_eq_decide, hI]
    exact ⟨fun h => h.2.2.symm, fun h => ⟨rfl, rfl, h.symm⟩⟩
  · intro h
    rw [(opn_yes l.length hs (hI.2 ⟨rfl, rfl, h.symm⟩)).1]
    exact h2
theorem sb_sealT (s : ByteArray) : sb (sealT s) = sb s ++ [42, dj (xorF 0 (sb s) / 16), dj (xorF 0 (sb s) % 16)] := by
  unfold sealT
  rw [sb_append, sb_append, sb_hexS _ (xorF_lt _ 0 (by omega) (sb_lt s)), List.append_assoc]
  rfl
theorem open_sealT (s : ByteArray) : (sealT s).size = s.size + 3 ∧ opnOk (sealT s) = true ∧ opnV (sealT s) = s := by
  have h := opn_form (sealT s) (sb s) _ (xorF_lt _ 0 (by omega) (sb_lt s)) (sb_sealT s)
  rw [sb_len] at h
  exact ⟨h.1, by rw [h.2.1, decide_eq_true rfl], sb_inj (h.2.2 rfl)⟩
/-- One byte made another one. -/
theorem open_oneT (s T : ByteArray) (i x : Nat) (hi : i < s.size) (hT : sb T = (sb (sealT s)).set i x) : opnOk T = decide (x = (sb s).getD i 0) := by
  rw [sb_sealT, List.set_append_left _ _ (by rw [sb_len]; exact hi)] at hT
  have h := opn_form T _ _ (xorF_lt _ 0 (by omega) (sb_lt s)) hT
  rw [h.2.1, xorF_set _ _ _ _ (by rw [sb_len]; exact hi), decide_eq_decide, xor_same, xor_zero]
theorem cut_set (l : List Nat) (i x : Nat) (hi : i < l.length) : l.take i ++ [x] ++ l.drop (i + 1) = l.set i x := by
  rw [List.set_eq_take_append_cons_drop, if_pos hi]; simp

end Go.Proofs.Ytookhpmpngacjaa
