/- Package block: Put. -/
import Derived.Test.YtlfbhfmchdbnoaaKM
import Derived.Test.YtlfbhfmchdbnoaaRec8
import Derived.Deep.DeepCutAuto
namespace Go.Proofs.Ytlfbhfmchdbnoaa
open Go.ChangeShapes Go.WideShapes Go.ChangeAt Go.RowKit
set_option linter.unusedVariables false
set_option linter.unusedSimpArgs false

theorem bytesL1 (n : Int) : bytesL n 1 = [n % 256] := by
  show [n / 2 ^ (8 * 0) % 256] = [n % 256]
  simp
theorem fit1 {t : Int} (h0 : 0 ≤ t) (h1 : t ≤ 255) : fitU 1 t = true := by
  unfold fitU
  exact decide_eq_true ⟨by omega, by omega, by show t < 256 ^ 1; omega⟩
/-- A block's bytes ahead of its entries. -/
def hdr (no n : Int) : List Int := 76 :: n % 256 :: bytesL no 4
theorem hdr_len (no n : Int) : (hdr no n).length = 6 := by rw [hdr, List.length_cons, List.length_cons, bytesL_len]
theorem hdr_parts (no n : Int) : (bytesL 76 1 ++ bytesL n 1) ++ bytesL no 4 = hdr no n := by
  rw [bytesL1, bytesL1]; rfl
def keyed : List En → Bool
  | [] => false
  | x :: _ => x.1
def blockB (no : Int) (l : List En) : List Int := crcSeal (fill (hdr no l.length ++ entS (0, zer12) l))
def putB (no : Int) (l : List En) : List Int × Int :=
  if keyed l then if 248 < (entS (0, zer12) l).length then ([], 8) else (blockB no l, 0) else ([], 1)
def BpOk (w : World) (r : List Int × Int) (e : Ending) (w' : World) : Prop := ∃ a cap, e = .returned (.tuple #[.slice a r.1.length cap, .int .i64 r.2]) ∧ Own .u8 5 w' w.heap.size (.slice a r.1.length cap) r.1 ∧ After w w'
theorem bp_none {w w' : World} (n : Int) (h : After w w') : BpOk w ([], n) (.returned (.tuple #[.slice none 0 0, .int .i64 n])) w' := ⟨none, 0, rfl, Own.nil _ _ _ _, h⟩
theorem keyV_wf (t : Int) (v : List Int) : ∀ y ∈ keyV t v, (Lit.int .u8 y).wf = true := by
  intro y hy
  unfold keyV keyF at hy
  rw [List.mem_append] at hy
  rcases hy with hy | hy
  · exact byte_wf (bytesL_bd _ _ _ hy).1 (bytesL_bd _ _ _ hy).2
  · obtain ⟨x, hx, hy⟩ := List.mem_flatMap.1 hy
    exact byte_wf (bytesL_bd _ _ _ hy).1 (bytesL_bd _ _ _ hy).2
theorem deltaV_wf {t u : Int} {a b : List Int} (ha : ∀ j, -2147483648 ≤ a.getD j 0 ∧ a.getD j 0 ≤ 2147483647) (hb : ∀ j, -2147483648 ≤ b.getD j 0 ∧ b.getD j 0 ≤ 2147483647) : ∀ y ∈ deltaV t u a b, (Lit.int .u8 y).wf = true := by
  intro y hy
  unfold deltaV at hy
  rw [List.mem_append, List.mem_append] at hy
  have e9 : (128 : Nat) ^ (9 + 1) = 1180591620717411303424 := by decide
  rcases hy with (hy | hy) | hy
  · have hL := late_bd t u
    have := vpF_wf 9 (lateV t u) (by omega) y hy
    exact byte_wf this.1 this.2
  · have hm := mskF_lt a b 12
    have e2 : (2 : Nat) ^ 12 = 4096 := by decide
    have := vpF_wf 9 (mskF a b 12) (by omega) y hy
    exact byte_wf this.1 this.2
  · refine ints_wf _ ?_ y hy
    intro x hx
    obtain ⟨z, hz, rfl⟩ := List.mem_map.1 hx
    have := (chgF_bd ha hb 12 z hz).2.1
    omega
theorem hdr_wf (no n : Int) : ∀ y ∈ hdr no n, (Lit.int .u8 y).wf = true := by
  intro y hy
  rw [hdr, List.mem_cons, List.mem_cons] at hy
  rcases hy with rfl | rfl | hy
  · rfl
  · exact byte_wf (by omega) (by omega)
  · exact byte_wf (bytesL_bd _ _ _ hy).1 (bytesL_bd _ _ _ hy).2
theorem layS_wf {st : Int × List Int} {x : En} (h1 : ∀ y ∈ st.2, -2147483648 ≤ y ∧ y ≤ 2147483647) (hx : EnOk x) : ∀ y ∈ layS st x, (Lit.int .u8 y).wf = true := by
  intro y hy
  unfold layS at hy
  split at hy
  · rw [List.mem_cons] at hy
    rcases hy with rfl | hy
    · rfl
    · exact keyV_wf _ _ _ hy
  · rw [List.mem_cons] at hy
    rcases hy with rfl | hy
    · rfl
    · exact deltaV_wf (get_bd h1) (get_bd hx.2.2) y hy
theorem entS_wf : ∀ (l : List En) (st : Int × List Int), (∀ y ∈ st.2, -2147483648 ≤ y ∧ y ≤ 2147483647) → (∀ x ∈ l, EnOk x) → ∀ y ∈ entS st l, (Lit.int .u8 y).wf = true
  | [], _, _, _, y, hy => by simp [entS] at hy
  | x :: l, st, h1, hx, y, hy => by
    rw [entS, List.mem_append] at hy
    have hx0 := hx x (by simp)
    rcases hy with hy | hy
    · exact layS_wf h1 hx0 y hy
    · exact entS_wf l x.2 hx0.2.2 (fun z hz => hx z (by simp [hz])) y hy
theorem bkey_at {w : World} {a : Option Addr} {m cap : Nat} {l : List En} (hm : l.length = m) (h : Els w 14 a m cap (entsV l)) : (m = 0 → keyed l = false) ∧ (m ≠ 0 → ∃ b off, a = some ⟨b, off, none⟩ ∧ w.cell? ⟨b, off, none⟩ = some (.bool (keyed l))) := by
  cases l with
  | nil => exact ⟨fun _ => rfl, fun e => absurd hm.symm e⟩
  | cons x r =>
    refine ⟨fun e => by rw [← hm] at e; simp at e, fun _ => ?_⟩
    obtain ⟨_, b, off, e, hc⟩ := h.2.2.2.2 0 (entC x) rfl
    exact ⟨b, off, e, by have h1 := hc 0 _ rfl; simpa [keyed] using h1⟩
end Go.Proofs.Ytlfbhfmchdbnoaa
