/- Package block: Take. -/
import Derived.Test.YtkpncailoekjpaaBlkM
import Derived.Deep.DeepCutAuto
namespace Go.Proofs.Ytkpncailoekjpaa
open Go.ChangeShapes Go.WideShapes Go.ChangeAt Go.RowKit
set_option linter.unusedVariables false
set_option linter.unusedSimpArgs false

theorem entO : CellsOf Try.prog 26 57 14 56 := ⟨Try.underlying26, by kernel_rfl⟩
theorem els_blk {w : World} {cs : Array Value} {E : TypeId} {p m : Nat} (h : w.heap[p]? = some (.cells cs E (0, 0))) (hm : cs.size = m) : Els w m (some ⟨p, 0, none⟩) 1 1 [cs.toList] := by
  refine ⟨rfl, Nat.le_refl _, by unfold maxLen; omega, (fun e => by cases e), fun i x hx => ?_⟩
  obtain rfl : i = 0 := by
    have := (List.getElem?_eq_some_iff.1 hx).1
    simp at this; exact this
  simp at hx
  subst hx
  refine ⟨by simpa using hm, _, 0, rfl, fun j v hj => ?_⟩
  rw [Nat.zero_mul, Nat.add_zero, Nat.zero_add]
  exact held_cell h _ v (by simpa using hj)
theorem entsV_m {l : List En} (h : ∀ x ∈ l, EnOk x) : ∀ x ∈ entsV l, x.length = 14 := fun x hx => by
  obtain ⟨y, hy, rfl⟩ := List.mem_map.1 hx
  have := (h y hy).2.1
  simp [entC, this]
theorem entC_one (x : En) : ∀ y ∈ [entC x], ∀ u ∈ y, u.oneCell' = true := by
  intro y hy u hu
  rw [List.mem_singleton] at hy; subst hy
  unfold entC at hu
  rw [List.mem_cons, List.mem_cons] at hu
  rcases hu with rfl | rfl | hu
  · rfl
  · rfl
  · obtain ⟨z, _, rfl⟩ := List.mem_map.1 hu; rfl
theorem entsV_snoc (l : List En) (x : En) : (entsV (l ++ [x])).flatten = (entsV l).flatten ++ [entC x].flatten := by simp [entsV]
theorem entsV_len (l : List En) : (entsV l).length = l.length := by simp [entsV]
theorem numB1 {zs : List Int} (h : 1 ≤ zs.length) (hb : ∀ x ∈ zs, 0 ≤ x ∧ x ≤ 255) : ((numB (zs.take 1) 1 : Nat) : Int) = zs.getD 0 0 := by
  match zs, h with
  | x :: r, _ =>
    have := hb x (by simp)
    simp [numB]; omega
def TkB (w : World) (r : Int × List En × Int) (e : Ending) (w' : World) : Prop := ∃ (a : Option Addr) (cap : Nat), e = .returned (.tuple #[.agg #[.int .u32 r.1, .slice a r.2.1.length cap], .int .i64 r.2.2]) ∧ Els w' 14 a r.2.1.length cap (entsV r.2.1) ∧ After w w'
theorem tkB_nil {w w' : World} (n : Int) (h : After w w') : TkB w (0, [], n) (.returned (.tuple #[.agg #[.int .u32 0, .slice none 0 0], .int .i64 n])) w' := ⟨none, 0, rfl, Els.nil _ _, h⟩
theorem takB_short {zs : List Int} (h : zs.length < 256) : takB zs = (0, [], 2) := if_pos h
theorem takB_long {zs : List Int} (h : 256 < zs.length) : takB zs = (0, [], 7) := by unfold takB; rw [if_neg (by omega), if_pos h]
theorem takB_sum {zs : List Int} (h : zs.length = 256) (hc : crcOpen zs = none) : takB zs = (0, [], 4) := by unfold takB; rw [if_neg (by omega), if_neg (by omega), hc]
theorem takB_form {zs b : List Int} (h : zs.length = 256) (hc : crcOpen zs = some b) (h1 : b.getD 0 0 ≠ 76 ∨ b.getD 1 0 = 0) : takB zs = (0, [], 3) := by unfold takB; rw [if_neg (by omega), if_neg (by omega), hc]; exact if_pos h1
theorem takB_part {zs b : List Int} (h : zs.length = 256) (hc : crcOpen zs = some b) (ht : tkB (b.drop 6) (b.getD 1 0).toNat = none) : takB zs = (0, [], 3) := by
  unfold takB; rw [if_neg (by omega), if_neg (by omega), hc]; dsimp only; split
  · rfl
  · rw [ht]
theorem takB_full {zs b : List Int} {l : List En} {r : List Int} (h : zs.length = 256) (hc : crcOpen zs = some b) (h1 : ¬ (b.getD 0 0 ≠ 76 ∨ b.getD 1 0 = 0)) (ht : tkB (b.drop 6) (b.getD 1 0).toNat = some (l, r)) : takB zs = if emptyV r then (((numB ((b.drop 2).take 4) 4 : Nat) : Int), l, 0) else (0, [], 3) := by
  unfold takB; rw [if_neg (by omega), if_neg (by omega), hc]; dsimp only; rw [if_neg h1, ht]
theorem int_zero (k : Nat) : ((k : Int) == 0) = decide (k = 0) := by
  by_cases h : k = 0
  · subst h; rfl
  · have e1 : ((k : Int) == 0) = false := by simpa using h
    rw [e1]; simp [h]
theorem entD_len (st : Int × List Int) (first : Bool) (bs : List Int) (h : st.2.length = 12) : (entD st first bs).1.2.2.length = 12 := by
  cases bs with
  | nil => rfl
  | cons c q =>
    rw [entD_cons]
    split
    · exact takK_len q
    · split
      · exact takD_len st.1 h q
      · rfl
end Go.Proofs.Ytkpncailoekjpaa
