/- Stage 4: the reference's reader beside the program's. -/
import Derived.Test.YtekilpmmadhpoaaOctet23
namespace Go.Proofs.Ytekilpmmadhpoaa
open Go.ChangeShapes Go.WideShapes Go.ChangeAt Go.RowKit Go.Shelf
set_option linter.unusedVariables false

/-- Does a call get what it asks for? -/
def okO (zs : List Int) (bad : Bool) (o : OpV) : Bool := if o.k = 0 then okU zs bad o.n else if o.k = 1 then okU zs bad o.n else okR zs bad o.n
/-- What is left behind k calls, and whether one failed. -/
def rs (zs : List Int) (f : Nat → OpV) : Nat → List Int × Bool
  | 0 => (zs, false)
  | k + 1 => (gotR (okO (rs zs f k).1 (rs zs f k).2 (f k)) (rs zs f k).1 (f k).n, !okO (rs zs f k).1 (rs zs f k).2 (f k))
theorem rs_sub (zs : List Int) (f : Nat → OpV) : ∀ k, (rs zs f k).1.length ≤ zs.length ∧ ∀ x ∈ (rs zs f k).1, x ∈ zs
  | 0 => ⟨Nat.le_refl _, fun _ h => h⟩
  | k + 1 => by
    obtain ⟨h1, h2⟩ := rs_sub zs f k
    unfold rs gotR
    dsimp only
    split
    · exact ⟨by rw [List.length_drop]; omega, fun x hx => h2 x (List.mem_of_mem_drop hx)⟩
    · exact ⟨by simp, fun x hx => by cases hx⟩
theorem rs_bad (zs : List Int) (f : Nat → OpV) (k : Nat) (h : (rs zs f k).2 = true) : (rs zs f k).1 = [] := by
  cases k with
  | zero => cases h
  | succ k =>
    unfold rs at h ⊢
    dsimp only at h ⊢
    unfold gotR
    rw [if_neg (by simpa using h)]
theorem RSt.other {B Q : Nat} {w w' : World} {zs : List Int} {bad : Bool} {c : Array Value} {T : TypeId} (h : RSt B w zs bad) (hQ : w.heap[Q]? = some (.cells c T (0, 0))) (hv : ∀ (i : Nat) (x : Int), c[i]? ≠ some (.int .u8 x)) (hne : Q ≠ B) (hw : ∀ b, b ≠ Q → w'.heap[b]? = w.heap[b]?) : RSt B w' zs bad := by
  cases bad
  · obtain ⟨a, cap, h1, h2⟩ := h
    exact ⟨a, cap, (hw B (Ne.symm hne)).trans h1, h2.other hQ hv hw⟩
  · exact ⟨(hw B (Ne.symm hne)).trans h.1, h.2⟩
theorem ru_v (B B0 : Nat) (zs : List Int) (bad : Bool) (n : Int) (w : World) (hR : RSt B w zs bad) (hz : ∀ x ∈ zs, (Lit.int .u8 x).wf = true) (hl : zs.length ≤ 1000000) (h1 : B0 ≤ B) :
    Calls Try.prog 46 #[.pointer (some ⟨B, 0, none⟩), .int .i64 n] w fun e w' => e = .returned (.int .u64 ((valU zs bad n : Nat) : Int)) ∧ RSt B w' (gotR (okU zs bad n) zs n) (!okU zs bad n) ∧ Br B B0 w w' := ru_st B B0 zs bad n w hR hz hl h1
theorem ri_v (B B0 : Nat) (zs : List Int) (bad : Bool) (n : Int) (w : World) (hR : RSt B w zs bad) (hz : ∀ x ∈ zs, (Lit.int .u8 x).wf = true) (hl : zs.length ≤ 1000000) (h1 : B0 ≤ B) :
    Calls Try.prog 44 #[.pointer (some ⟨B, 0, none⟩), .int .i64 n] w fun e w' => e = .returned (.int .i64 (valI zs bad n)) ∧ RSt B w' (gotR (okU zs bad n) zs n) (!okU zs bad n) ∧ Br B B0 w w' := ri_st B B0 zs bad n w hR hz hl h1
/-- What the reference has in block Q; its bytes lie in what is given. -/
def QRd (T : TypeId) (W0 : World) (B Q : Nat) (w : World) (zs : List Int) (bad : Bool) : Prop := ∃ a l c, w.heap[Q]? = some (.cells #[.slice a l c, .bool bad] T (0, 0)) ∧ Sl .u8 W0 a l c zs ∧ Q ≠ B

end Go.Proofs.Ytekilpmmadhpoaa
