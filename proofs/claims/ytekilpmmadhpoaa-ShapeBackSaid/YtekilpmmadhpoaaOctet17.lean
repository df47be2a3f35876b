/- Stage 4: the calls that are given. -/
import Derived.Test.YtekilpmmadhpoaaOctet16
import Derived.Test.YtekilpmmadhpoaaFlat
namespace Go.Proofs.Ytekilpmmadhpoaa
open Go.ChangeShapes Go.WideShapes Go.ChangeAt Go.RowKit Go.Shelf
set_option linter.unusedVariables false

structure OpV where
  k : Int
  n : Int
  u : Int
  i : Int
  b : Option Addr
  l : Nat
  c : Nat
  z : List Int

structure OpIs (W : World) (v : Nat → Value) (o : OpV) : Prop where
  v0 : v 0 = .int .i64 o.k
  v1 : v 1 = .int .i64 o.n
  v2 : v 2 = .int .u64 o.u
  v3 : v 3 = .int .i64 o.i
  v4 : v 4 = .slice o.b o.l o.c
  hn : -9223372036854775808 ≤ o.n ∧ o.n ≤ 9223372036854775807
  hu : 0 ≤ o.u ∧ o.u ≤ 18446744073709551615
  hi : -9223372036854775808 ≤ o.i ∧ o.i ≤ 9223372036854775807
  sl : Sl .u8 W o.b o.l o.c o.z
  wf : ∀ x ∈ o.z, (Lit.int .u8 x).wf = true
theorem OpIs.below {W w : World} {v : Nat → Value} {o : OpV} (h : OpIs W v o) (hb : Below W.heap.size W w) : OpIs w v o := { h with sl := h.sl.below hb }

theorem ops_of {W : World} {len : Nat} {V : Nat → Nat → Value} (t : ∀ i, i < len → (∃ n, V i 0 = .int .i64 n ∧ (Lit.int .i64 n).wf = true) ∧ (∃ n, V i 1 = .int .i64 n ∧ (Lit.int .i64 n).wf = true) ∧ (∃ n, V i 2 = .int .u64 n ∧ (Lit.int .u64 n).wf = true) ∧ (∃ n, V i 3 = .int .i64 n ∧ (Lit.int .i64 n).wf = true) ∧ (∃ b l c zs, V i 4 = .slice b l c ∧ IsRow .u8 W b l c zs)) :
    ∃ f : Nat → OpV, ∀ i, i < len → OpIs W (V i) (f i) := by
  suffices h : ∀ i, ∃ o, i < len → OpIs W (V i) o from ⟨fun i => Classical.choose (h i), fun i => Classical.choose_spec (h i)⟩
  intro i
  by_cases hi : i < len
  · obtain ⟨⟨k, h0, _⟩, ⟨n, h1, hn⟩, ⟨u, h2, hu⟩, ⟨j, h3, hj⟩, b, l, c, zs, h4, hr⟩ := t i hi
    have hn' := bounds_i64 hn
    have hu' := bounds_u64 hu
    have hj' := bounds_i64 hj
    exact ⟨⟨k, n, u, j, b, l, c, zs.take l⟩, fun _ => ⟨h0, h1, h2, h3, h4, by dsimp only; omega, by dsimp only; omega, by dsimp only; omega, hr.sl.1, hr.sl.2⟩⟩
  · exact ⟨⟨0, 0, 0, 0, none, 0, 0, []⟩, fun h => absurd h hi⟩

def fewS (f : Nat → OpV) (len : Nat) : Bool := decide (len ≤ 60 ∧ ∀ i, i < len → (f i).l ≤ 100)
end Go.Proofs.Ytekilpmmadhpoaa
