/- Stage 4: the calls that are given. -/
import Derived.Test.YtfcgeogooapmpaaOctet16
import Derived.Test.YtfcgeogooapmpaaFlat
namespace Go.Proofs.Ytfcgeogooapmpaa
open Go.ChangeShapes Go.WideShapes Go.ChangeAt Go.RowKit Go.Shelf
set_option linter.unusedVariables false

structure OpV where
  k : Int
  n : Int
  u : Int
  i : Int
  b : Option Addr
  l : Nat
  c : Nat
  z : List Int

structure OpIs (W : World) (v : Nat → Value) (o : OpV) : Prop where
  v0 : v 0 = .int .i64 o.k
  v1 : v 1 = .int .i64 o.n
  v2 : v 2 = .int .u64 o.u
  v3 : v 3 = .int .i64 o.i
  v4 : v 4 = .slice o.b o.l o.c
  hn : -9223372036854775808 ≤ o.n ∧ o.n ≤ 9223372036854775807
  hu : 0 ≤ o.u ∧ o.u ≤ 18446744073709551615
  hi : -9223372036854775808 ≤ o.i ∧ o.i ≤ 9223372036854775807
  sl : Sl .u8 W o.b o.l o.c o.z
  wf : ∀ x ∈ o.z, (Lit.int .u8 x).wf = true
theorem OpIs.below {W w : World} {v : Nat → Value} {o : OpV} (h : OpIs W v o) (hb : Below W.heap.size W w) : OpIs w v o := { h with sl := h.sl.below hb }

theorem ops_of {W : World} {len : Nat} {V : Nat → Nat → Value} (t : ∀ i, i < len → (∃ n, V i 0 = .int .i64 n ∧ (Lit.int .i64 n).wf = true) ∧ (∃ n, V i 1 = .int .i64 n ∧ (Lit.int .i64 n).wf = true) ∧ (∃ n, V i 2 = .int .u64 n ∧ (Lit.int .u64 n).wf = true) ∧ (∃ n, V i 3 = .int .i64 n ∧ (Lit.int .i64 n).wf = true) ∧ (∃ b l c zs, V i 4 = .slice b l c ∧ IsRow .u8 W b l c zs)) :
    ∃ f : Nat → OpV, ∀ i, i < len → OpIs W (V i) (f i) := by
  suffices h : ∀ i, ∃ o, i < len → OpIs W (V i) o from ⟨fun i => Classical.choose (h i), fun i => Classical.choose_spec (h i)⟩
  intro i
  by_cases hi : i < len
  · obtain ⟨⟨k, h0, _⟩, ⟨n, h1, hn⟩, ⟨u, h2, hu⟩, ⟨j, h3, hj⟩, b, l, c, zs, h4, hr⟩ := t i hi
    have hn' := bounds_i64 hn
    have hu' := bounds_u64 hu
    have hj' := bounds_i64 hj
    exact ⟨⟨k, n, u, j, b, l, c, zs.take l⟩, fun _ => ⟨h0, h1, h2, h3, h4, by dsimp only; omega, by dsimp only; omega, by dsimp only; omega, hr.sl.1, hr.sl.2⟩⟩
  · exact ⟨⟨0, 0, 0, 0, none, 0, 0, []⟩, fun h => absurd h hi⟩

def fewS (f : Nat → OpV) (len : Nat) : Bool := decide (len ≤ 60 ∧ ∀ i, i < len → (f i).l ≤ 100)
theorem few_any (a : Option Addr) (len cap : Nat) (V : Nat → Nat → Value) (f : Nat → OpV) (w : World) (hF : Flat w a len cap 5 V) (hO : ∀ i, i < len → OpIs w (V i) (f i)) :
    Calls Try.prog 7 #[.slice a len cap] w fun e w' => e = .returned (.bool (fewS f len)) ∧ w' = w := by
  obtain ⟨hlc, hcm, hnone, hcells⟩ := hF
  have hml : maxLen = 9223372036854775807 := by unfold maxLen; rfl
  replace hcells := hid hcells
  replace hO := hid hO
  by_cases c : (60 : Int) < len
  · have e1 := hid (show fewS f len = false from decide_eq_false fun h => by omega)
    go_enter Try.func7, Try.ntmps7
    go_wp2_with omega
    go_ret
    exact ⟨by rw [e1.out]; rfl, rfl⟩
  go_enter Try.func7, Try.ntmps7
  go_wp2_with omega
  go_loopw [3] (fun i wr => ∃ k : Nat, k ≤ len ∧ i = .int .i64 k ∧ wr = w ∧ Go.RowKit.Hid (∀ i, i < k → (f i).l ≤ 100)) (fun i _ => len - (intOf i).toNat)
  case atStart => exact ⟨0, by omega, rfl, rfl, fun i hi => by omega⟩
  case round =>
    obtain ⟨k, hk, rfl, rfl, hall⟩ := hrel
    by_cases hlt : (k : Int) < len
    case neg =>
      have e1 := hid (show fewS f len = true from decide_eq_true ⟨by omega, fun i hi => hall.out i (by omega)⟩)
      go_wp2_with fail
      go_ret
      exact ⟨by rw [e1.out]; rfl, rfl⟩
    have hk2 : k < len := by omega
    have h4 := (hO.out k hk2).v4
    obtain ⟨b, off, rfl, hc⟩ := hcells.out k hk2 4 (by omega)
    rw [h4, ← Nat.add_assoc] at hc
    by_cases hg : (100 : Int) < (f k).l
    · have e1 := hid (show fewS f len = false from decide_eq_false fun h => by have := h.2 k hk2; omega)
      go_wp2_with fail
      go_ret
      exact ⟨by rw [e1.out]; rfl, rfl⟩
    · go_wp2_with fail
      go_roundw
      case rel =>
        have hall2 : Go.RowKit.Hid (∀ i, i < k + 1 → (f i).l ≤ 100) := fun i hi => by
          rcases Nat.lt_succ_iff_lt_or_eq.1 hi with h | rfl
          · exact hall.out i h
          · omega
        exact ⟨k + 1, by omega, by simp, trivial, hall2⟩
      case measure => simp only [intOf]; omega

end Go.Proofs.Ytfcgeogooapmpaa
