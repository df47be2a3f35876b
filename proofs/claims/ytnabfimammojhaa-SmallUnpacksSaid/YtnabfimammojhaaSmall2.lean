/- Package small: the farthest part, a part's number. -/
import Derived.Test.YtnabfimammojhaaSmall
import Derived.Test.YtnabfimammojhaaUnit3
namespace Go.Proofs.Ytnabfimammojhaa
open Go.ChangeShapes Go.WideShapes Go.ChangeAt Go.RowKit Go.Shelf
set_option linter.unusedVariables false

/-- The first place up to k of what is greatest. -/
def bst (f : Nat → Int) : Nat → Nat
  | 0 => 0
  | k + 1 => if f (bst f k) < f (k + 1) then k + 1 else bst f k
theorem bst_le (f : Nat → Int) : ∀ k, bst f k ≤ k
  | 0 => Nat.le_refl _
  | k + 1 => by unfold bst; have := bst_le f k; split <;> omega
theorem bst_max (f : Nat → Int) : ∀ k i, i ≤ k → f i ≤ f (bst f k)
  | 0, i, h => by obtain rfl : i = 0 := by omega
                  exact Int.le_refl _
  | k + 1, i, h => by
    by_cases c : f (bst f k) < f (k + 1)
    · have e : bst f (k + 1) = k + 1 := if_pos c
      rw [e]
      by_cases hi : i = k + 1
      · subst hi; exact Int.le_refl _
      · have := bst_max f k i (by omega); omega
    · have e : bst f (k + 1) = bst f k := if_neg c
      rw [e]
      by_cases hi : i = k + 1
      · subst hi; omega
      · exact bst_max f k i (by omega)
def absI (n : Int) : Int := if n < 0 then -n else n
def far4S (x y z t : Int) (i : Nat) : Int := absI (sel4 i x y z t)
def best4 (x y z t : Int) : Nat := bst (far4S x y z t) 3
theorem best4_lt (x y z t : Int) : best4 x y z t < 4 := by have := bst_le (far4S x y z t) 3; unfold best4; omega
/-- What the loop has: the best place of the first k, and how far that is. -/
def bestB (f : Nat → Int) (k : Nat) : Nat := if k = 0 then 0 else bst f (k - 1)
def bestF (f : Nat → Int) (k : Nat) : Int := if k = 0 then -1 else f (bst f (k - 1))
theorem best_more {f : Nat → Int} {k : Nat} (h0 : 0 ≤ f k) (h : bestF f k < f k) : bestB f (k + 1) = k ∧ bestF f (k + 1) = f k := by
  unfold bestB bestF at *
  cases k with
  | zero => simp [bst]
  | succ k =>
    simp at h ⊢
    have e : bst f (k + 1) = k + 1 := if_pos h
    rw [e]; exact ⟨rfl, rfl⟩
theorem best_less {f : Nat → Int} {k : Nat} (h0 : 0 ≤ f k) (h : ¬ bestF f k < f k) : bestB f (k + 1) = bestB f k ∧ bestF f (k + 1) = bestF f k := by
  unfold bestB bestF at *
  cases k with
  | zero => simp at h; omega
  | succ k =>
    simp at h ⊢
    have e : bst f (k + 1) = bst f k := if_neg (by omega)
    rw [e]; exact ⟨rfl, rfl⟩
theorem absI_0 (n : Int) : 0 ≤ absI n := by unfold absI; split <;> omega

set_option maxHeartbeats 1000000 in
theorem farthest_any (x y z t : Int) (w : World) (p0 : B32 x) (p1 : B32 y) (p2 : B32 z) (p3 : B32 t) :
    Calls Try.prog 16 #[.agg #[.int .i32 x, .int .i32 y, .int .i32 z, .int .i32 t]] w fun e w' => e = .returned (.int .i64 (best4 x y z t : Nat)) ∧ Below w.heap.size w w' := by
  have hsb := fun k => sel4_b k p0 p1 p2 p3
  replace hsb := hid hsb
  clear p0 p1 p2 p3
  go_enter Try.func16, Try.ntmps16
  go_wp2_with fail
  have hb0 : Below w.heap.size w (w.alloc (.cells #[.int .i32 x, .int .i32 y, .int .i32 z, .int .i32 t] 32)) := (Below.refl _ w).alloc (Nat.le_refl _) _
  go_loopw [3, 4, 9] (fun b f i wr => ∃ k : Nat, k ≤ 4 ∧ i = .int .i64 k ∧ b = .int .i64 (bestB (far4S x y z t) k : Nat) ∧ f = .int .i64 (bestF (far4S x y z t) k) ∧ Below w.heap.size w wr) (fun b f i _ => 4 - (intOf i).toNat)
  case atStart => exact ⟨0, by omega, rfl, rfl, rfl, hb0⟩
  case round =>
    obtain ⟨k, hk, rfl, rfl, rfl, hbr⟩ := hrel
    by_cases hlt : (k : Int) < 4
    · have hlt2 : k < 4 := by omega
      have hx := fun w => index4_any x y z t k w hlt2
      have hv := hsb.out k
      have h0 := absI_0 (sel4 k x y z t)
      have hm := hid (best_more (f := far4S x y z t) (k := k) h0)
      have hl := hid (best_less (f := far4S x y z t) (k := k) h0)
      have hfk := hid (show far4S x y z t k = absI (sel4 k x y z t) from rfl)
      clear h0
      generalize sel4 k x y z t = v at *
      obtain ⟨v1, v2⟩ := hv
      have hw : IntKind.i64.wrap (-v) = -v := by rw [IntKind.wrap_i64]; omega
      have hw2 : IntKind.i64.wrap v = v := by rw [IntKind.wrap_i64]; omega
      have ha : Go.RowKit.Hid (absI v = if v < 0 then -v else v) := hid rfl
      by_cases cn : v < 0
      · have ea : absI v = -v := by rw [ha.out, if_pos cn]
        replace hfk := hid (hfk.out.trans ea)
        clear ha ea
        rw [hfk.out] at hm hl
        by_cases c : bestF (far4S x y z t) k < -v
        · have e := hid (hm.out c)
          generalize bestF (far4S x y z t) k = F at *
          go_wp2_with omega
          go_roundw
          case rel => exact ⟨k + 1, by omega, by simp, by rw [e.out.1], by rw [e.out.2], hbr⟩
          case measure => simp only [intOf]; omega
        · have e := hid (hl.out c)
          generalize bestF (far4S x y z t) k = F at *
          go_wp2_with omega
          go_roundw
          case rel => exact ⟨k + 1, by omega, by simp, by rw [e.out.1], by rw [e.out.2], hbr⟩
          case measure => simp only [intOf]; omega
      · have ea : absI v = v := by rw [ha.out, if_neg cn]
        replace hfk := hid (hfk.out.trans ea)
        clear ha ea
        rw [hfk.out] at hm hl
        by_cases c : bestF (far4S x y z t) k < v
        · have e := hid (hm.out c)
          generalize bestF (far4S x y z t) k = F at *
          go_wp2_with omega
          go_roundw
          case rel => exact ⟨k + 1, by omega, by simp, by rw [e.out.1], by rw [e.out.2], hbr⟩
          case measure => simp only [intOf]; omega
        · have e := hid (hl.out c)
          generalize bestF (far4S x y z t) k = F at *
          go_wp2_with omega
          go_roundw
          case rel => exact ⟨k + 1, by omega, by simp, by rw [e.out.1], by rw [e.out.2], hbr⟩
          case measure => simp only [intOf]; omega
    · go_wp2_with fail
      go_ret
      obtain rfl : k = 4 := by omega
      exact ⟨rfl, hbr⟩

theorem rfar12_any (n : Int) (w : World) (h : B32 n) :
    Calls Try.prog 20 #[.int .i32 n] w fun e w' => e = .returned (.int .i64 (absI n)) ∧ w' = w := by
  obtain ⟨h1, h2⟩ := h
  have hw : IntKind.i64.wrap (-n) = -n := by rw [IntKind.wrap_i64]; omega
  have hw2 : IntKind.i64.wrap n = n := by rw [IntKind.wrap_i64]; omega
  by_cases c : n < 0
  · have ea := hid (show absI n = -n from if_pos c)
    go_enter Try.func20, Try.ntmps20
    go_wp2_with omega
    go_ret
    exact ⟨by rw [ea.out]; rfl, rfl⟩
  · have ea := hid (show absI n = n from if_neg c)
    go_enter Try.func20, Try.ntmps20
    go_wp2_with omega
    go_ret
    exact ⟨by rw [ea.out]; rfl, rfl⟩

/-- What stands in the word for a part. -/
def numC (n : Int) : Int := 512 + (if n < -511 then -511 else if 511 < n then 511 else n)
def numS (part : Int) : Int := numC (overS (511 * part) 759250125)
theorem numC_b (n : Int) : 1 ≤ numC n ∧ numC n ≤ 1023 := by unfold numC; split <;> (try split) <;> omega

theorem overS_b (n d : Int) (h1 : -9223372036854775808 ≤ n) (h2 : n ≤ 9223372036854775807) : -9223372036854775808 ≤ overS n d ∧ overS n d ≤ 9223372036854775807 := by
  unfold overS
  split
  · omega
  · rename_i hd
    have := qn_le n.natAbs d.natAbs (by omega) (by omega)
    split
    · omega
    · split <;> omega
set_option maxHeartbeats 1000000 in
theorem number_any (p : Int) (w : World) (h1 : -2147483648 ≤ p) (h2 : p ≤ 2147483648) :
    Calls Try.prog 18 #[.int .i64 p] w fun e w' => e = .returned (.int .u32 (numS p)) ∧ ∃ k, w' = w.drewN k := by
  have hw : IntKind.i64.wrap (511 * p) = 511 * p := by rw [IntKind.wrap_i64]; omega
  have hO := over_any (511 * p) 759250125 w (by omega) (by omega) (by omega) (by omega)
  have ho := overS_b (511 * p) 759250125 (by omega) (by omega)
  have hs : Go.RowKit.Hid (numS p = numC (overS (511 * p) 759250125)) := hid rfl
  generalize overS (511 * p) 759250125 = n at *
  have hc : Go.RowKit.Hid (numC n = 512 + (if n < -511 then -511 else if 511 < n then 511 else n)) := hid rfl
  by_cases c1 : n ≤ -511
  · have e := hid (show numS p = 1 by rw [hs.out, hc.out]; split <;> (try split) <;> omega)
    clear hs hc
    go_enter Try.func18, Try.ntmps18
    go_wp2_with fail
    refine hO.mono ?_
    rintro e1 w1 ⟨rfl, k, rfl⟩
    go_wp2_with omega
    go_ret
    exact ⟨by rw [e.out]; rfl, k, rfl⟩
  · by_cases c2 : 511 < n
    · have e := hid (show numS p = 1023 by rw [hs.out, hc.out]; split <;> (try split) <;> omega)
      clear hs hc
      go_enter Try.func18, Try.ntmps18
      go_wp2_with fail
      refine hO.mono ?_
      rintro e1 w1 ⟨rfl, k, rfl⟩
      go_wp2_with omega
      go_ret
      exact ⟨by rw [e.out]; rfl, k, rfl⟩
    · have e := hid (show numS p = 512 + n by rw [hs.out, hc.out]; split <;> (try split) <;> omega)
      clear hs hc
      have hw3 : IntKind.i64.wrap (512 + n) = 512 + n := by rw [IntKind.wrap_i64]; omega
      have hw4 : IntKind.u32.wrap (512 + n) = 512 + n := by simp [IntKind.wrap, IntKind.bits, IntKind.signed]; omega
      go_enter Try.func18, Try.ntmps18
      go_wp2_with fail
      refine hO.mono ?_
      rintro e1 w1 ⟨rfl, k, rfl⟩
      go_wp2_with omega
      go_ret
      exact ⟨by rw [e.out]; rfl, k, rfl⟩

end Go.Proofs.Ytnabfimammojhaa
