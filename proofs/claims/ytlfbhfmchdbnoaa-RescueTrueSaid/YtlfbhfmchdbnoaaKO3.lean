/- Several texts in one: Octet9, Octet10, Octet11, Octet12. -/
import Derived.Test.YtlfbhfmchdbnoaaKO2
import Derived.Test.YtlfbhfmchdbnoaaKA

/- Package octet: a writer's I. -/
namespace Go.Proofs.Ytlfbhfmchdbnoaa
open Go.ChangeShapes Go.WideShapes Go.ChangeAt Go.RowKit Go.Shelf
set_option linter.unusedVariables false

/-- Does a number with a sign fit n bytes? -/
def fitI (n i : Int) : Bool := decide (1 ≤ n ∧ n ≤ 8 ∧ -(128 * 256 ^ (n.toNat - 1)) ≤ i ∧ i < 128 * 256 ^ (n.toNat - 1))
def wrapU (i : Int) : Int := i % 18446744073709551616
theorem wrapU_is (i : Int) : IntKind.u64.wrap i = wrapU i := by simp [IntKind.wrap, IntKind.bits, IntKind.signed, wrapU]
theorem wrapU_b (i : Int) : 0 ≤ wrapU i ∧ wrapU i ≤ 18446744073709551615 := by unfold wrapU; omega

end Go.Proofs.Ytlfbhfmchdbnoaa

/- Package octet: a writer's Raw. -/
namespace Go.Proofs.Ytlfbhfmchdbnoaa
open Go.ChangeShapes Go.WideShapes Go.ChangeAt Go.RowKit Go.Shelf
set_option linter.unusedVariables false

end Go.Proofs.Ytlfbhfmchdbnoaa

/- Package octet: a reader that has too few bytes; and that has enough. -/
namespace Go.Proofs.Ytlfbhfmchdbnoaa
open Go.ChangeShapes Go.WideShapes Go.ChangeAt Go.RowKit Go.Shelf
set_option linter.unusedVariables false

/-- Only this reader's block, and those from B0 on, are changed. -/
def Br (B B0 : Nat) (w w' : World) : Prop := Below B0 w w' ∧ RX (some B) w w'
theorem rx_later {X : Option Nat} {w w' : World} (h : After w w') : RX X w w' := ⟨h.size, fun k hk _ => h.block k hk⟩
theorem rx_set {B j : Nat} {w : World} (v : Value) : RX (some B) w (w.setCell ⟨B, j, none⟩ v) := ⟨by simp [World.setCell], fun k _ hne => Below.heap_setCell _ _ _ _ (fun e => hne (by rw [e]))⟩
theorem Br.refl (B B0 : Nat) (w : World) : Br B B0 w w := ⟨Below.refl _ _, RX.refl _ _⟩
theorem Br.later {B B0 : Nat} {w w1 w2 : World} (h : Br B B0 w w1) (hA : After w1 w2) (h0 : B0 ≤ w1.heap.size) : Br B B0 w w2 := ⟨h.1.trans (Below.mono hA h0), h.2.trans (rx_later hA)⟩
theorem next_no (B B0 : Nat) (a : Option Addr) (len cap : Nat) (n : Int) (b : Bool) (hb : b = false ∨ (len : Int) < n) (w : World) (h1 : B0 ≤ B) (hH : w.heap[B]? = some (.cells #[.bool true, .slice a len cap, .bool false] 111 (0, 0))) :
    Calls Try.prog 55 #[.pointer (some ⟨B, 0, none⟩), .int .i64 n, .bool b] w fun e w' => e = .returned (.tuple #[.slice none 0 0, .bool false]) ∧ Failed 111 B w' ∧ Br B B0 w w' := by
  have k := rfail_good B _ w hH
  have c1 := held_cell hH 1 _ rfl
  have c2 := held_cell hH 2 _ rfl
  have f1 := held_free hH 1
  have f2 := held_free hH 2
  have hF := hid (held_set (held_set hH 2 (.bool true)) 1 (.slice none 0 0))
  have hX := hid (show Br B B0 w _ from ⟨((Below.refl B0 w).setCell (p := ⟨B, 2, none⟩) h1 (.bool true)).setCell (p := ⟨B, 1, none⟩) h1 (.slice none 0 0), (rx_set _).trans (rx_set _)⟩)
  clear hH
  cases b
  · clear hb
    go_enter Try.func55, Try.ntmps55
    go_wp2_with fail
    refine k.mono ?_
    rintro e w2 ⟨rfl, rfl⟩
    go_wp2_with fail
    go_ret2
    exact ⟨rfl, hF.out, hX.out⟩
  · have hlt : (len : Int) < n := by rcases hb with h | h; (cases h); exact h
    clear hb
    go_enter Try.func55, Try.ntmps55
    go_wp2_with fail
    refine k.mono ?_
    rintro e w2 ⟨rfl, rfl⟩
    go_wp2_with fail
    go_ret2
    exact ⟨rfl, hF.out, hX.out⟩

/-- The next n bytes. -/
theorem next_yes (B : Nat) (zs : List Int) (n : Nat) (a : Option Addr) (len cap : Nat) (w : World) (hH : w.heap[B]? = some (.cells #[.bool true, .slice a len cap, .bool false] 111 (0, 0))) (hsl : Sl .u8 w a len cap zs) (hn : n ≤ len) (hl : len ≤ 1000000) :
    Calls Try.prog 55 #[.pointer (some ⟨B, 0, none⟩), .int .i64 (n : Int), .bool true] w fun e w' => e = .returned (.tuple #[.slice a n cap, .bool true]) ∧ ∃ a' cap', w' = w.setCell ⟨B, 1, none⟩ (.slice a' (len - n) cap') ∧ Sl .u8 w a' (len - n) cap' (zs.drop n) := by
  have k := rfail_good B _ w hH
  have c1 := held_cell hH 1 _ rfl
  have f1 := held_free hH 1
  have hd := hid (hsl.drop n hn)
  have hend := hid (fun h => hsl.end n hn h)
  obtain ⟨_, hlc, hcm, hnone, _⟩ := hsl
  clear hH
  have g1 : ¬ ((len : Int) < (n : Int)) := by omega
  have g2 : (n : Int) ≤ len := by omega
  have g3 : (n : Int) ≤ cap := by omega
  have g4 : (len : Int) ≤ cap := by omega
  by_cases hc : cap = n
  · have hs := hid (hend.out hc)
    obtain rfl : len = n := by omega
    subst hc
    clear hd hend
    go_enter Try.func55, Try.ntmps55
    go_wp2_with fail
    refine k.mono ?_
    rintro e w2 ⟨rfl, rfl⟩
    go_wp2_with omega
    go_ret2
    refine ⟨rfl, a, 0, ?_, hs.out⟩
    first | rfl | simp | (simp; rfl)
  · have hc2 : (n : Int) < cap := by omega
    have hc3 : n < cap := by omega
    clear hend
    go_enter Try.func55, Try.ntmps55
    go_wp2_with fail
    refine k.mono ?_
    rintro e w2 ⟨rfl, rfl⟩
    go_wp2_with omega
    go_ret2
    refine ⟨rfl, Option.map (fun x => x.add n) a, cap - n, ?_, hd.out⟩
    first | rfl | simp | (simp; rfl)

end Go.Proofs.Ytlfbhfmchdbnoaa

/- Package octet: a reader's Raw. -/
namespace Go.Proofs.Ytlfbhfmchdbnoaa
open Go.ChangeShapes Go.WideShapes Go.ChangeAt Go.RowKit Go.Shelf
set_option linter.unusedVariables false

end Go.Proofs.Ytlfbhfmchdbnoaa
