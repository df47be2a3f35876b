/- Package octet: a reader's Raw. -/
import Derived.Test.YtfcgeogooapmpaaOctet11
namespace Go.Proofs.Ytfcgeogooapmpaa
open Go.ChangeShapes Go.WideShapes Go.ChangeAt Go.RowKit Go.Shelf
set_option linter.unusedVariables false

theorem rraw_failed (B : Nat) (n : Int) (w : World) (h : Failed 59 B w) : Calls Try.prog 14 #[.pointer (some ⟨B, 0, none⟩), .int .i64 n] w (BytesOk w []) := by
  have k1 := fun b => next_failed B n b w h
  have k2 := clone_any none 0 0 [] w (by omega) (sl_nil .u8 w)
  go_enter Try.func14, Try.ntmps14
  go_wp2_with fail
  refine (k1 _).mono ?_
  rintro e w2 ⟨rfl, rfl⟩
  go_wp2_with fail
  refine k2.mono ?_
  rintro e w2 ⟨a, cap, rfl, hO, hA⟩
  go_wp2_with fail
  go_ret
  exact ⟨a, cap, rfl, hO, hA⟩

/-- Too few bytes, or less than none: it fails. -/
theorem rraw_no (B B0 : Nat) (a : Option Addr) (len cap : Nat) (n : Int) (hn : n < 0 ∨ (len : Int) < n) (w : World) (h1 : B0 ≤ B) (hH : w.heap[B]? = some (.cells #[.bool true, .slice a len cap, .bool false] 59 (0, 0))) :
    Calls Try.prog 14 #[.pointer (some ⟨B, 0, none⟩), .int .i64 n] w fun e w' => (∃ a' cap', e = .returned (.slice a' 0 cap') ∧ Sl .u8 w' a' 0 cap' []) ∧ Failed 59 B w' ∧ Br B B0 w w' := by
  have hBl := held_lt hH
  have k2 := fun w => clone_any none 0 0 [] w (by omega) (sl_nil .u8 w)
  by_cases c : n < 0
  · have k1 := next_no B B0 a len cap n false (.inl rfl) w h1 hH
    have cb : decide (0 ≤ n) = false := decide_eq_false (by omega)
    clear hn hH
    go_enter Try.func14, Try.ntmps14
    go_wp2_with fail
    refine k1.mono ?_
    rintro e w2 ⟨rfl, hF, hB⟩
    replace hF := hid hF
    replace hB := hid hB
    go_wp2_with fail
    refine (k2 _).mono ?_
    rintro e w3 ⟨a3, cap3, rfl, hO, hA⟩
    have hF3 := hF.out.later hA
    have hSl := hid hO.slf
    have hB3 := hB.out.later hA (by have := hB.out.1.size; omega)
    replace hF3 := hid hF3
    replace hB3 := hid hB3
    go_wp2_with fail
    go_ret
    exact ⟨⟨a3, cap3, rfl, hSl.out⟩, hF3.out, hB3.out⟩
  · have k1 := fun b => next_no B B0 a len cap n b (.inr (by omega)) w h1 hH
    clear hn hH
    go_enter Try.func14, Try.ntmps14
    go_wp2_with fail
    refine (k1 _).mono ?_
    rintro e w2 ⟨rfl, hF, hB⟩
    replace hF := hid hF
    replace hB := hid hB
    go_wp2_with fail
    refine (k2 _).mono ?_
    rintro e w3 ⟨a3, cap3, rfl, hO, hA⟩
    have hF3 := hF.out.later hA
    have hSl := hid hO.slf
    have hB3 := hB.out.later hA (by have := hB.out.1.size; omega)
    replace hF3 := hid hF3
    replace hB3 := hid hB3
    go_wp2_with fail
    go_ret
    exact ⟨⟨a3, cap3, rfl, hSl.out⟩, hF3.out, hB3.out⟩

/-- The next n bytes, a copy. -/
theorem rraw_yes (B B0 : Nat) (zs : List Int) (n : Nat) (w : World) (hR : Rdr B w zs) (hn : n ≤ zs.length) (hl : zs.length ≤ 1000000) (h1 : B0 ≤ B) :
    Calls Try.prog 14 #[.pointer (some ⟨B, 0, none⟩), .int .i64 (n : Int)] w fun e w' => (∃ a' cap', e = .returned (.slice a' n cap') ∧ Sl .u8 w' a' n cap' (zs.take n)) ∧ Rdr B w' (zs.drop n) ∧ Br B B0 w w' := by
  obtain ⟨a, cap, hH, hsl⟩ := hR
  have hBl := held_lt hH
  have k1 := next_yes B zs n a zs.length cap w hH hsl hn hl
  have ht := fun u => sl_set (hsl.take n hn) (fun x h => by cases h) hH 1 u
  have hd := fun (u : Option Addr × Nat) (h : Sl .u8 w u.1 (zs.length - n) u.2 (zs.drop n)) (v : Value) => sl_set h (fun x h => by cases h) hH 1 v
  have hHs := fun u => held_set hH 1 u
  have hBs := fun u => (show Br B B0 w _ from ⟨(Below.refl B0 w).setCell (p := ⟨B, 1, none⟩) h1 u, rx_set u⟩)
  have cb : decide ((0 : Int) ≤ (n : Int)) = true := decide_eq_true (by omega)
  replace ht := hid ht
  replace hd := hid hd
  replace hHs := hid hHs
  replace hBs := hid hBs
  clear hH hsl
  go_enter Try.func14, Try.ntmps14
  go_wp2_with fail
  refine k1.mono ?_
  rintro e w2 ⟨rfl, a2, cap2, rfl, hs2⟩
  have kC := clone_any a n cap (zs.take n) _ (by omega) (ht.out (.slice a2 (zs.length - n) cap2))
  have hS3 := hd.out (a2, cap2) hs2 (.slice a2 (zs.length - n) cap2)
  have hH3 := hHs.out (.slice a2 (zs.length - n) cap2)
  have hB3 := hBs.out (.slice a2 (zs.length - n) cap2)
  have hz3 : (w.setCell ⟨B, 1, none⟩ (.slice a2 (zs.length - n) cap2)).heap.size = w.heap.size := by simp [World.setCell]
  generalize w.setCell ⟨B, 1, none⟩ (.slice a2 (zs.length - n) cap2) = V at *
  replace hS3 := hid hS3
  replace hH3 := hid hH3
  replace hB3 := hid hB3
  clear hs2 k1
  go_wp2_with fail
  refine kC.mono ?_
  rintro e w3 ⟨a3, cap3, rfl, hO, hA⟩
  have e3 : (zs.take n).length = n := by rw [List.length_take]; omega
  have hd3 : (zs.drop n).length = zs.length - n := List.length_drop
  have r1 := hO.slf
  rw [e3] at r1
  have r2 : Rdr B w3 (zs.drop n) := ⟨a2, cap2, by rw [hd3]; exact held_after hA hH3.out, by rw [hd3]; exact hS3.out.below hA⟩
  have r3 := hB3.out.later hA (show B0 ≤ V.heap.size by omega)
  rw [e3]
  replace r1 := hid r1
  replace r2 := hid r2
  replace r3 := hid r3
  clear e3 hd3 hO hS3 hH3
  go_wp2_with fail
  go_ret
  exact ⟨⟨a3, cap3, rfl, r1.out⟩, r2.out, r3.out⟩

end Go.Proofs.Ytfcgeogooapmpaa
