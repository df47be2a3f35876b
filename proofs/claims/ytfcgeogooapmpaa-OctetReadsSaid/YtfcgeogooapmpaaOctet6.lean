/- Package octet: the reader's part of the chapter's example. -/
import Derived.Test.YtfcgeogooapmpaaOctet5
namespace Go.Proofs.Ytfcgeogooapmpaa
open Go.ChangeShapes Go.WideShapes Go.ChangeAt Go.RowKit Go.Shelf
set_option linter.unusedVariables false

theorem next_one (B : Nat) (a : Option Addr) (cap : Nat) (w : World) (hH : w.heap[B]? = some (.cells #[.bool true, .slice a 1 cap, .bool false] 59 (0, 0))) (hsl : Sl .u8 w a 1 cap [255]) :
    Calls Try.prog 28 #[.pointer (some ⟨B, 0, none⟩), .int .i64 1, .bool true] w fun e w' => e = .returned (.tuple #[.slice a 1 cap, .bool true]) ∧ ∃ a' cap', w' = w.setCell ⟨B, 1, none⟩ (.slice a' 0 cap') := by
  have k := rfail_good B _ w hH
  have c1 := held_cell hH 1 _ rfl
  have f1 := held_free hH 1
  obtain ⟨hl, hc, hm, hn, hr⟩ := hsl
  obtain ⟨blk, off, rfl, hcell⟩ := hr 0 (by simp)
  clear hH hl hn hr hcell
  by_cases h1 : cap = 1
  · subst h1
    go_enter Try.func28, Try.ntmps28
    go_wp2_with fail
    refine k.mono ?_
    rintro e w2 ⟨rfl, rfl⟩
    go_wp2_with omega
    go_ret2
    exact ⟨rfl, _, _, rfl⟩
  · have h2 : (1 : Int) < cap := by omega
    have h3 : 1 < cap := by omega
    go_enter Try.func28, Try.ntmps28
    go_wp2_with fail
    refine k.mono ?_
    rintro e w2 ⟨rfl, rfl⟩
    go_wp2_with omega
    go_ret2
    exact ⟨rfl, _, _, rfl⟩

theorem ru_one (B : Nat) (a : Option Addr) (cap : Nat) (w : World) (hH : w.heap[B]? = some (.cells #[.bool true, .slice a 1 cap, .bool false] 59 (0, 0))) (hsl : Sl .u8 w a 1 cap [255]) :
    Calls Try.prog 10 #[.pointer (some ⟨B, 0, none⟩), .int .i64 1] w fun e w' => e = .returned (.int .u64 255) ∧ ∃ a' cap', w' = w.setCell ⟨B, 1, none⟩ (.slice a' 0 cap') := by
  have k1 := sized4_any 1 w
  have e2 : sizedS 1 = true := by decide
  rw [e2] at k1
  have k2 := next_one B a cap w hH hsl
  have hs2 := fun u => sl_set hsl (fun x h => by cases h) hH 1 u
  clear e2 hH hsl
  replace hs2 := hid hs2
  go_enter Try.func10, Try.ntmps10
  go_wp2_with fail
  refine k1.mono ?_
  rintro e w2 ⟨rfl, rfl⟩
  go_wp2_with fail
  refine k2.mono ?_
  rintro e w3 ⟨rfl, a2, cap2, rfl⟩
  obtain ⟨_, _, _, _, hr⟩ := hs2.out (.slice a2 0 cap2)
  obtain ⟨blk, off, rfl, hcell⟩ := hr 0 (by simp)
  have hc9 : (w2.setCell ⟨B, 1, none⟩ (.slice a2 0 cap2)).cell? ⟨blk, off, none⟩ = some (.int .u8 255) := hcell
  clear hr hcell
  generalize hV : w2.setCell ⟨B, 1, none⟩ (.slice a2 0 cap2) = V at *
  replace hV := hid hV
  go_wp2_with fail
  refine wp_loop_rounds 2 ?_
  rw [rounds_succ]
  go_wp2_with fail
  rw [rounds_succ]
  go_wp2_with fail
  go_ret
  exact ⟨rfl, a2, cap2, hV.out.symm⟩

theorem ri_one (B : Nat) (w : World) (h : Rdr B w [255]) :
    Calls Try.prog 12 #[.pointer (some ⟨B, 0, none⟩), .int .i64 1] w fun e w' => e = .returned (.int .i64 (-1)) ∧ ∃ a' cap', w' = w.setCell ⟨B, 1, none⟩ (.slice a' 0 cap') ∧ w'.heap[B]? = some (.cells #[.bool true, .slice a' 0 cap', .bool false] 59 (0, 0)) := by
  obtain ⟨a, cap, hH, hsl⟩ := h
  have k2 := ru_one B a cap w hH hsl
  have e2 : sizedS 1 = true := by decide
  have k1 := fun w => (e2 ▸ sized4_any 1 w)
  clear e2 hsl
  replace hH := hid hH
  go_enter Try.func12, Try.ntmps12
  go_wp2_with fail
  refine k2.mono ?_
  rintro e w2 ⟨rfl, a2, cap2, rfl⟩
  have h2 := held_set hH.out 1 (.slice a2 0 cap2)
  generalize hV : w.setCell ⟨B, 1, none⟩ (.slice a2 0 cap2) = V at *
  replace hV := hid hV
  go_wp2_with fail
  refine (k1 _).mono ?_
  rintro e w2 ⟨rfl, rfl⟩
  go_wp2_with fail
  go_ret
  refine ⟨congrArg (fun x => Ending.returned (.int .i64 x)) (?_ : _ = (-1 : Int)), a2, cap2, hV.out.symm, h2⟩
  first | kernel_rfl | (simp [wrap64]) | (unfold wrap64; decide)

end Go.Proofs.Ytfcgeogooapmpaa
