/- Package octet: what has failed. -/
import Derived.Test.YtekilpmmadhpoaaOctet5
import Derived.RegionTactic
import Derived.ChangeAlike
import Derived.Deep.DeepCutAuto
namespace Go.Proofs.Ytekilpmmadhpoaa
open Go.ChangeShapes Go.WideShapes Go.ChangeAt Go.RowKit Go.Shelf
set_option linter.unusedVariables false

/-- It has failed, and has nothing. -/
def Failed (T : TypeId) (B : Nat) (w : World) : Prop := w.heap[B]? = some (.cells #[.bool true, .slice none 0 0, .bool true] T (0, 0))
theorem Failed.later {T : TypeId} {B : Nat} {w w' : World} (h : Failed T B w) (hA : After w w') : Failed T B w' := held_after hA h

theorem rfail_failed (B : Nat) (w : World) (h : Failed 73 B w) : Calls Try.prog 52 #[.pointer (some ⟨B, 0, none⟩)] w fun e w' => e = .returned (.bool true) ∧ w' = w := by
  have h0 := held_cell h 0 _ rfl
  have h2 := held_cell h 2 _ rfl
  go_enter Try.func52, Try.ntmps52
  go_wp2_with fail
  go_ret
  exact ⟨rfl, rfl⟩
theorem wfail_failed (B : Nat) (w : World) (h : Failed 69 B w) : Calls Try.prog 39 #[.pointer (some ⟨B, 0, none⟩)] w fun e w' => e = .returned (.bool true) ∧ w' = w := by
  have h0 := held_cell h 0 _ rfl
  have h2 := held_cell h 2 _ rfl
  go_enter Try.func39, Try.ntmps39
  go_wp2_with fail
  go_ret
  exact ⟨rfl, rfl⟩
theorem wbytes_failed (B : Nat) (w : World) (h : Failed 69 B w) : Calls Try.prog 31 #[.pointer (some ⟨B, 0, none⟩)] w fun e w' => e = .returned (.slice none 0 0) ∧ w' = w := by
  have k := wfail_failed B w h
  go_enter Try.func31, Try.ntmps31
  go_wp2_with fail
  refine k.mono ?_
  rintro e w2 ⟨rfl, rfl⟩
  go_wp2_with fail
  go_ret
  exact ⟨rfl, rfl⟩
theorem next_failed (B : Nat) (n : Int) (b : Bool) (w : World) (h : Failed 73 B w) : Calls Try.prog 50 #[.pointer (some ⟨B, 0, none⟩), .int .i64 n, .bool b] w fun e w' => e = .returned (.tuple #[.slice none 0 0, .bool false]) ∧ w' = w := by
  have k := rfail_failed B w h
  go_enter Try.func50, Try.ntmps50
  go_wp2_with fail
  refine k.mono ?_
  rintro e w2 ⟨rfl, rfl⟩
  go_wp2_with fail
  go_ret2
  exact ⟨rfl, rfl⟩
theorem put_failed (B : Nat) (n u : Int) (b : Bool) (w : World) (h : Failed 69 B w) : Calls Try.prog 49 #[.pointer (some ⟨B, 0, none⟩), .int .i64 n, .int .u64 u, .bool b] w fun e w' => e = .returned (.tuple #[]) ∧ After w w' := by
  have hA : After w (w.alloc (.cells #[.pointer (some ⟨B, 0, none⟩)] 48)) := (Below.refl _ w).alloc (Nat.le_refl _) _
  have k := wfail_failed B _ (h.later hA)
  refine calls_of_marks Try.func49 rfl ?_
  simp only [Try.ntmps49, List.size_toArray, List.length_cons, List.length_nil, Nat.reduceAdd, Nat.reduceSub, Array.replicate_succ, Array.replicate_zero, List.push_toArray, List.append_toArray, List.nil_append, List.cons_append]
  go_wp2_with fail
  refine k.mono ?_
  rintro e w2 ⟨rfl, rfl⟩
  go_wp2_with fail
  exact marks_ret0 (results_none rfl _ _ _) ⟨rfl, hA⟩

/-- A number that does not fit: the writer fails. -/
theorem put_no (B B0 : Nat) (v : Value) (n u : Int) (w : World) (h1 : B0 ≤ B) (hH : w.heap[B]? = some (.cells #[.bool true, v, .bool false] 69 (0, 0))) :
    Calls Try.prog 49 #[.pointer (some ⟨B, 0, none⟩), .int .i64 n, .int .u64 u, .bool false] w fun e w' => e = .returned (.tuple #[]) ∧ Failed 69 B w' ∧ Bw B B0 w w' := by
  have hBl := held_lt hH
  have hA : After w (w.alloc (.cells #[.pointer (some ⟨B, 0, none⟩)] 48)) := (Below.refl _ w).alloc (Nat.le_refl _) _
  have hH2 := held_after hA hH
  have k := wfail_good B _ _ hH2
  have c1 := held_cell hH2 1 _ rfl
  have c2 := held_cell hH2 2 _ rfl
  have f1 := held_free hH2 1
  have f2 := held_free hH2 2
  have cb := held_cell (World.alloc_heap_new w (.cells #[.pointer (some ⟨B, 0, none⟩)] 48)) 0 _ rfl
  have hB := Below.mono hA (show B0 ≤ w.heap.size by omega)
  have d1 := held_cell hH 1 _ rfl
  have d2 := held_cell hH 2 _ rfl
  have e1 := held_free hH 1
  have e2 := held_free hH 2
  replace hH2 := hid hH
  replace hB := hid hB
  clear hH hA
  refine calls_of_marks Try.func49 rfl ?_
  simp only [Try.ntmps49, List.size_toArray, List.length_cons, List.length_nil, Nat.reduceAdd, Nat.reduceSub, Array.replicate_succ, Array.replicate_zero, List.push_toArray, List.append_toArray, List.nil_append, List.cons_append]
  go_wp2_with fail
  refine k.mono ?_
  rintro e w2 ⟨rfl, rfl⟩
  go_upto_region 3 with (fail)
  go_region
  have hF := held_set (held_set hH2.out 2 (.bool true)) 1 (.slice none 0 0)
  have hX := (((Below.refl B0 w).setCell (p := ⟨B, 2, none⟩) h1 (.bool true)).setCell (p := ⟨B, 1, none⟩) h1 (.slice none 0 0))
  have hz : ((w.setCell ⟨B, 2, none⟩ (.bool true)).setCell ⟨B, 1, none⟩ (.slice none 0 0)).heap.size = w.heap.size := by simp [World.setCell]
  have hk1 : Owp B 1 w (w.setCell ⟨B, 2, none⟩ (.bool true)) := Owp.cell hH2.out (by decide) (by simp)
  have hk2 : Owp B 1 (w.setCell ⟨B, 2, none⟩ (.bool true)) ((w.setCell ⟨B, 2, none⟩ (.bool true)).setCell ⟨B, 1, none⟩ (.slice none 0 0)) := Owp.set (q := none) (held_set hH2.out 2 (.bool true)) (by simp) ⟨rfl, rfl, rfl, Nat.le_refl _, fun _ _ _ => rfl⟩ (fun k e => by cases e) (fun k e => by simp [Value.ownBlock] at e)
  have hk3 := hk1.trans hk2
  clear hk1 hk2
  replace hF := hid hF
  replace hX := hid hX
  replace hk3 := hid hk3
  go_wp2_with fail
  refine marks_ret0 (results_none rfl _ _ _) ⟨rfl, ?_, ?_, ?_⟩
  · exact (Below.heap_alloc _ _ _ (by omega)).trans hF.out
  · exact (hX.out.alloc (by omega) _).drew
  · exact hk3.out.trans (Owp.after (by simp [World.setCell]; omega) (((Below.refl _ _).alloc (Nat.le_refl _) _).drew))

end Go.Proofs.Ytekilpmmadhpoaa
