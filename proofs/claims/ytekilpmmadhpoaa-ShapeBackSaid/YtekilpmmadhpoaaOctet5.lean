/- Package octet: new readers and writers; the chapter's example. -/
import Derived.Test.YtekilpmmadhpoaaOctet4
namespace Go.Proofs.Ytekilpmmadhpoaa
open Go.ChangeShapes Go.WideShapes Go.ChangeAt Go.RowKit Go.Shelf
set_option linter.unusedVariables false

theorem make_any (w : World) : Calls Try.prog 28 #[] w fun e w' => e = .returned (.pointer (some ⟨w.heap.size, 0, none⟩)) ∧ w'.heap[w.heap.size]? = some (.cells #[.bool true, .slice none 0 0, .bool false] 69 (0, 0)) ∧ After w w' := by
  go_enter Try.func28, Try.ntmps28
  go_wp2_with fail
  go_ret
  exact ⟨rfl, World.alloc_heap_new w _, (Below.refl _ w).alloc (Nat.le_refl _) _⟩

/-- What a reader has: these bytes. -/
def Rdr (B : Nat) (w : World) (zs : List Int) : Prop := ∃ (a : Option Addr) (cap : Nat), w.heap[B]? = some (.cells #[.bool true, .slice a zs.length cap, .bool false] 73 (0, 0)) ∧ Sl .u8 w a zs.length cap zs
theorem sl_set {w : World} {a : Option Addr} {len cap : Nat} {zs : List Int} (h : Sl .u8 w a len cap zs) {B : Nat} {m f : Bool} {v : Value} {T : TypeId} (hv : ∀ x, v ≠ .int .u8 x) (hB : w.heap[B]? = some (.cells #[.bool m, v, .bool f] T (0, 0))) (j : Nat) (u : Value) : Sl .u8 (w.setCell ⟨B, j, none⟩ u) a len cap zs := by
  obtain ⟨h1, h2, h3, h4, h5⟩ := h
  refine ⟨h1, h2, h3, h4, fun i hi => ?_⟩
  obtain ⟨b, off, e, hc⟩ := h5 i hi
  refine ⟨b, off, e, ?_⟩
  have hne : b ≠ B := by
    intro e2
    subst e2
    rw [cell_of_row w b (off + i) _ T (0, 0) hB] at hc
    match h9 : off + i with
    | 0 => rw [h9] at hc; cases hc
    | 1 => rw [h9] at hc; exact hv _ (Option.some.inj hc)
    | 2 => rw [h9] at hc; cases hc
    | k + 3 => rw [h9] at hc; simp at hc
  exact (World.cell?_of_block (w := w) (a := ⟨b, off + i, none⟩) (Below.heap_setCell w ⟨B, j, none⟩ u b hne)).trans hc

theorem new_any (a : Option Addr) (len cap : Nat) (zs : List Int) (w : World) (hl : len ≤ 1000000) (hsl : Sl .u8 w a len cap zs) :
    Calls Try.prog 33 #[.slice a len cap] w fun e w' => ∃ B, e = .returned (.pointer (some ⟨B, 0, none⟩)) ∧ w.heap.size ≤ B ∧ Rdr B w' zs ∧ After w w' := by
  have h0 := World.alloc_heap_new w (.cells #[.bool false, .slice none 0 0, .bool false] 73)
  have hA : After w (w.alloc (.cells #[.bool false, .slice none 0 0, .bool false] 73)) := (Below.refl _ w).alloc (Nat.le_refl _) _
  have kC := clone_any a len cap zs _ hl (hsl.below hA)
  go_enter Try.func33, Try.ntmps33
  go_wp2_with fail
  refine kC.mono ?_
  rintro e w2 ⟨a2, cap2, rfl, hO, hA2⟩
  have h2 := held_after hA2 h0
  have c0 := held_cell h2 0 _ rfl
  have c1 := held_cell h2 1 _ rfl
  have f0 := held_free h2 0
  have f1 := held_free h2 1
  replace h2 := hid h2
  replace hA2 := hid (bthen hA hA2)
  replace hO := hid hO.slf
  clear h0 hA
  go_wp2_with fail
  go_ret
  refine ⟨w.heap.size, rfl, Nat.le_refl _, ⟨a2, cap2, held_set (held_set h2.out 0 _) 1 _, ?_⟩, (hA2.out.setCell (p := ⟨w.heap.size, 0, none⟩) (Nat.le_refl _) _).setCell (p := ⟨w.heap.size, 1, none⟩) (Nat.le_refl _) _⟩
  exact sl_set (sl_set hO.out (fun x h => by cases h) h2.out 0 (.bool true)) (fun x h => by cases h) (held_set h2.out 0 (.bool true)) 1 _

theorem wbytes_good (B base : Nat) (zs : List Int) (w : World) (hl : zs.length ≤ 1000000) (h : Wr B base w zs) : Calls Try.prog 31 #[.pointer (some ⟨B, 0, none⟩)] w (BytesOk w zs) := by
  obtain ⟨a, cap, hH, hO⟩ := h
  have k := wfail_good B _ w hH
  have kC := clone_any a zs.length cap zs w hl hO.slf
  have c1 := held_cell hH 1 _ rfl
  clear hH hO
  go_enter Try.func31, Try.ntmps31
  go_wp2_with fail
  refine k.mono ?_
  rintro e w2 ⟨rfl, rfl⟩
  go_wp2_with fail
  refine kC.mono ?_
  rintro e w3 ⟨a2, cap2, rfl, hO, hA2⟩
  go_wp2_with fail
  go_ret
  exact ⟨a2, cap2, rfl, hO, hA2⟩

/-- The writer's part of the example. -/
theorem wu_513 (B base B0 : Nat) (w : World) (hW : Wr B base w []) (h1 : B0 ≤ B) (h2 : B0 ≤ base) (h3 : base ≤ w.heap.size) :
    Calls Try.prog 45 #[.pointer (some ⟨B, 0, none⟩), .int .i64 2, .int .u64 513] w fun e w' => e = .returned (.tuple #[]) ∧ Wr B base w' [1, 2] ∧ Below B0 w w' ∧ ∀ k, k < base → k ≠ B → w'.heap[k]? = w.heap[k]? := by
  have k1 := sized4_any 2 w
  have k2 := put_good B base B0 [] 2 (by omega) 513 (by omega) (by omega) w hW (by simp) h1 h2 h3
  have e : [] ++ bytesL 513 2 = [1, 2] := by decide
  rw [e] at k2
  have e2 : sizedS 2 = true := by decide
  rw [e2] at k1
  clear e e2
  go_enter Try.func45, Try.ntmps45
  go_wp2_with fail
  refine k1.mono ?_
  rintro e w2 ⟨rfl, rfl⟩
  go_wp2_with fail
  refine k2.mono ?_
  rintro e w2 ⟨rfl, hA1, hA2, hA3⟩
  go_wp2_with fail
  go_end0
  exact ⟨rfl, hA1, hA2.1, hA3⟩

end Go.Proofs.Ytekilpmmadhpoaa
