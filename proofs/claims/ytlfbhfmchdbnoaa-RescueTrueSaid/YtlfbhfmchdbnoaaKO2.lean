/- Several texts in one: Octet4, Octet5, Octet7, Octet8. -/
import Derived.Test.YtlfbhfmchdbnoaaOctet3
import Derived.Test.YtlfbhfmchdbnoaaKB
import Derived.RegionTactic
import Derived.ChangeAlike
import Derived.Deep.DeepCutAuto
import Derived.Laws.BitsAllLaws
import Derived.Laws.ShiftsVarLaws

/- Package octet: writing numbers. -/
namespace Go.Proofs.Ytlfbhfmchdbnoaa
open Go.ChangeShapes Go.WideShapes Go.ChangeAt Go.RowKit Go.Shelf
set_option linter.unusedVariables false

def bytesL (u : Int) (n : Nat) : List Int := (lowL u n).map (fun x => x.1)
theorem rfail_good (B : Nat) (v : Value) (w : World) (hB : w.heap[B]? = some (.cells #[.bool true, v, .bool false] 111 (0, 0))) : Calls Try.prog 62 #[.pointer (some ⟨B, 0, none⟩)] w fun e w' => e = .returned (.bool false) ∧ w' = w := by
  have h0 := held_cell hB 0 _ rfl
  have h2 := held_cell hB 2 _ rfl
  go_enter Try.func62, Try.ntmps62
  go_wp2_with fail
  go_ret
  exact ⟨rfl, rfl⟩

theorem held_mark {W : World} {D g : Nat} {c : Array Value} {T : TypeId} {f : Nat × Nat} (h : W.heap[g]? = some (.cells c T f)) (hK : W.heap[D]? = some (.deferred (some []))) (o : Obj) : (W.putObj D o).heap[g]? = some (.cells c T f) := by
  rw [World.putObj_heap_other (fun e => by subst e; rw [h] at hK; cases hK)]; exact h
theorem RX.alloc (X : Option Nat) (w : World) (o : Obj) : RX X w (w.alloc o) := ⟨by simp, fun k hk _ => Below.heap_alloc _ _ _ hk⟩
theorem RX.of_grown {X : Option Nat} {w w2 : World} (h : w.grownBy w2 X) : RX X w w2 := ⟨h.size, fun k hk hne => h.block k hk hne⟩
theorem wpIn_region_T {P : Program} {ops : Array Oper} {Q : Exit → Act → World → Prop} {l n : Nat} {id : Nat} {a : Act} {w : World} (X : Option Nat) (last : Nat) (hd : noDefer ops = true) (hQ : ¬ LetsOut Q) (hm : P.follows .mixedOrders = true)
    (h : wpAnyT P .any X last ops Q ops.size (Array.replicate ops.size false) a w.drew) : (Code.region id ops true).wpIn (Fence.wide.inRound l) n P Q a w :=
  wpIn_region_any hm (wpAnyIn_of_plain hd hQ _ _ _ _ (wpAny_of_T _ _ _ _ h))

/-- Only this writer's blocks, and those from B0 on, are changed. -/
def Bw (B B0 : Nat) (w w' : World) : Prop := Below B0 w w' ∧ Owp B 1 w w'
end Go.Proofs.Ytlfbhfmchdbnoaa

/- Package octet: new readers and writers; the chapter's example. -/
namespace Go.Proofs.Ytlfbhfmchdbnoaa
open Go.ChangeShapes Go.WideShapes Go.ChangeAt Go.RowKit Go.Shelf
set_option linter.unusedVariables false

/-- What a reader has: these bytes. -/
def Rdr (B : Nat) (w : World) (zs : List Int) : Prop := ∃ (a : Option Addr) (cap : Nat), w.heap[B]? = some (.cells #[.bool true, .slice a zs.length cap, .bool false] 111 (0, 0)) ∧ Sl .u8 w a zs.length cap zs
theorem sl_set {w : World} {a : Option Addr} {len cap : Nat} {zs : List Int} (h : Sl .u8 w a len cap zs) {B : Nat} {m f : Bool} {v : Value} {T : TypeId} (hv : ∀ x, v ≠ .int .u8 x) (hB : w.heap[B]? = some (.cells #[.bool m, v, .bool f] T (0, 0))) (j : Nat) (u : Value) : Sl .u8 (w.setCell ⟨B, j, none⟩ u) a len cap zs := by
  obtain ⟨h1, h2, h3, h4, h5⟩ := h
  refine ⟨h1, h2, h3, h4, fun i hi => ?_⟩
  obtain ⟨b, off, e, hc⟩ := h5 i hi
  refine ⟨b, off, e, ?_⟩
  have hne : b ≠ B := by
    intro e2
    subst e2
    rw [cell_of_row w b (off + i) _ T (0, 0) hB] at hc
    match h9 : off + i with
    | 0 => rw [h9] at hc; cases hc
    | 1 => rw [h9] at hc; exact hv _ (Option.some.inj hc)
    | 2 => rw [h9] at hc; cases hc
    | k + 3 => rw [h9] at hc; simp at hc
  exact (World.cell?_of_block (w := w) (a := ⟨b, off + i, none⟩) (Below.heap_setCell w ⟨B, j, none⟩ u b hne)).trans hc

theorem new_any (a : Option Addr) (len cap : Nat) (zs : List Int) (w : World) (hl : len ≤ 1000000) (hsl : Sl .u8 w a len cap zs) :
    Calls Try.prog 45 #[.slice a len cap] w fun e w' => ∃ B, e = .returned (.pointer (some ⟨B, 0, none⟩)) ∧ w.heap.size ≤ B ∧ Rdr B w' zs ∧ After w w' := by
  have h0 := World.alloc_heap_new w (.cells #[.bool false, .slice none 0 0, .bool false] 111)
  have hA : After w (w.alloc (.cells #[.bool false, .slice none 0 0, .bool false] 111)) := (Below.refl _ w).alloc (Nat.le_refl _) _
  have kC := clone_any a len cap zs _ hl (hsl.below hA)
  go_enter Try.func45, Try.ntmps45
  go_wp2_with fail
  refine kC.mono ?_
  rintro e w2 ⟨a2, cap2, rfl, hO, hA2⟩
  have h2 := held_after hA2 h0
  have c0 := held_cell h2 0 _ rfl
  have c1 := held_cell h2 1 _ rfl
  have f0 := held_free h2 0
  have f1 := held_free h2 1
  replace h2 := hid h2
  replace hA2 := hid (bthen hA hA2)
  replace hO := hid hO.slf
  clear h0 hA
  go_wp2_with fail
  go_ret
  refine ⟨w.heap.size, rfl, Nat.le_refl _, ⟨a2, cap2, held_set (held_set h2.out 0 _) 1 _, ?_⟩, (hA2.out.setCell (p := ⟨w.heap.size, 0, none⟩) (Nat.le_refl _) _).setCell (p := ⟨w.heap.size, 1, none⟩) (Nat.le_refl _) _⟩
  exact sl_set (sl_set hO.out (fun x h => by cases h) h2.out 0 (.bool true)) (fun x h => by cases h) (held_set h2.out 0 (.bool true)) 1 _

end Go.Proofs.Ytlfbhfmchdbnoaa

/- Package octet: what has failed. -/
namespace Go.Proofs.Ytlfbhfmchdbnoaa
open Go.ChangeShapes Go.WideShapes Go.ChangeAt Go.RowKit Go.Shelf
set_option linter.unusedVariables false

/-- It has failed, and has nothing. -/
def Failed (T : TypeId) (B : Nat) (w : World) : Prop := w.heap[B]? = some (.cells #[.bool true, .slice none 0 0, .bool true] T (0, 0))
theorem Failed.later {T : TypeId} {B : Nat} {w w' : World} (h : Failed T B w) (hA : After w w') : Failed T B w' := held_after hA h

theorem rfail_failed (B : Nat) (w : World) (h : Failed 111 B w) : Calls Try.prog 62 #[.pointer (some ⟨B, 0, none⟩)] w fun e w' => e = .returned (.bool true) ∧ w' = w := by
  have h0 := held_cell h 0 _ rfl
  have h2 := held_cell h 2 _ rfl
  go_enter Try.func62, Try.ntmps62
  go_wp2_with fail
  go_ret
  exact ⟨rfl, rfl⟩
theorem next_failed (B : Nat) (n : Int) (b : Bool) (w : World) (h : Failed 111 B w) : Calls Try.prog 55 #[.pointer (some ⟨B, 0, none⟩), .int .i64 n, .bool b] w fun e w' => e = .returned (.tuple #[.slice none 0 0, .bool false]) ∧ w' = w := by
  have k := rfail_failed B w h
  go_enter Try.func55, Try.ntmps55
  go_wp2_with fail
  refine k.mono ?_
  rintro e w2 ⟨rfl, rfl⟩
  go_wp2_with fail
  go_ret2
  exact ⟨rfl, rfl⟩
end Go.Proofs.Ytlfbhfmchdbnoaa

/- Package octet: a writer's U, in whatever state. -/
namespace Go.Proofs.Ytlfbhfmchdbnoaa
open Go.ChangeShapes Go.WideShapes Go.ChangeAt Go.RowKit Go.Shelf
set_option linter.unusedVariables false

/-- Does a number fit n bytes? -/
def fitU (n u : Int) : Bool := decide (1 ≤ n ∧ n ≤ 8 ∧ u < 256 ^ n.toNat)
end Go.Proofs.Ytlfbhfmchdbnoaa
