/- Slices of bytes: what calls hand back; a library function that copies one. -/
import Derived.Test.YtekilpmmadhpoaaSlices
import Derived.Lib.LazyBuf
namespace Go.Proofs.Ytekilpmmadhpoaa
open Go.ChangeShapes Go.WideShapes Go.ChangeAt Go.RowKit
set_option linter.unusedVariables false

theorem bytesOf : IntsOf Try.prog 33 5 .u8 1 := ⟨Try.underlying33, by kernel_rfl⟩
theorem sl_nil (k : IntKind) (w : World) : Sl k w none 0 0 [] := ⟨rfl, by omega, by unfold maxLen; omega, fun _ => rfl, Rd.nil _ _ _⟩
theorem sl_lit (k : IntKind) (E : TypeId) (w : World) (zs : List Int) (hm : zs.length ≤ maxLen) (cs : Array Value) (hcs : cs = (zs.map (Value.int k)).toArray) (n : Nat) (hn : zs.length = n) : Sl k (w.alloc (.cells cs E)) (some ⟨w.heap.size, 0, none⟩) n n zs := by
  subst hn
  obtain ⟨a, cap, hv, hs⟩ := (Own.lit k E w zs w.heap.size (Nat.le_refl _) hm cs hcs).sl
  cases hv
  exact hs
/-- A slice of bytes in new memory that holds L. -/
def BytesOk (w : World) (L : List Int) (e : Ending) (w' : World) : Prop := ∃ a cap, e = .returned (.slice a L.length cap) ∧ Own .u8 5 w' w.heap.size (.slice a L.length cap) L ∧ After w w'
/-- Such a slice, and whether there is one. -/
def OpenOk (w : World) (r : Option (List Int)) (e : Ending) (w' : World) : Prop := ∃ a cap, e = .returned (.tuple #[.slice a (r.getD []).length cap, .bool r.isSome]) ∧ Own .u8 5 w' w.heap.size (.slice a (r.getD []).length cap) (r.getD []) ∧ After w w'
theorem Own.slf {k : IntKind} {E : TypeId} {w : World} {base : Nat} {a : Option Addr} {n cap : Nat} {zs : List Int} (h : Own k E w base (.slice a n cap) zs) : Sl k w a n cap zs := by
  obtain ⟨a', cap', hv, hs⟩ := h.sl
  cases hv; exact hs
theorem byte_wf {n : Int} (h1 : 0 ≤ n) (h2 : n ≤ 255) : (Lit.int .u8 n).wf = true := by
  have h3 : IntKind.u8.min = 0 := rfl
  have h4 : IntKind.u8.max = 255 := rfl
  simp [Lit.wf, h3, h4]; exact ⟨h1, h2⟩
theorem bytes_bd {zs : List Int} (h : ∀ n ∈ zs, (Lit.int .u8 n).wf = true) : ∀ n ∈ zs, 0 ≤ n ∧ n ≤ 255 := fun n hn => by have := bounds_u8 (h n hn); omega
theorem bytes_wf {zs : List Int} (h : ∀ n ∈ zs, 0 ≤ n ∧ n ≤ 255) : ∀ n ∈ zs, (Lit.int .u8 n).wf = true := fun n hn => byte_wf (h n hn).1 (h n hn).2

/-- A cell of one's own slice is written. -/
theorem Own.set {k : IntKind} {E : TypeId} {w : World} {base : Nat} {a : Option Addr} {n cap : Nat} {zs : List Int} (h : Own k E w base (.slice a n cap) zs) (i : Nat) (hi : i < zs.length) :
    ∃ g, a = some ⟨g, 0, none⟩ ∧ base ≤ g ∧ w.cell? ⟨g, i, none⟩ = some (.int k (zs.getD i 0)) ∧ w.frozen? ⟨g, i, none⟩ = false ∧ ∀ x, Own k E (w.setCell ⟨g, i, none⟩ (.int k x)) base (.slice a n cap) (zs.set i x) := by
  rcases h.2 with ⟨h1, h2⟩ | ⟨g, c, cur, h1, h2, h3, h4, h5, h6, h7⟩
  · omega
  · cases h1
    rw [Nat.mul_one] at h6 h7
    have hc : i < cur.size := by omega
    have e1 : cur[i]? = some (.int k (zs.getD i 0)) := by
      have e2 := congrArg (fun l => l[i]?) h7
      simp only [List.getElem?_take_of_lt hi, Array.getElem?_toList, List.getElem?_map] at e2
      rw [e2]; simp [hi]
    refine ⟨g, rfl, h2, ?_, frozen_of_row w g i cur E h3, fun x => ?_⟩
    · rw [cell_of_row w g i cur E (0, 0) h3]; exact e1
    · refine ⟨by simp, .inr ⟨g, _, cur.setIfInBounds i (.int k x), by rw [List.length_set], h2, heap_setCell_same w g i cur E _ h3, by rw [List.length_set]; exact h4, h5, by simp; omega, ?_⟩⟩
      rw [List.length_set, Nat.mul_one, Array.toList_setIfInBounds, List.map_set, List.take_set, h7]

set_option maxHeartbeats 1000000 in
theorem clone_any (a : Option Addr) (len cap : Nat) (zs : List Int) (w : World) (hl : len ≤ 1000000) (hsl : Sl .u8 w a len cap zs) :
    Calls Try.prog 40 #[.slice a len cap] w (BytesOk w zs) := by
  cases a with
  | none =>
    have hc := hsl.2.2.2.1 rfl
    have h1 := hsl.2.1
    have h2 := hsl.1
    obtain rfl : cap = 0 := hc
    obtain rfl : len = 0 := by omega
    obtain rfl : zs = [] := List.length_eq_zero_iff.1 h2
    have hnil := run_eql_slice_nil (P := Try.prog) w 33 5 none 0 0 Try.underlying33
    go_enter Try.func40, Try.ntmps40
    go_wp2_with fail
    go_ret
    exact ⟨none, 0, rfl, Own.nil _ _ _ _, After.refl _⟩
  | some x =>
    have hlen := hsl.1
    have be3 : Below w.heap.size w (w.alloc (.cells #[] 5)) := (Below.refl _ _).alloc (Nat.le_refl _) _
    have ho := Own.lit .u8 5 w [] w.heap.size (Nat.le_refl _) (by simp) #[] rfl
    have sl2 := hsl.below be3
    have sz3 := be3.size
    have hnil := run_eql_slice_nil (P := Try.prog) w 33 5 (some x) len cap Try.underlying33
    go_enter Try.func40, Try.ntmps40
    go_wp2_with (first
      | (at_builtin; refine wpList_appS _ w rfl (.tmp 5) (.tmp 6) 33 rfl w.heap.size w.heap.size 5 .u8 1 bytesOf (.slice (some ⟨w.heap.size, 0, none⟩) 0 0) [] rfl ho (some x) len cap zs rfl sl2 (by simp; omega) (by decide) be3 (Nat.le_refl _) sz3 ?_))
    intro a3 c3 w3 own3 bel3
    have HH := hid own3
    clear own3
    go_wp2_with fail
    go_ret
    have h := HH.out
    rw [← hlen] at h
    exact ⟨a3, c3, by rw [hlen]; rfl, h, bel3⟩

end Go.Proofs.Ytekilpmmadhpoaa
