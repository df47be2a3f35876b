/- Package pvt: the papers' Values. -/
import Derived.Test.YtfihdgichmocmaaPvt6
import Derived.Deep.DeepCutAuto
namespace Go.Proofs.Ytfihdgichmocmaa
open Go.ChangeShapes Go.WideShapes Go.ChangeAt Go.RowKit
set_option linter.unusedVariables false
set_option linter.unusedSimpArgs false

theorem outV_lit (x0 x1 x2 x3 x4 x5 x6 x7 x8 x9 x10 x11 x12 x13 x14 x15 x16 x17 x18 x19 x20 x21 x22 x23 x24 x25 x26 x27 x28 x29 x30 x31 : Int) : outV [x0, x1, x2, x3, x4, x5, x6, x7, x8, x9, x10, x11, x12, x13, x14, x15, x16, x17, x18, x19, x20, x21, x22, x23, x24, x25, x26, x27, x28, x29, x30, x31] = [x0, x1, x2, x3, x4, x5, x6, x7, x8, x9, x10, x11, x12, x13, x14, x15, x16, x17, x18, x19, x20, x21, x22, x23, x24, x25, x26, x27, x28, 0, x29, x30, x31] := rfl
theorem list33 {vs : List Int} (h : vs.length = 33) : ∃ f : Nat → Int, vs = (List.range 33).map f ∧ ∀ i, vs.getD i 0 = if i < 33 then f i else 0 := by
  refine ⟨fun i => vs.getD i 0, List.ext_getElem (by simp [h]) fun i h1 h2 => ?_, fun i => ?_⟩
  · rw [List.getElem_map, List.getElem_range, List.getD_eq_getElem?_getD, List.getElem?_eq_getElem h1]; rfl
  · split
    · rfl
    · rw [List.getD_eq_getElem?_getD, List.getElem?_eq_none (by omega)]; rfl
set_option maxRecDepth 100000 in
set_option maxHeartbeats 2000000 in
theorem inP_lit {vs : List Int} (h : vs.length = 33) : inP vs z32 = [vs.getD 0 0, vs.getD 1 0, vs.getD 2 0, vs.getD 3 0, vs.getD 4 0, vs.getD 5 0, vs.getD 6 0, vs.getD 7 0, vs.getD 8 0, vs.getD 9 0, vs.getD 10 0, vs.getD 11 0, vs.getD 12 0, vs.getD 13 0, vs.getD 14 0, vs.getD 15 0, vs.getD 16 0, vs.getD 17 0, vs.getD 18 0, vs.getD 19 0, vs.getD 20 0, vs.getD 21 0, vs.getD 22 0, vs.getD 23 0, vs.getD 24 0, vs.getD 25 0, vs.getD 26 0, vs.getD 27 0, vs.getD 28 0, vs.getD 30 0, vs.getD 31 0, vs.getD 32 0] := by
  obtain ⟨f, rfl, hf⟩ := list33 h
  kernel_rfl
set_option maxRecDepth 100000 in
set_option maxHeartbeats 8000000 in
theorem rvalues_any (x0 x1 x2 x3 x4 x5 x6 x7 x8 x9 x10 x11 x12 x13 x14 x15 x16 x17 x18 x19 x20 x21 x22 x23 x24 x25 x26 x27 x28 x29 x30 x31 : Int) (w : World) : Calls Try.prog 15 #[.agg #[.int .i64 x0, .int .i64 x1, .int .i64 x2, .int .i64 x3, .int .i64 x4, .int .i64 x5, .int .i64 x6, .int .i64 x7, .int .i64 x8, .int .i64 x9, .int .i64 x10, .int .i64 x11, .int .i64 x12, .int .i64 x13, .int .i64 x14, .int .i64 x15, .int .i64 x16, .int .i64 x17, .int .i64 x18, .int .i64 x19, .int .i64 x20, .int .i64 x21, .int .i64 x22, .int .i64 x23, .int .i64 x24, .int .i64 x25, .int .i64 x26, .int .i64 x27, .int .i64 x28, .int .i64 x29, .int .i64 x30, .int .i64 x31]] w fun e w' => ∃ V : Nat, e = .returned (.slice (some ⟨V, 0, none⟩) 33 33) ∧ Row .i64 2 w' V [x0, x1, x2, x3, x4, x5, x6, x7, x8, x9, x10, x11, x12, x13, x14, x15, x16, x17, x18, x19, x20, x21, x22, x23, x24, x25, x26, x27, x28, 0, x29, x30, x31] ∧ w.heap.size ≤ V ∧ After w w' := by
  have nP := alloc_new w (.cells #[.int .i64 x0, .int .i64 x1, .int .i64 x2, .int .i64 x3, .int .i64 x4, .int .i64 x5, .int .i64 x6, .int .i64 x7, .int .i64 x8, .int .i64 x9, .int .i64 x10, .int .i64 x11, .int .i64 x12, .int .i64 x13, .int .i64 x14, .int .i64 x15, .int .i64 x16, .int .i64 x17, .int .i64 x18, .int .i64 x19, .int .i64 x20, .int .i64 x21, .int .i64 x22, .int .i64 x23, .int .i64 x24, .int .i64 x25, .int .i64 x26, .int .i64 x27, .int .i64 x28, .int .i64 x29, .int .i64 x30, .int .i64 x31] 23)
  have hA := nP.2.1
  have hP := nP.2.2
  have hs : (w.alloc (.cells #[.int .i64 x0, .int .i64 x1, .int .i64 x2, .int .i64 x3, .int .i64 x4, .int .i64 x5, .int .i64 x6, .int .i64 x7, .int .i64 x8, .int .i64 x9, .int .i64 x10, .int .i64 x11, .int .i64 x12, .int .i64 x13, .int .i64 x14, .int .i64 x15, .int .i64 x16, .int .i64 x17, .int .i64 x18, .int .i64 x19, .int .i64 x20, .int .i64 x21, .int .i64 x22, .int .i64 x23, .int .i64 x24, .int .i64 x25, .int .i64 x26, .int .i64 x27, .int .i64 x28, .int .i64 x29, .int .i64 x30, .int .i64 x31] 23)).heap.size = w.heap.size + 1 := Array.size_push _
  clear nP
  go_enter Try.func15, Try.ntmps15
  go_upto_region 1 with (fail)
  obtain ⟨W1, hW1⟩ : ∃ X, w.alloc (.cells #[.int .i64 x0, .int .i64 x1, .int .i64 x2, .int .i64 x3, .int .i64 x4, .int .i64 x5, .int .i64 x6, .int .i64 x7, .int .i64 x8, .int .i64 x9, .int .i64 x10, .int .i64 x11, .int .i64 x12, .int .i64 x13, .int .i64 x14, .int .i64 x15, .int .i64 x16, .int .i64 x17, .int .i64 x18, .int .i64 x19, .int .i64 x20, .int .i64 x21, .int .i64 x22, .int .i64 x23, .int .i64 x24, .int .i64 x25, .int .i64 x26, .int .i64 x27, .int .i64 x28, .int .i64 x29, .int .i64 x30, .int .i64 x31] 23) = X := ⟨_, rfl⟩
  rw [hW1] at hA hP hs ⊢
  obtain ⟨P, hPe⟩ : ∃ X, w.heap.size = X := ⟨_, rfl⟩
  rw [hPe] at hP hs ⊢
  have z0 := held_cell hP 0 _ rfl
  have z1 := held_cell hP 1 _ rfl
  have z2 := held_cell hP 2 _ rfl
  have z3 := held_cell hP 3 _ rfl
  have z4 := held_cell hP 4 _ rfl
  have z5 := held_cell hP 5 _ rfl
  have z6 := held_cell hP 6 _ rfl
  have z7 := held_cell hP 7 _ rfl
  have z8 := held_cell hP 8 _ rfl
  have z9 := held_cell hP 9 _ rfl
  have z10 := held_cell hP 10 _ rfl
  have z11 := held_cell hP 11 _ rfl
  have z12 := held_cell hP 12 _ rfl
  have z13 := held_cell hP 13 _ rfl
  have z14 := held_cell hP 14 _ rfl
  have z15 := held_cell hP 15 _ rfl
  have z16 := held_cell hP 16 _ rfl
  have z17 := held_cell hP 17 _ rfl
  have z18 := held_cell hP 18 _ rfl
  have z19 := held_cell hP 19 _ rfl
  have z20 := held_cell hP 20 _ rfl
  have z21 := held_cell hP 21 _ rfl
  have z22 := held_cell hP 22 _ rfl
  have z23 := held_cell hP 23 _ rfl
  have z24 := held_cell hP 24 _ rfl
  have z25 := held_cell hP 25 _ rfl
  have z26 := held_cell hP 26 _ rfl
  have z27 := held_cell hP 27 _ rfl
  have z28 := held_cell hP 28 _ rfl
  have z29 := held_cell hP 29 _ rfl
  have z30 := held_cell hP 30 _ rfl
  have z31 := held_cell hP 31 _ rfl
  have nV := alloc_new W1 (.cells #[.int .i64 x0, .int .i64 x1, .int .i64 x2, .int .i64 x3, .int .i64 x4, .int .i64 x5, .int .i64 x6, .int .i64 x7, .int .i64 x8, .int .i64 x9, .int .i64 x10, .int .i64 x11, .int .i64 x12, .int .i64 x13, .int .i64 x14, .int .i64 x15, .int .i64 x16, .int .i64 x17, .int .i64 x18, .int .i64 x19, .int .i64 x20, .int .i64 x21, .int .i64 x22, .int .i64 x23, .int .i64 x24, .int .i64 x25, .int .i64 x26, .int .i64 x27, .int .i64 x28, .int .i64 0, .int .i64 x29, .int .i64 x30, .int .i64 x31] 2)
  have hV := hid (show Row .i64 2 (W1.alloc (.cells #[.int .i64 x0, .int .i64 x1, .int .i64 x2, .int .i64 x3, .int .i64 x4, .int .i64 x5, .int .i64 x6, .int .i64 x7, .int .i64 x8, .int .i64 x9, .int .i64 x10, .int .i64 x11, .int .i64 x12, .int .i64 x13, .int .i64 x14, .int .i64 x15, .int .i64 x16, .int .i64 x17, .int .i64 x18, .int .i64 x19, .int .i64 x20, .int .i64 x21, .int .i64 x22, .int .i64 x23, .int .i64 x24, .int .i64 x25, .int .i64 x26, .int .i64 x27, .int .i64 x28, .int .i64 0, .int .i64 x29, .int .i64 x30, .int .i64 x31] 2)) W1.heap.size [x0, x1, x2, x3, x4, x5, x6, x7, x8, x9, x10, x11, x12, x13, x14, x15, x16, x17, x18, x19, x20, x21, x22, x23, x24, x25, x26, x27, x28, 0, x29, x30, x31] from nV.2.2)
  have hA2 := hid (bthen hA nV.2.1)
  replace hW1 := hid hW1
  replace hPe := hid hPe
  replace hs := hid hs
  clear nV hA hP
  go_wp2_with fail
  go_ret
  exact ⟨_, rfl, hV.out, by have := hs.out; have := hPe.out; omega, hA2.out⟩

end Go.Proofs.Ytfihdgichmocmaa
