/- The laws of layer 14. -/
import Derived.Test.YtekilpmmadhpoaaShapeBack
import Derived.Test.YtekilpmmadhpoaaSame
import Derived.Deep.DeepCutAuto
namespace Go.Proofs.Ytekilpmmadhpoaa
open Go.ChangeShapes Go.WideShapes Go.ChangeAt Go.RowKit
set_option linter.unusedVariables false
set_option linter.unusedSimpArgs false

theorem txt_sl {w : World} {a : Option Addr} {len cap : Nat} {zs : List Int} (h : Sl .u8 w a len cap zs) : (convert 33 9 (.slice a len cap)).run Try.prog w = .ok (.string (textOf zs)) w :=
  h.text 33 9 5 Try.underlying33 Try.underlying5 Try.underlying9
theorem num14_any (n : Int) (w : World) (h1 : -9223372036854775808 ≤ n) (h2 : n ≤ 9223372036854775807) :
    Calls Try.prog 21 #[.int .i64 n] w fun e w' => e = .returned (.int .i64 n) ∧ w' = w := by
  go_enter Try.func21, Try.ntmps21
  go_wp2_with fail
  go_ret
  exact ⟨rfl, rfl⟩
/-- A slice of one field. -/
theorem flds_one {w : World} {q : Nat} {n lo hi : Int} {sg : Bool} {T : TypeId} (h : w.heap[q]? = some (.cells #[.int .i64 n, .bool sg, .int .i64 lo, .int .i64 hi] T (0, 0))) : Flds w (some ⟨q, 0, none⟩) 1 1 (fun _ => n) (fun _ => sg) (fun _ => lo) (fun _ => hi) := by
  refine ⟨Nat.le_refl _, by unfold maxLen; omega, (fun e => by cases e), fun i hi => ?_⟩
  obtain rfl : i = 0 := by omega
  exact ⟨q, 0, rfl, held_cell h 0 _ rfl, held_cell h 1 _ rfl, held_cell h 2 _ rfl, held_cell h 3 _ rfl⟩
theorem row_one (k : IntKind) (E : TypeId) (w : World) (x : Int) (p : Nat) (hp : p = w.heap.size) : Sl k (w.alloc (.cells #[.int k x] E)) (some ⟨p, 0, none⟩) 1 1 [x] := by
  subst hp
  exact Row.sl (show Row k E (w.alloc (.cells #[.int k x] E)) w.heap.size [x] from (alloc_new w _).2.2) (by unfold maxLen; simp)
theorem row_two (k : IntKind) (E : TypeId) (w : World) (x y : Int) (p : Nat) (hp : p = w.heap.size) : Sl k (w.alloc (.cells #[.int k x, .int k y] E)) (some ⟨p, 0, none⟩) 2 2 [x, y] := by
  subst hp
  exact Row.sl (show Row k E (w.alloc (.cells #[.int k x, .int k y] E)) w.heap.size [x, y] from (alloc_new w _).2.2) (by unfold maxLen; simp)
set_option maxRecDepth 100000 in
set_option maxHeartbeats 4000000 in
theorem knows14_any (w : World) : Calls Try.prog 6 #[] w fun e w' => e = .returned (.bool true) ∧ Below w.heap.size w w' := by
  have eU : uV 2 999 = .agg #[.int .i64 2, .bool false, .int .i64 0, .int .i64 999] := rfl
  have e1 : putF (fun _ => 2) (fun _ => false) (fun _ => 0) (fun _ => 999) 1 [513] = ([1, 2], 0) := by decide +kernel
  have e2 : putF (fun _ => 2) (fun _ => false) (fun _ => 0) (fun _ => 999) 1 [1000] = ([], 5) := by decide +kernel
  have e3 : widthS (fun _ => 2) (fun _ => false) (fun _ => 0) (fun _ => 999) 1 = 2 := by decide +kernel
  replace e1 := hid e1
  replace e2 := hid e2
  replace e3 := hid e3
  go_enter Try.func6, Try.ntmps6
  go_wp2_with fail
  refine (u_any 2 999 _).mono ?_
  rintro e w1 ⟨rfl, hA1⟩
  rw [eU]
  have f1 := flds_one (alloc_new w1 (.cells #[.int .i64 2, .bool false, .int .i64 0, .int .i64 999] 25)).2.2
  have hA2 := hid (balloc hA1 (Nat.le_refl _) (.cells #[.int .i64 2, .bool false, .int .i64 0, .int .i64 999] 25))
  have s2 := row_one .i64 2 (w1.alloc (.cells #[.int .i64 2, .bool false, .int .i64 0, .int .i64 999] 25)) 513 (w1.heap.size + 1) (by simp)
  have hA3 := hid (balloc hA2.out (Nat.le_refl _) (.cells #[.int .i64 513] 2))
  have f2 := hid (f1.below (alloc_new (w1.alloc (.cells #[.int .i64 2, .bool false, .int .i64 0, .int .i64 999] 25)) (.cells #[.int .i64 513] 2)).2.1)
  replace s2 := hid s2
  clear hA1 f1 eU
  go_wp2_with fail
  refine (sput_any _ 1 1 (fun _ => 2) (fun _ => false) (fun _ => 0) (fun _ => 999) _ 1 1 [513] _ f2.out s2.out (by simp) (by omega)).mono ?_
  rintro e w2 ⟨a1, c1, rfl, hO1, hB1⟩
  rw [e1.out] at hO1 ⊢
  have hA4 := bthen hA3.out hB1
  have f3 := f2.out.below hB1
  have s3 := row_one .i64 2 w2 1000 w2.heap.size rfl
  have hB2 := (alloc_new w2 (.cells #[.int .i64 1000] 2)).2.1
  have hA5 := hid (bthen hA4 hB2)
  have f4 := hid (f3.below hB2)
  have sO1 := hid (hO1.slf.below hB2)
  replace s3 := hid s3
  clear hA2 hA3 hA4 f2 f3 s2 hB1 hO1 hB2
  go_wp2_with fail
  refine (sput_any _ 1 1 (fun _ => 2) (fun _ => false) (fun _ => 0) (fun _ => 999) _ 1 1 [1000] _ f4.out s3.out (by simp) (by omega)).mono ?_
  rintro e w3 ⟨a2, c2, rfl, hO2, hB3⟩
  rw [e2.out] at hO2 ⊢
  have sO := sO1.out.below hB3
  have hA6 := bthen hA5.out hB3
  have f5 := f4.out.below hB3
  have c1x : (convert 33 9 (.slice a1 2 c1)).run Try.prog w3 = .ok (.string (textOf [1, 2])) w3 := txt_sl sO
  have c2x := txt_sl (row_two .u8 5 w3 1 2 w3.heap.size rfl)
  have hB4 := (alloc_new w3 (.cells #[.int .u8 1, .int .u8 2] 5)).2.1
  have hA7 := hid (bthen hA6 hB4)
  have f6 := hid (f5.below hB4)
  clear f4 f5 hA5 hA6 hB3 hB4 sO sO1 s3 hO2
  generalize textOf [1, 2] = TX at *
  go_wp2_with fail
  refine (num14_any 5 _ (by omega) (by omega)).mono ?_
  rintro e V ⟨rfl, rfl⟩
  go_wp2_with fail
  refine (num14_any 5 _ (by omega) (by omega)).mono ?_
  rintro e V ⟨rfl, rfl⟩
  go_wp2_with fail
  refine (width_any _ 1 1 (fun _ => 2) (fun _ => false) (fun _ => 0) (fun _ => 999) _ f6.out (by omega)).mono ?_
  rintro e V ⟨rfl, hB5⟩
  rw [e3.out]
  have hA8 := hid (bthen hA7.out hB5)
  clear hB5
  go_wp2_with fail
  go_ret
  exact ⟨rfl, hA8.out⟩
theorem i64_bd {x : Int} (h : (Lit.int .i64 x).wf = true) : -9223372036854775808 ≤ x ∧ x ≤ 9223372036854775807 := by
  have := bounds_i64 h
  omega
theorem bytes_wf2 {zs : List Int} (h : ∀ x ∈ zs, 0 ≤ x ∧ x ≤ 255) : ∀ x ∈ zs, (Lit.int .u8 x).wf = true := fun x hx => byte_wf (h x hx).1 (h x hx).2

end Go.Proofs.Ytekilpmmadhpoaa
