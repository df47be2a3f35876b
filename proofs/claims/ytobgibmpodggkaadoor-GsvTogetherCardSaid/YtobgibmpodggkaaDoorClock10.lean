/- The papers' texts of numbers. -/
import Derived.Test.YtobgibmpodggkaaDoorClock9
import Derived.Deep.DeepCutAuto
namespace Go.Proofs.YtobgibmpodggkaaDoor
open Go.ChangeShapes Go.WideShapes Go.ChangeAt Go.RowKit
set_option linter.unusedVariables false

theorem sl_one24 (w : World) (x : Int) (E : TypeId) : Sl .u8 (w.alloc (.cells #[.int .u8 x] E)) (some ⟨w.heap.size, 0, none⟩) 1 1 [x] := ⟨rfl, Nat.le_refl _, by unfold maxLen; omega, (fun h => nomatch h), rd_one w .u8 x E⟩
def strL (v : Value) : Nat := match v with | .string t => t.size | _ => 0
set_option maxRecDepth 100000 in
set_option maxHeartbeats 4000000 in
theorem rdig2_any (n : Int) (w : World) (h0 : 0 ≤ n) (h1 : n ≤ 99) : Calls Tryd.prog 50 #[.int .i64 n, .int .i64 2] w fun e w' => e = .returned (.string (d2 n)) ∧ Below w.heap.size w w' := by
  obtain ⟨R, hR⟩ : ∃ R, d2 n = R := ⟨_, rfl⟩
  rw [hR]
  replace hR := hid hR
  have e1 : n / 10 / 10 = 0 := by omega
  go_enter Tryd.func50, Tryd.ntmps50
  go_wp2_with fail
  go_loopw [0, 5] (fun x s wr => ((x = .int .i64 n ∧ s = .string { data := #[] }) ∨ (x = .int .i64 (n / 10) ∧ s = .string (textOf [48 + n % 10])) ∨ (x = .int .i64 0 ∧ s = .string R)) ∧ Below w.heap.size w wr) (fun _ s _ => 3 - strL s)
  case atStart => exact ⟨.inl ⟨rfl, rfl⟩, Below.refl _ _⟩
  case round =>
    have hRz : R.size = 2 := by rw [← hR.out]; exact d2_size n
    replace hRz := hid hRz
    obtain ⟨⟨rfl, rfl⟩ | ⟨rfl, rfl⟩ | ⟨rfl, rfl⟩, hB⟩ := hrel
    · have q2 : 0 ≤ n % 10 ∧ n % 10 ≤ 9 := by omega
      have hcv := (sl_one24 wr (48 + n % 10) 5).text (P := Tryd.prog) 90 9 5 rfl rfl rfl
      have zA := textOf_size [48 + n % 10]
      generalize hA : textOf [48 + n % 10] = A at *
      replace hA := hid hA
      have z1 : A.size = 1 := zA
      clear zA
      have y1 : ¬ (9223372036854775807 < A.size) := by omega
      replace z1 := hid z1
      have hAe : A ++ { data := #[] } = A := by rw [← hA.out, ← textOf_nil, textOf_app]; rfl
      go_wp2_with fail
      all_goals go_roundw
      all_goals first | exact ⟨.inr (.inl ⟨rfl, rfl⟩), balloc hB (Nat.le_refl _) _⟩ | (have := z1.out; show 3 - A.size < 3 - 0; omega)
    · have q2 : 0 ≤ n % 10 ∧ n % 10 ≤ 9 := by omega
      have q3 : 0 ≤ n / 10 ∧ n / 10 ≤ 9 := by omega
      have e2 : n / 10 % 10 = n / 10 := by omega
      have hcv := (sl_one24 wr (48 + n / 10) 5).text (P := Tryd.prog) 90 9 5 rfl rfl rfl
      have zA := textOf_size [48 + n % 10]
      have zB := textOf_size [48 + n / 10]
      have hAB : textOf [48 + n / 10] ++ textOf [48 + n % 10] = R := by rw [textOf_app, ← hR.out]; rfl
      generalize textOf [48 + n % 10] = A at *
      generalize textOf [48 + n / 10] = B at *
      have z1 : A.size = 1 := zA
      have z2 : B.size = 1 := zB
      clear zA zB
      have y1 : ¬ (9223372036854775807 < B.size + A.size) := by omega
      have y2 : (1 : Int) < 2 := by omega
      replace hAB := hid hAB
      go_wp2_with fail
      all_goals go_roundw
      all_goals first | exact ⟨.inr (.inr ⟨by rw [e1], by rw [hAB.out]⟩), balloc hB (Nat.le_refl _) _⟩ | (have := hRz.out; rw [hAB.out]; show 3 - R.size < 3 - A.size; omega)
    · have hRz2 := hRz.out
      go_wp2_with fail
      all_goals go_ret
      all_goals exact ⟨rfl, hB⟩
set_option maxRecDepth 100000 in
set_option maxHeartbeats 4000000 in
theorem rdig1_any (n : Int) (w : World) (h0 : 0 ≤ n) (h1 : n ≤ 9) : Calls Tryd.prog 50 #[.int .i64 n, .int .i64 1] w fun e w' => e = .returned (.string (d1 n)) ∧ Below w.heap.size w w' := by
  obtain ⟨R, hR⟩ : ∃ R, d1 n = R := ⟨_, rfl⟩
  rw [hR]
  replace hR := hid hR
  have e1 : n / 10 = 0 := by omega
  go_enter Tryd.func50, Tryd.ntmps50
  go_wp2_with fail
  go_loopw [0, 5] (fun x s wr => ((x = .int .i64 n ∧ s = .string { data := #[] }) ∨ (x = .int .i64 0 ∧ s = .string R)) ∧ Below w.heap.size w wr) (fun _ s _ => 3 - strL s)
  case atStart => exact ⟨.inl ⟨rfl, rfl⟩, Below.refl _ _⟩
  case round =>
    have hRz : R.size = 1 := by rw [← hR.out]; exact d1_size n
    replace hRz := hid hRz
    obtain ⟨⟨rfl, rfl⟩ | ⟨rfl, rfl⟩, hB⟩ := hrel
    · have q2 : 0 ≤ n % 10 ∧ n % 10 ≤ 9 := by omega
      have hcv := (sl_one24 wr (48 + n % 10) 5).text (P := Tryd.prog) 90 9 5 rfl rfl rfl
      have zA := textOf_size [48 + n % 10]
      generalize hA : textOf [48 + n % 10] = A at *
      replace hA := hid hA
      have z1 : A.size = 1 := zA
      clear zA
      have y1 : ¬ (9223372036854775807 < A.size) := by omega
      replace z1 := hid z1
      have hAe : A ++ { data := #[] } = A := by rw [← hA.out, ← textOf_nil, textOf_app]; rfl
      have e2 : n % 10 = n := by omega
      have hAR : A = R := by rw [← hA.out, ← hR.out, e2]; rfl
      replace hAR := hid hAR
      replace e2 := hid e2
      go_wp2_with fail
      all_goals go_roundw
      all_goals first | exact ⟨.inr ⟨by rw [e1], by rw [hAR.out]⟩, balloc hB (Nat.le_refl _) _⟩ | (have := z1.out; show 3 - A.size < 3 - 0; omega)
    · have hRz2 := hRz.out
      go_wp2_with fail
      all_goals go_ret
      all_goals exact ⟨rfl, hB⟩
def dAll (l : List Nat) : Bool := l.all dgB
theorem sb_take_all {s : ByteArray} {k : Nat} (hk : k < s.size) (h : dAll ((sb s).take k) = true) : dAll ((sb s).take (k + 1)) = dgB ((sb s).getD k 0) := by
  unfold dAll at *
  have hl : k < (sb s).length := by rw [sb_len]; exact hk
  rw [List.take_succ_eq_append_getElem hl, List.all_append, h, List.getD_eq_getElem?_getD, List.getElem?_eq_getElem hl]
  simp
theorem all_no {l : List Nat} {k : Nat} (h : dAll (l.take k) = false) : dAll l = false := by
  unfold dAll at *
  rw [← List.take_append_drop k l, List.all_append, h]; rfl
end Go.Proofs.YtobgibmpodggkaaDoor
