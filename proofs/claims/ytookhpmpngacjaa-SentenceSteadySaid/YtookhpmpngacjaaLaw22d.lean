/- Laws of package sentence: Steady. -/
import Derived.Test.YtookhpmpngacjaaLaw22
import Derived.Deep.DeepCutAuto
namespace Go.Proofs.Ytookhpmpngacjaa
open Go.ChangeShapes Go.WideShapes Go.ChangeAt Go.RowKit
set_option linter.unusedVariables false
set_option linter.unusedSimpArgs false

set_option maxRecDepth 100000 in
set_option maxHeartbeats 8000000 in
theorem law_SentenceSteady (a0 : ByteArray) (a1 : ByteArray) (W : World) (w0 : a0.size ≤ maxLen) (w1 : a1.size ≤ maxLen) :
    Calls Try.prog 6 #[.string a0, .string a1] W fun e w' => e = .returned (.bool true) ∧ Below W.heap.size W w' := by
  have hB := hid (Below.refl W.heap.size W)
  obtain ⟨N, hN⟩ : ∃ N, a0.size = N := ⟨_, rfl⟩
  have hNs : (a0.size : Int) = (N : Int) := by omega
  obtain ⟨M, hM⟩ : ∃ N, a1.size = N := ⟨_, rfl⟩
  have hMs : (a1.size : Int) = (M : Int) := by omega
  clear w0 w1
  by_cases q : (500 : Int) < N
  case pos =>
    go_enter Try.func6, Try.ntmps6
    go_wp2_with fail
    refine (knows22_any _).mono ?_
    rintro e V9 ⟨rfl, hA⟩
    have hB9 := hid (bthen hB.out hA)
    clear hA
    go_wp2_with fail
    go_ret
    exact ⟨rfl, hB9.out⟩
  by_cases q2 : (500 : Int) < M
  case pos =>
    go_enter Try.func6, Try.ntmps6
    go_wp2_with fail
    refine (knows22_any _).mono ?_
    rintro e V9 ⟨rfl, hA⟩
    have hB9 := hid (bthen hB.out hA)
    clear hA
    go_wp2_with fail
    go_ret
    exact ⟨rfl, hB9.out⟩
  have hz : (a0 ++ a1).size = N + M := by rw [ByteArray.size_append]; omega
  have hadd := fun U => sadd (P := Try.prog) a0 a1 (by omega) U
  have k1 := fun U => stk_any a0 U (by omega)
  have k2 := fun U => stk_any (a0 ++ a1) U (by omega)
  have tm := take_more (t := a0) a1
  obtain ⟨A, hA_⟩ : ∃ A, a0 ++ a1 = A := ⟨_, rfl⟩
  rw [hA_] at hadd k2 tm
  clear hA_ hz
  replace hN := hid hN
  replace hM := hid hM
  have te := takeN_e a0
  have te2 := takeN_e A
  obtain ⟨⟨⟨x1, y1, l1⟩, n1, e1⟩, hr1⟩ : ∃ r : Snt × Nat × Int, takeN a0 = r := ⟨_, rfl⟩
  obtain ⟨⟨⟨x2, y2, l2⟩, n2, e2⟩, hr2⟩ : ∃ r : Snt × Nat × Int, takeN A = r := ⟨_, rfl⟩
  rw [hr1] at te k1 tm
  rw [hr2] at te2 k2 tm
  dsimp only at te te2 tm
  obtain ⟨m1, hm1⟩ : ∃ m, l1.length = m := ⟨_, rfl⟩
  obtain ⟨m2, hm2⟩ : ∃ m, l2.length = m := ⟨_, rfl⟩
  have hm9 : m1 ≤ 1000 := by have := tk_few hr1; omega
  replace hm1 := hid hm1
  replace hm2 := hid hm2
  replace k1 := hid k1
  replace k2 := hid k2
  replace tm := hid tm
  clear hr1 hr2
  go_enter Try.func6, Try.ntmps6
  go_wp2_with fail
  refine (knows22_any _).mono ?_
  rintro e V1 ⟨rfl, hA⟩
  replace hB := hid (bthen hB.out hA)
  clear hA
  go_wp2_with fail
  refine (k1.out _).mono ?_
  rintro e V2 ⟨ta1, tc1, rfl, hE1, hA⟩
  dsimp only at hE1 ⊢
  replace hB := hid (bthen hB.out hA)
  clear hA
  rw [hm1.out] at hE1 ⊢
  replace hE1 := hid hE1
  have nw := alloc_new V2 (.cells #[.string x1, .string y1, .slice ta1 m1 tc1] 24)
  have hA := nw.2.1
  have ra := nw.2.2
  clear nw
  go_upto_region 4 with (fail)
  obtain ⟨V3, hV3⟩ : ∃ X, V2.alloc (.cells #[.string x1, .string y1, .slice ta1 m1 tc1] 24) = X := ⟨_, rfl⟩
  rw [hV3] at hA ra ⊢
  obtain ⟨qra, hqra⟩ : ∃ X, V2.heap.size = X := ⟨_, rfl⟩
  rw [hqra] at ra ⊢
  replace hV3 := hid hV3
  replace hqra := hid hqra
  replace hE1 := hid (hE1.out.below hA)
  replace hB := hid (bthen hB.out hA)
  clear hA
  replace ra := hid ra
  go_wp2_with fail
  refine (k2.out _).mono ?_
  rintro e V4 ⟨ta2, tc2, rfl, hE2, hA⟩
  dsimp only at hE2 ⊢
  replace hE1 := hid (hE1.out.below hA)
  replace ra := hid (held_after hA ra.out)
  replace hB := hid (bthen hB.out hA)
  clear hA
  rw [hm2.out] at hE2 ⊢
  replace hE2 := hid hE2
  have nw := alloc_new V4 (.cells #[.string x2, .string y2, .slice ta2 m2 tc2] 24)
  have hA := nw.2.1
  have rc := nw.2.2
  clear nw
  go_upto_region 5 with (fail)
  obtain ⟨V5, hV5⟩ : ∃ X, V4.alloc (.cells #[.string x2, .string y2, .slice ta2 m2 tc2] 24) = X := ⟨_, rfl⟩
  rw [hV5] at hA rc ⊢
  obtain ⟨qrc, hqrc⟩ : ∃ X, V4.heap.size = X := ⟨_, rfl⟩
  rw [hqrc] at rc ⊢
  replace hV5 := hid hV5
  replace hqrc := hid hqrc
  replace hE1 := hid (hE1.out.below hA)
  replace hE2 := hid (hE2.out.below hA)
  replace ra := hid (held_after hA ra.out)
  replace hB := hid (bthen hB.out hA)
  clear hA
  replace rc := hid rc
  have z0 := held_cell ra.out 0 _ rfl
  have z1 := held_cell ra.out 1 _ rfl
  have z2 := held_cell ra.out 2 _ rfl
  have v0 := held_cell rc.out 0 _ rfl
  have v1 := held_cell rc.out 1 _ rfl
  have v2 := held_cell rc.out 2 _ rfl
  go_wp2_with fail
  refine (num22_any e1 _ (by omega) (by omega)).mono ?_
  rintro e V ⟨rfl, hv⟩
  obtain rfl : V5 = V := hv.symm
  clear hv
  go_wp2_with fail
  refine (num22_any 2 _ (by omega) (by omega)).mono ?_
  rintro e V ⟨rfl, hv⟩
  obtain rfl : V5 = V := hv.symm
  clear hv
  by_cases h2 : e1 = 2
  case pos =>
    have q9 : (e1 == 2) = true := by simp [h2]
    replace h2 := hid h2
    go_wp2_with fail
    go_ret
    exact ⟨rfl, hB.out⟩
  have q9 : (e1 == 2) = false := by simp [h2]
  have t9 := tm.out h2
  obtain ⟨rfl, rfl, rfl, rfl, rfl⟩ := snt_eq t9
  obtain rfl : m1 = m2 := by rw [← hm1.out, hm2.out]
  replace h2 := hid h2
  clear tm
  go_wp2_with fail
  refine (same22_any x2 y2 ta1 ta2 tc1 tc2 m1 l2 _ hm1.out hE1.out hE2.out (by omega)).mono ?_
  rintro e V9 ⟨rfl, hA⟩
  clear z0 z1 z2 v0 v1 v2
  replace hE1 := hid (hE1.out.below hA)
  replace hE2 := hid (hE2.out.below hA)
  replace ra := hid (held_after hA ra.out)
  replace rc := hid (held_after hA rc.out)
  replace hB := hid (bthen hB.out hA)
  clear hA
  go_wp2_with fail
  refine (num22_any e2 _ (by omega) (by omega)).mono ?_
  rintro e V ⟨rfl, hv⟩
  obtain rfl : V9 = V := hv.symm
  clear hv
  go_wp2_with fail
  refine (num22_any e2 _ (by omega) (by omega)).mono ?_
  rintro e V ⟨rfl, hv⟩
  obtain rfl : V9 = V := hv.symm
  clear hv
  go_wp2_with fail
  go_ret
  exact ⟨ret_bool (by simp), hB.out⟩


end Go.Proofs.Ytookhpmpngacjaa
