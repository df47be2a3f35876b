/- Laws of package rescue: knows. -/
import Derived.Test.YtlfbhfmchdbnoaaKG
import Derived.Test.YtlfbhfmchdbnoaaKF
import Derived.Test.YtlfbhfmchdbnoaaLaw05
import Derived.Deep.DeepCutAuto
namespace Go.Proofs.Ytlfbhfmchdbnoaa
open Go.ChangeShapes Go.WideShapes Go.ChangeAt Go.RowKit
set_option linter.unusedVariables false
set_option linter.unusedSimpArgs false

set_option maxRecDepth 100000 in
set_option maxHeartbeats 8000000 in
theorem knows37_any (w : World) : Calls Try.prog 9 #[] w fun e w' => e = .returned (.bool true) ∧ Below w.heap.size w w' := by
  have eR1 : readS (List.replicate 300 0) 1 = ([], [0]) := by decide +kernel
  have eR2 : readS (writeS 1 [((7 : Int), ([0, 0, 0, 0, 0, 0, 0, 0, 0, 0, 0, 0] : List Int))]) 1 = ([((7 : Int), ([0, 0, 0, 0, 0, 0, 0, 0, 0, 0, 0, 0] : List Int))], []) := by decide +kernel
  have eL : (writeS 1 [((7 : Int), ([0, 0, 0, 0, 0, 0, 0, 0, 0, 0, 0, 0] : List Int))]).length = 256 := by decide +kernel
  have hww : ∀ x ∈ writeS 1 [((7 : Int), ([0, 0, 0, 0, 0, 0, 0, 0, 0, 0, 0, 0] : List Int))], (Lit.int .u8 x).wf = true := by decide +kernel
  have hwz : ∀ x ∈ List.replicate 300 (0 : Int), (Lit.int .u8 x).wf = true := by intro x hx; rw [(List.mem_replicate.1 hx).2]; rfl
  have hlo : ∀ r ∈ [((7 : Int), ([0, 0, 0, 0, 0, 0, 0, 0, 0, 0, 0, 0] : List Int))], StK r := by intro r hr; rw [List.mem_singleton] at hr; subst hr; exact ⟨by decide, rfl, by intro x hx; simp at hx; subst hx; decide⟩
  have kW := fun p U h => rwrite_any 1 (some ⟨p, 0, none⟩) 1 1 [((7 : Int), ([0, 0, 0, 0, 0, 0, 0, 0, 0, 0, 0, 0] : List Int))] U (by omega) (by omega) rfl (by omega) h hlo
  obtain ⟨Z, hZ⟩ : ∃ z, List.replicate 300 (0 : Int) = z := ⟨_, rfl⟩
  have hZl : Z.length = 300 := by rw [← hZ]; simp
  rw [hZ] at eR1 hwz
  obtain ⟨L, hL⟩ : ∃ z, writeS 1 [((7 : Int), ([0, 0, 0, 0, 0, 0, 0, 0, 0, 0, 0, 0] : List Int))] = z := ⟨_, rfl⟩
  rw [hL] at eR2 eL hww
  simp only [hL] at kW
  clear hL
  replace hZ := hid hZ
  replace hZl := hid hZl
  replace eR1 := hid eR1
  replace eR2 := hid eR2
  replace eL := hid eL
  replace hww := hid hww
  replace hwz := hid hwz
  replace hlo := hid hlo
  replace kW := hid kW
  go_enter Try.func9, Try.ntmps9
  go_wp2_with (first | (at_make; refine wpList_make w w rfl (.const (.int .i64 300)) (.const (.int .i64 300)) 22 rfl w.heap.size 5 .u8 1 bytesOf 300 rfl rfl (by omega) (by unfold maxLen; omega) (Below.refl _ _) (Nat.le_refl _) ?_))
  intro V1 hRow hA1
  replace hRow : Row .u8 5 V1 w.heap.size (List.replicate 300 (0 : Int)) := hRow
  rw [hZ.out] at hRow
  have sl1 := hRow.sl (by rw [hZl.out]; unfold maxLen; omega)
  rw [hZl.out] at sl1
  replace sl1 := hid sl1
  replace hA1 := hid hA1
  clear hRow
  go_wp2_with fail
  refine (read_any _ 300 300 Z _ sl1.out hwz.out (by omega)).mono ?_
  rintro e V2 ⟨oa, oc, ba, bc, rfl, hO, hI, hA2⟩
  rw [show 300 / 256 = 1 from rfl, eR1.out] at hO hI ⊢
  simp only [List.length_nil, List.length_cons, Nat.zero_add] at hO hI ⊢
  have hI1 := hid hI.slf
  have hB2 := hid (bthen hA1.out hA2)
  clear hO hI hA1 hA2 sl1
  have nC := alloc_new V2 (.cells #[.int .u32 7, .int .i32 0, .int .i32 0, .int .i32 0, .int .i32 0, .int .i32 0, .int .i32 0, .int .i32 0, .int .i32 0, .int .i32 0, .int .i32 0, .int .i32 0, .int .i32 0] 65)
  have hE6 : Els (V2.alloc (.cells #[.int .u32 7, .int .i32 0, .int .i32 0, .int .i32 0, .int .i32 0, .int .i32 0, .int .i32 0, .int .i32 0, .int .i32 0, .int .i32 0, .int .i32 0, .int .i32 0, .int .i32 0] 65)) 13 (some ⟨V2.heap.size, 0, none⟩) 1 1 (recsV [((7 : Int), ([0, 0, 0, 0, 0, 0, 0, 0, 0, 0, 0, 0] : List Int))]) := els_blk (m := 13) nC.2.2 rfl
  replace hE6 := hid hE6
  have hI2 := hid (hI1.out.below nC.2.1)
  have hB3 := hid (bthen hB2.out nC.2.1)
  clear nC hI1 hB2
  go_wp2_with fail
  refine (kW.out _ _ hE6.out).mono ?_
  rintro e V3 ⟨ta, tc, rfl, hT, hA3⟩
  rw [eL.out] at hT ⊢
  have hI3 := hid (hI2.out.below hA3)
  have hB4 := hid (bthen hB3.out hA3)
  have hT1 := hT.slf
  replace hT1 := hid hT1
  clear hT hA3 hI2 hB3 hE6
  go_wp2_with fail
  refine (read_any ta 256 tc L _ hT1.out hww.out (by omega)).mono ?_
  rintro e V4 ⟨oa2, oc2, ba2, bc2, rfl, hO2, hJ2, hA4⟩
  rw [show 256 / 256 = 1 from rfl, eR2.out] at hO2 hJ2 ⊢
  simp only [List.length_nil, List.length_cons, Nat.zero_add] at hO2 hJ2 ⊢
  have hI4 := hI3.out.below hA4
  have hB5 := bthen hB4.out hA4
  have hE4 : Els V4 13 oa2 1 oc2 (recsV [((7 : Int), ([0, 0, 0, 0, 0, 0, 0, 0, 0, 0, 0, 0] : List Int))]) := hO2.els (by simp [recsV]) (recsV_m hlo.out)
  clear hO2 hJ2 hA4 hI3 hB4 hT1
  have nA := alloc_new V4 (.cells #[.int .i64 0] 3)
  have slk : Sl .i64 (V4.alloc (.cells #[.int .i64 0] 3)) (some ⟨V4.heap.size, 0, none⟩) 1 1 [(0 : Int)] := (Own.lit .i64 3 V4 [(0 : Int)] V4.heap.size (Nat.le_refl _) (by unfold maxLen; simp) #[.int .i64 0] rfl).slf
  replace slk := hid slk
  have hI5 := hid (hI4.below nA.2.1)
  have hB6 := hid (bthen hB5 nA.2.1)
  have hE5 := hid (hE4.below nA.2.1)
  clear nA hI4 hB5 hE4
  go_wp2_with fail
  refine (ints_same ba _ bc 1 1 [0] _ hI5.out slk.out (by omega)).mono ?_
  rintro e V5 ⟨rfl, hA5⟩
  have hB7 := hid (bthen hB6.out hA5)
  obtain ⟨qb, qo, e9, g0, -⟩ := (hE5.out.below hA5).at13 (k := 0) (recsV_at (by rfl))
  subst e9
  simp only [Nat.zero_mul, Nat.add_zero, Nat.zero_add] at g0
  clear hA5 hB6 hI5 slk hE5
  go_wp2_with fail
  go_ret
  exact ⟨rfl, hB7.out⟩

end Go.Proofs.Ytlfbhfmchdbnoaa
