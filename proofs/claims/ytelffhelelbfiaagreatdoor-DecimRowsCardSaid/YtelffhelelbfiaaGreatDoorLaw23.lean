/- The laws of layer 23: knows, DecimTells. -/
import Derived.Test.YtelffhelelbfiaaGreatDoorDec9
import Derived.Test.YtelffhelelbfiaaGreatDoorEls
import Derived.Laws.StructEq
import Derived.Deep.DeepCutAuto
namespace Go.Proofs.YtelffhelelbfiaaGreatDoor
open Go.ChangeShapes Go.WideShapes Go.ChangeAt Go.RowKit
set_option linter.unusedVariables false
set_option linter.unusedSimpArgs false

theorem num23_any (n : Int) (w : World) (h1 : -9223372036854775808 ≤ n) (h2 : n ≤ 9223372036854775807) :
    Calls Tryz.prog 23 #[.int .i64 n] w fun e w' => e = .returned (.int .i64 n) ∧ w' = w := by
  go_enter Tryz.func23, Tryz.ntmps23
  go_wp2_with fail
  go_ret
  exact ⟨rfl, rfl⟩
theorem putD_e (is : Bool) (n W M F lo hi : Int) : 0 ≤ (putD is n W M F lo hi).2 ∧ (putD is n W M F lo hi).2 ≤ 9 := by
  unfold putD; split
  · simp
  · split
    · simp
    · split <;> simp
theorem takO_e (o : Option Nat) (q : Nat) (lo hi : Int) : 0 ≤ (takO o q lo hi).2.2 ∧ (takO o q lo hi).2.2 ≤ 9 := by
  cases o with
  | none => rw [takO_no]; simp
  | some m => rw [takO_some]; split <;> simp
theorem takD_e (s : ByteArray) (W M F lo hi : Int) : 0 ≤ (takD s W M F lo hi).2.2 ∧ (takD s W M F lo hi).2.2 ≤ 9 := by
  unfold takD; split
  · simp
  · split
    · simp
    · exact takO_e _ _ _ _
set_option maxRecDepth 100000 in
set_option maxHeartbeats 2000000 in
theorem knows23_any (w : World) (hT : Tab w) : Calls Tryz.prog 4 #[] w fun e w' => e = .returned (.bool true) ∧ Below w.heap.size w w' := by
  have e1 : putD true (-5) 1 3 2 (-99) 99 = ([45, 48, 46, 48, 53], 0) := by decide +kernel
  have e2 : angD true 288423000 true = ([52, 56, 48, 52, 46, 50, 51], [78], 0) := by decide +kernel
  have b1 : nb [45, 48, 46, 48, 53] = ⟨#[45, 48, 46, 48, 53]⟩ := by rfl
  have b2 : nb [52, 56, 48, 52, 46, 50, 51] = ⟨#[52, 56, 48, 52, 46, 50, 51]⟩ := by rfl
  have b3 : nb [78] = ⟨#[78]⟩ := by rfl
  have k1 := put23_any true (-5) 1 3 2 (-99) 99 w (by decide) (by decide) hT
  have k2 := hid (fun U (h : Tab U) => angle_any true 288423000 true U (by decide) h)
  rw [e1] at k1
  rw [e2] at k2
  dsimp only at k1 k2
  rw [b1] at k1
  rw [b2, b3] at k2
  replace k1 := hid k1
  replace hT := hid hT
  clear e1 e2 b1 b2 b3
  go_enter Tryz.func4, Tryz.ntmps4
  go_wp2_with fail
  refine (k1.out).mono ?_
  rintro e V1 ⟨rfl, hA⟩
  have hB := hid hA
  clear hA
  go_wp2_with fail
  refine (k2.out _ (hT.out.on hB.out)).mono ?_
  rintro e V2 ⟨rfl, hA⟩
  replace hB := hid (bthen hB.out hA)
  clear hA
  go_wp2_with fail
  refine (num23_any 0 _ (by omega) (by omega)).mono ?_
  rintro e V ⟨rfl, rfl⟩
  go_wp2_with fail
  refine (num23_any 0 _ (by omega) (by omega)).mono ?_
  rintro e V ⟨rfl, rfl⟩
  go_wp2_with fail
  go_ret
  exact ⟨rfl, hB.out⟩
end Go.Proofs.YtelffhelelbfiaaGreatDoor
