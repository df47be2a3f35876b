/- The chapter's examples of layer 1 come out. -/
import Derived.Test.YtgmmpginffpjeaaFixRef
namespace Go.Proofs.Ytgmmpginffpjeaa
open Go.ChangeShapes Go.WideShapes Go.ChangeAt Go.RowKit

theorem knows01_any (w : World) :
    Calls Try.prog 13 #[] w fun e w' => e = .returned (.bool true) ∧ Below w.heap.size w w' := by
  have e1 := hid (clampV_hi (2147483647 + 1) (by decide))
  have e2 : Go.RowKit.Hid (clampV (roundS (65536 * 98304) (bnd 16 30)) = .tuple #[.int .i32 98304, .bool false]) := by
    have : roundS (65536 * 98304) (bnd 16 30) = 98304 := by decide +kernel
    rw [this]; exact clampV_in _ (by decide) (by decide)
  have e3 : Go.RowKit.Hid (overS 7 2 = 4) := hid (by decide +kernel)
  have e4 : Go.RowKit.Hid (overS (-7) 2 = -4) := hid (by decide +kernel)
  go_enter Try.func13, Try.ntmps13
  go_wp2_with fail
  refine (add_any _ _ _ (by decide) (by decide) (by decide) (by decide)).mono ?_
  rintro e w1 ⟨rfl, hb1⟩
  rw [e1.out]
  go_wp2_with fail
  refine (mul_any _ _ _ _ (by decide) (by decide) (by decide) (by decide)).mono ?_
  rintro e w2 ⟨rfl, hb2⟩
  rw [e2.out]
  go_wp2_with fail
  refine (over_any _ _ _ (by decide) (by decide) (by decide) (by decide)).mono ?_
  rintro e w3 ⟨rfl, k, rfl⟩
  rw [e3.out]
  go_wp2_with fail
  refine (over_any _ _ _ (by decide) (by decide) (by decide) (by decide)).mono ?_
  rintro e w3 ⟨rfl, k2, rfl⟩
  rw [e4.out]
  go_wp2_with fail
  go_ret
  exact ⟨rfl, bdrewN (bthen hb1 hb2) _⟩

end Go.Proofs.Ytgmmpginffpjeaa
