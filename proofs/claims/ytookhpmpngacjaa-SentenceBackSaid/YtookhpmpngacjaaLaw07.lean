/- The laws ParityTells, ParityHex, walked: they return true. -/
import Derived.Test.YtookhpmpngacjaaPar2
namespace Go.Proofs.Ytookhpmpngacjaa
open Go.ChangeShapes Go.WideShapes Go.ChangeAt Go.RowKit
set_option linter.unusedVariables false

theorem ba_ext {a b : ByteArray} (h : a.data.toList = b.data.toList) : a = b := by
  cases a; cases b
  simp at h
  rw [h]
theorem seal_A : sealT ⟨#[65]⟩ = ⟨#[65, 42, 52, 49]⟩ := ba_ext (by decide)
theorem of_G : xorF 0 (sb ⟨#[71, 80, 71, 76, 76]⟩) = 80 := by decide

end Go.Proofs.Ytookhpmpngacjaa
