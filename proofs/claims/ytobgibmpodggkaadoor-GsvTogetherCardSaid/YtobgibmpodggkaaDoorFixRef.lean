/- What each function of the document's answers for layer 1 comes to: contracts, by walking their text. -/
import Derived.Test.YtobgibmpodggkaaDoorFix
namespace Go.Proofs.YtobgibmpodggkaaDoor
open Go.ChangeShapes Go.WideShapes Go.ChangeAt Go.RowKit

theorem bnd_lo (f hi : Int) (h : f < 0) : bnd f hi = 0 := by unfold bnd; omega
theorem bnd_hi62 (f : Int) (h : 62 < f) : bnd f 62 = 62 := by unfold bnd; omega
theorem bnd_hi30 (f : Int) (h : 30 < f) : bnd f 30 = 30 := by unfold bnd; omega
theorem bnd_in (f hi : Int) (h : ¬ f < 0) (h' : ¬ hi < f) : bnd f hi = f.toNat := by unfold bnd; omega

end Go.Proofs.YtobgibmpodggkaaDoor
