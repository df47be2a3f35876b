/- Package decim: Put. -/
import Derived.Test.YtpbekdkobmgndaaDec2
import Derived.Deep.DeepCutAuto
namespace Go.Proofs.Ytpbekdkobmgndaa
open Go.ChangeShapes Go.WideShapes Go.ChangeAt Go.RowKit
set_option linter.unusedVariables false
set_option linter.unusedSimpArgs false

theorem tsz1 (S T : ByteArray) (h : S.size ≤ 1) (h1 : T.size ≤ 20) : S.size + T.size ≤ 1000000 := by omega
theorem tsz (S T U : ByteArray) (h : S.size ≤ 1) (h1 : T.size ≤ 20) (h2 : U.size ≤ 7) : S.size + T.size + U.size ≤ 1000000 := by omega
end Go.Proofs.Ytpbekdkobmgndaa
