/-
  No cell of these rows narrows 'for every input' (looked for: loops, veiled, ifaces, maps, wideKeys, modest, calm, conditions, laid).
  DERIVED. THE GIVEN ROWS OF THIS SEAT. 4 by the template 'for every input the law returns true; each argument reads behind the call as it read before'; 0 by the template 'total and deterministic' (their statements: YtfihdgichmocmaaTotals.lean).
  GIVEN WITH THE SEED: the statements are not yours to turn. If you find one false, say at which input.
  Laid BY PROGRAM, IN A SANDBOX (cutbox-rows.mjs): the forced cells as the released guide's own fill.sh prints them over the translation af5ed36c5c6574ed… (all of the seat's roots in one cut). By AI agents, Wed Nov 11 2026. No macro, syntax, notation, axiom, sorry.
-/
import Derived.Test.YtfihdgichmocmaaChecked
import GoSem.Claim
import GoSem.ClaimJoined
import GoSem.ClaimMapViews
import Derived.JoinedTies
import Derived.KernelRfl
namespace Go.Proofs.Ytfihdgichmocmaa
/- THE CELL 'sum', in the pinned program and in every row, IS THE sha256 OF THE DUMP (.gsa) THAT YtfihdgichmocmaaProg.lean LOADS. Nothing in Lean hashes anything: it is a label: what it is worth is what the hold of that sum in a sandbox is worth. -/
noncomputable def Try.pinned : Pinned := { name := "ytfihdgichmocmaa", sum := "af5ed36c5c6574eddfc59c62f224072c345951ff484f2c4960d8f5145f83a87b", checked := Try.checked }
namespace Rows
def none {H : Type} : Left H := { results := [], args := [] }

/-- 'landfalllaw16.PvtPuts': WHATEVER THE INPUT: true; the input reads as it did. -/
def pvtPutsSpec : ChangeSpec := { name := "pvtPuts", fn := fun _ => fun
  | [d] => { results := [.lit (.bool true)], args := [d] }
  | _ => none }
def pvtPutsRow : OpenClaim := { program := "ytfihdgichmocmaa", sum := "af5ed36c5c6574eddfc59c62f224072c345951ff484f2c4960d8f5145f83a87b", func := "landfall/landfalllaw16.PvtPuts", spec := "pvtPuts", unfollowed := true, recurses := true, apart := false }
def PvtPutsSaid : Prop := pvtPutsRow.holds Try.pinned (OpenSpec.ofChange pvtPutsSpec)

/-- ITS FALSE NEIGHBOUR: 'it returns false'. Refute it at one input. -/
def pvtPutsWrong : ChangeSpec := { name := "pvtPuts", fn := fun _ => fun
  | [d] => { results := [.lit (.bool false)], args := [d] }
  | _ => none }
def PvtPutsWrongFalsely : Prop := pvtPutsRow.holds Try.pinned (OpenSpec.ofChange pvtPutsWrong)

/-- 'landfalllaw16.PvtTakes': WHATEVER THE INPUT: true; the input reads as it did. -/
def pvtTakesSpec : ChangeSpec := { name := "pvtTakes", fn := fun _ => fun
  | [d1, d2] => { results := [.lit (.bool true)], args := [d1, d2] }
  | _ => none }
def pvtTakesRow : OpenClaim := { program := "ytfihdgichmocmaa", sum := "af5ed36c5c6574eddfc59c62f224072c345951ff484f2c4960d8f5145f83a87b", func := "landfall/landfalllaw16.PvtTakes", spec := "pvtTakes", unfollowed := true, recurses := true, apart := false }
def PvtTakesSaid : Prop := pvtTakesRow.holds Try.pinned (OpenSpec.ofChange pvtTakesSpec)

/-- ITS FALSE NEIGHBOUR: 'it returns false'. Refute it at one input. -/
def pvtTakesWrong : ChangeSpec := { name := "pvtTakes", fn := fun _ => fun
  | [d1, d2] => { results := [.lit (.bool false)], args := [d1, d2] }
  | _ => none }
def PvtTakesWrongFalsely : Prop := pvtTakesRow.holds Try.pinned (OpenSpec.ofChange pvtTakesWrong)

/-- 'landfalllaw16.PvtSpeed': WHATEVER THE INPUT: true; the input reads as it did. -/
def pvtSpeedSpec : ChangeSpec := { name := "pvtSpeed", fn := fun _ => fun
  | [d1, d2, d3] => { results := [.lit (.bool true)], args := [d1, d2, d3] }
  | _ => none }
def pvtSpeedRow : OpenClaim := { program := "ytfihdgichmocmaa", sum := "af5ed36c5c6574eddfc59c62f224072c345951ff484f2c4960d8f5145f83a87b", func := "landfall/landfalllaw16.PvtSpeed", spec := "pvtSpeed", unfollowed := true, recurses := true, apart := false }
def PvtSpeedSaid : Prop := pvtSpeedRow.holds Try.pinned (OpenSpec.ofChange pvtSpeedSpec)

/-- ITS FALSE NEIGHBOUR: 'it returns false'. Refute it at one input. -/
def pvtSpeedWrong : ChangeSpec := { name := "pvtSpeed", fn := fun _ => fun
  | [d1, d2, d3] => { results := [.lit (.bool false)], args := [d1, d2, d3] }
  | _ => none }
def PvtSpeedWrongFalsely : Prop := pvtSpeedRow.holds Try.pinned (OpenSpec.ofChange pvtSpeedWrong)

/-- 'landfalllaw16.PvtBack': WHATEVER THE INPUT: true; the input reads as it did. -/
def pvtBackSpec : ChangeSpec := { name := "pvtBack", fn := fun _ => fun
  | [d1, d2] => { results := [.lit (.bool true)], args := [d1, d2] }
  | _ => none }
def pvtBackRow : OpenClaim := { program := "ytfihdgichmocmaa", sum := "af5ed36c5c6574eddfc59c62f224072c345951ff484f2c4960d8f5145f83a87b", func := "landfall/landfalllaw16.PvtBack", spec := "pvtBack", unfollowed := true, recurses := true, apart := false }
def PvtBackSaid : Prop := pvtBackRow.holds Try.pinned (OpenSpec.ofChange pvtBackSpec)

/-- ITS FALSE NEIGHBOUR: 'it returns false'. Refute it at one input. -/
def pvtBackWrong : ChangeSpec := { name := "pvtBack", fn := fun _ => fun
  | [d1, d2] => { results := [.lit (.bool false)], args := [d1, d2] }
  | _ => none }
def PvtBackWrongFalsely : Prop := pvtBackRow.holds Try.pinned (OpenSpec.ofChange pvtBackWrong)

/- THE SECOND FORM. 'bulk': how many values and letters a reading holds, each counted each time it is reached (what is shared counts as often as it is met; a slice's spare places count too). A statement '..UptoSaid' is the law's where the arguments, and the package variables that the reading takes, are together of bulk at most 1048576: NARROWER than '..Said'. Prove '..Said' where nothing that the law and all that it calls make is longer than what came in: it says more and counts as full. Else prove '..UptoSaid'. A law counts once. -/
mutual
def uptoBulk {H : Type} : DataW H → Nat
  | .lit (.string bytes) => bytes.length + 1
  | .lit _ => 1
  | .nil => 1
  | .ptr d => uptoBulk d + 1
  | .slice elems spare => uptoBulkAll elems + uptoBulkAll spare + 1
  | .agg parts => uptoBulkAll parts + 1
  | .iface _ d => uptoBulk d + 1
  | .map entries => uptoBulkEntries entries + 1
  | .held _ => 1
def uptoBulkAll {H : Type} : List (DataW H) → Nat
  | [] => 0
  | d :: r => uptoBulk d + uptoBulkAll r
def uptoBulkEntries {H : Type} : List (Lit × DataW H) → Nat
  | [] => 0
  | x :: r => uptoBulkEntry x + uptoBulkEntries r
def uptoBulkEntry {H : Type} : Lit × DataW H → Nat
  | (.string bytes, d) => bytes.length + uptoBulk d + 1
  | (_, d) => uptoBulk d + 1
 end
def uptoSmall : (H : Type) → List (DataW H) → Bool := fun _ ds => decide (uptoBulkAll ds ≤ 1048576)
def OpenSpec.upto (s : _root_.Go.ChangeSpec) : _root_.Go.OpenSpec := { _root_.Go.OpenSpec.ofChange s with cond := some uptoSmall }

/-- 'landfalllaw16.PvtPuts', WHERE WHAT IT READS IS OF BULK AT MOST 1048576: true; the input reads as it did. -/
def pvtPutsUptoRow : OpenClaim := { program := "ytfihdgichmocmaa", sum := "af5ed36c5c6574eddfc59c62f224072c345951ff484f2c4960d8f5145f83a87b", func := "landfall/landfalllaw16.PvtPuts", spec := "pvtPuts", unfollowed := true, recurses := true, apart := false, narrowed := true }
def PvtPutsUptoSaid : Prop := pvtPutsUptoRow.holds Try.pinned (OpenSpec.upto pvtPutsSpec)

/-- 'landfalllaw16.PvtTakes', WHERE WHAT IT READS IS OF BULK AT MOST 1048576: true; the input reads as it did. -/
def pvtTakesUptoRow : OpenClaim := { program := "ytfihdgichmocmaa", sum := "af5ed36c5c6574eddfc59c62f224072c345951ff484f2c4960d8f5145f83a87b", func := "landfall/landfalllaw16.PvtTakes", spec := "pvtTakes", unfollowed := true, recurses := true, apart := false, narrowed := true }
def PvtTakesUptoSaid : Prop := pvtTakesUptoRow.holds Try.pinned (OpenSpec.upto pvtTakesSpec)

/-- 'landfalllaw16.PvtSpeed', WHERE WHAT IT READS IS OF BULK AT MOST 1048576: true; the input reads as it did. -/
def pvtSpeedUptoRow : OpenClaim := { program := "ytfihdgichmocmaa", sum := "af5ed36c5c6574eddfc59c62f224072c345951ff484f2c4960d8f5145f83a87b", func := "landfall/landfalllaw16.PvtSpeed", spec := "pvtSpeed", unfollowed := true, recurses := true, apart := false, narrowed := true }
def PvtSpeedUptoSaid : Prop := pvtSpeedUptoRow.holds Try.pinned (OpenSpec.upto pvtSpeedSpec)

/-- 'landfalllaw16.PvtBack', WHERE WHAT IT READS IS OF BULK AT MOST 1048576: true; the input reads as it did. -/
def pvtBackUptoRow : OpenClaim := { program := "ytfihdgichmocmaa", sum := "af5ed36c5c6574eddfc59c62f224072c345951ff484f2c4960d8f5145f83a87b", func := "landfall/landfalllaw16.PvtBack", spec := "pvtBack", unfollowed := true, recurses := true, apart := false, narrowed := true }
def PvtBackUptoSaid : Prop := pvtBackUptoRow.holds Try.pinned (OpenSpec.upto pvtBackSpec)

end Rows
end Go.Proofs.Ytfihdgichmocmaa
