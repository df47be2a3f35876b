/-
  No cell of these rows narrows 'for every input' (looked for: loops, veiled, ifaces, maps, wideKeys, modest, calm, conditions, laid).
  DERIVED. THE GIVEN ROWS OF THIS SEAT. 3 by the template 'for every input the law returns true; each argument reads behind the call as it read before'; 0 by the template 'total and deterministic' (their statements: YtalmkeehocakeaaTotals.lean).
  GIVEN WITH THE SEED: the statements are not yours to turn. If you find one false, say at which input.
  Laid BY PROGRAM, IN A SANDBOX (cutbox-rows.mjs): the forced cells as the released guide's own fill.sh prints them over the translation 1377a1e22d2ac133… (all of the seat's roots in one cut). By AI agents, Wed Nov 11 2026. No macro, syntax, notation, axiom, sorry.
-/
import Derived.Test.YtalmkeehocakeaaChecked
import GoSem.Claim
import GoSem.ClaimJoined
import GoSem.ClaimMapViews
import Derived.JoinedTies
import Derived.KernelRfl
namespace Go.Proofs.Ytalmkeehocakeaa
/- THE CELL 'sum', in the pinned program and in every row, IS THE sha256 OF THE DUMP (.gsa) THAT YtalmkeehocakeaaProg.lean LOADS. Nothing in Lean hashes anything: it is a label: what it is worth is what the hold of that sum in a sandbox is worth. -/
noncomputable def Try.pinned : Pinned := { name := "ytalmkeehocakeaa", sum := "1377a1e22d2ac133a85af38c3f3ce04eb056d1f25670fecf59f46752896fe33f", checked := Try.checked }
namespace Rows
def none {H : Type} : Left H := { results := [], args := [] }

/-- 'landfalllaw18.DopTells': WHATEVER THE INPUT: true; the input reads as it did. -/
def dopTellsSpec : ChangeSpec := { name := "dopTells", fn := fun _ => fun
  | [d1, d2, d3, d4] => { results := [.lit (.bool true)], args := [d1, d2, d3, d4] }
  | _ => none }
def dopTellsRow : OpenClaim := { program := "ytalmkeehocakeaa", sum := "1377a1e22d2ac133a85af38c3f3ce04eb056d1f25670fecf59f46752896fe33f", func := "landfall/landfalllaw18.DopTells", spec := "dopTells", unfollowed := true, recurses := true, apart := false }
def DopTellsSaid : Prop := dopTellsRow.holds Try.pinned (OpenSpec.ofChange dopTellsSpec)

/-- ITS FALSE NEIGHBOUR: 'it returns false'. Refute it at one input. -/
def dopTellsWrong : ChangeSpec := { name := "dopTells", fn := fun _ => fun
  | [d1, d2, d3, d4] => { results := [.lit (.bool false)], args := [d1, d2, d3, d4] }
  | _ => none }
def DopTellsWrongFalsely : Prop := dopTellsRow.holds Try.pinned (OpenSpec.ofChange dopTellsWrong)

/-- 'landfalllaw18.DopBack': WHATEVER THE INPUT: true; the input reads as it did. -/
def dopBackSpec : ChangeSpec := { name := "dopBack", fn := fun _ => fun
  | [d1, d2] => { results := [.lit (.bool true)], args := [d1, d2] }
  | _ => none }
def dopBackRow : OpenClaim := { program := "ytalmkeehocakeaa", sum := "1377a1e22d2ac133a85af38c3f3ce04eb056d1f25670fecf59f46752896fe33f", func := "landfall/landfalllaw18.DopBack", spec := "dopBack", unfollowed := true, recurses := true, apart := false }
def DopBackSaid : Prop := dopBackRow.holds Try.pinned (OpenSpec.ofChange dopBackSpec)

/-- ITS FALSE NEIGHBOUR: 'it returns false'. Refute it at one input. -/
def dopBackWrong : ChangeSpec := { name := "dopBack", fn := fun _ => fun
  | [d1, d2] => { results := [.lit (.bool false)], args := [d1, d2] }
  | _ => none }
def DopBackWrongFalsely : Prop := dopBackRow.holds Try.pinned (OpenSpec.ofChange dopBackWrong)

/-- 'landfalllaw18.DopTogether': WHATEVER THE INPUT: true; the input reads as it did. -/
def dopTogetherSpec : ChangeSpec := { name := "dopTogether", fn := fun _ => fun
  | [d1, d2] => { results := [.lit (.bool true)], args := [d1, d2] }
  | _ => none }
def dopTogetherRow : OpenClaim := { program := "ytalmkeehocakeaa", sum := "1377a1e22d2ac133a85af38c3f3ce04eb056d1f25670fecf59f46752896fe33f", func := "landfall/landfalllaw18.DopTogether", spec := "dopTogether", unfollowed := true, recurses := true, apart := false }
def DopTogetherSaid : Prop := dopTogetherRow.holds Try.pinned (OpenSpec.ofChange dopTogetherSpec)

/-- ITS FALSE NEIGHBOUR: 'it returns false'. Refute it at one input. -/
def dopTogetherWrong : ChangeSpec := { name := "dopTogether", fn := fun _ => fun
  | [d1, d2] => { results := [.lit (.bool false)], args := [d1, d2] }
  | _ => none }
def DopTogetherWrongFalsely : Prop := dopTogetherRow.holds Try.pinned (OpenSpec.ofChange dopTogetherWrong)

/- THE SECOND FORM. 'bulk': how many values and letters a reading holds, each counted each time it is reached (what is shared counts as often as it is met; a slice's spare places count too). A statement '..UptoSaid' is the law's where the arguments, and the package variables that the reading takes, are together of bulk at most 1048576: NARROWER than '..Said'. Prove '..Said' where nothing that the law and all that it calls make is longer than what came in: it says more and counts as full. Else prove '..UptoSaid'. A law counts once. -/
mutual
def uptoBulk {H : Type} : DataW H → Nat
  | .lit (.string bytes) => bytes.length + 1
  | .lit _ => 1
  | .nil => 1
  | .ptr d => uptoBulk d + 1
  | .slice elems spare => uptoBulkAll elems + uptoBulkAll spare + 1
  | .agg parts => uptoBulkAll parts + 1
  | .iface _ d => uptoBulk d + 1
  | .map entries => uptoBulkEntries entries + 1
  | .held _ => 1
def uptoBulkAll {H : Type} : List (DataW H) → Nat
  | [] => 0
  | d :: r => uptoBulk d + uptoBulkAll r
def uptoBulkEntries {H : Type} : List (Lit × DataW H) → Nat
  | [] => 0
  | x :: r => uptoBulkEntry x + uptoBulkEntries r
def uptoBulkEntry {H : Type} : Lit × DataW H → Nat
  | (.string bytes, d) => bytes.length + uptoBulk d + 1
  | (_, d) => uptoBulk d + 1
 end
def uptoSmall : (H : Type) → List (DataW H) → Bool := fun _ ds => decide (uptoBulkAll ds ≤ 1048576)
def OpenSpec.upto (s : _root_.Go.ChangeSpec) : _root_.Go.OpenSpec := { _root_.Go.OpenSpec.ofChange s with cond := some uptoSmall }

/-- 'landfalllaw18.DopTells', WHERE WHAT IT READS IS OF BULK AT MOST 1048576: true; the input reads as it did. -/
def dopTellsUptoRow : OpenClaim := { program := "ytalmkeehocakeaa", sum := "1377a1e22d2ac133a85af38c3f3ce04eb056d1f25670fecf59f46752896fe33f", func := "landfall/landfalllaw18.DopTells", spec := "dopTells", unfollowed := true, recurses := true, apart := false, narrowed := true }
def DopTellsUptoSaid : Prop := dopTellsUptoRow.holds Try.pinned (OpenSpec.upto dopTellsSpec)

/-- 'landfalllaw18.DopBack', WHERE WHAT IT READS IS OF BULK AT MOST 1048576: true; the input reads as it did. -/
def dopBackUptoRow : OpenClaim := { program := "ytalmkeehocakeaa", sum := "1377a1e22d2ac133a85af38c3f3ce04eb056d1f25670fecf59f46752896fe33f", func := "landfall/landfalllaw18.DopBack", spec := "dopBack", unfollowed := true, recurses := true, apart := false, narrowed := true }
def DopBackUptoSaid : Prop := dopBackUptoRow.holds Try.pinned (OpenSpec.upto dopBackSpec)

/-- 'landfalllaw18.DopTogether', WHERE WHAT IT READS IS OF BULK AT MOST 1048576: true; the input reads as it did. -/
def dopTogetherUptoRow : OpenClaim := { program := "ytalmkeehocakeaa", sum := "1377a1e22d2ac133a85af38c3f3ce04eb056d1f25670fecf59f46752896fe33f", func := "landfall/landfalllaw18.DopTogether", spec := "dopTogether", unfollowed := true, recurses := true, apart := false, narrowed := true }
def DopTogetherUptoSaid : Prop := dopTogetherUptoRow.holds Try.pinned (OpenSpec.upto dopTogetherSpec)

end Rows
end Go.Proofs.Ytalmkeehocakeaa
