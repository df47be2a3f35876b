/-
  No cell of these rows narrows 'for every input' (looked for: loops, veiled, ifaces, maps, wideKeys, modest, calm, conditions, laid).
  DERIVED. THE GIVEN ROWS OF THIS SEAT. 4 by the template 'for every input the law returns true; each argument reads behind the call as it read before'; 0 by the template 'total and deterministic' (their statements: YtgmmpginffpjeaaTotals.lean).
  GIVEN WITH THE SEED: the statements are not yours to turn. If you find one false, say at which input.
  Laid BY PROGRAM, IN A SANDBOX (cutbox-rows.mjs): the forced cells as the released guide's own fill.sh prints them over the translation dbdedd2608989d7c… (all of the seat's roots in one cut). By AI agents, Wed Nov 11 2026. No macro, syntax, notation, axiom, sorry.
-/
import Derived.Test.YtgmmpginffpjeaaChecked
import GoSem.Claim
import GoSem.ClaimJoined
import GoSem.ClaimMapViews
import Derived.JoinedTies
import Derived.KernelRfl
namespace Go.Proofs.Ytgmmpginffpjeaa
/- THE CELL 'sum', in the pinned program and in every row, IS THE sha256 OF THE DUMP (.gsa) THAT YtgmmpginffpjeaaProg.lean LOADS. Nothing in Lean hashes anything: it is a label: what it is worth is what the hold of that sum in a sandbox is worth. -/
noncomputable def Try.pinned : Pinned := { name := "ytgmmpginffpjeaa", sum := "dbdedd2608989d7c35cbd888410d953ed1cec895cf1b855df4c64fa32f2e149c", checked := Try.checked }
namespace Rows
def none {H : Type} : Left H := { results := [], args := [] }

/-- 'landfalllaw01.FixTells': WHATEVER THE INPUT: true; the input reads as it did. -/
def fixTellsSpec : ChangeSpec := { name := "fixTells", fn := fun _ => fun
  | [d1, d2, d3] => { results := [.lit (.bool true)], args := [d1, d2, d3] }
  | _ => none }
def fixTellsRow : OpenClaim := { program := "ytgmmpginffpjeaa", sum := "dbdedd2608989d7c35cbd888410d953ed1cec895cf1b855df4c64fa32f2e149c", func := "landfall/landfalllaw01.FixTells", spec := "fixTells", apart := false }
def FixTellsSaid : Prop := fixTellsRow.holds Try.pinned (OpenSpec.ofChange fixTellsSpec)

/-- ITS FALSE NEIGHBOUR: 'it returns false'. Refute it at one input. -/
def fixTellsWrong : ChangeSpec := { name := "fixTells", fn := fun _ => fun
  | [d1, d2, d3] => { results := [.lit (.bool false)], args := [d1, d2, d3] }
  | _ => none }
def FixTellsWrongFalsely : Prop := fixTellsRow.holds Try.pinned (OpenSpec.ofChange fixTellsWrong)

/-- 'landfalllaw01.FixOps': WHATEVER THE INPUT: true; the input reads as it did. -/
def fixOpsSpec : ChangeSpec := { name := "fixOps", fn := fun _ => fun
  | [d1, d2, d3] => { results := [.lit (.bool true)], args := [d1, d2, d3] }
  | _ => none }
def fixOpsRow : OpenClaim := { program := "ytgmmpginffpjeaa", sum := "dbdedd2608989d7c35cbd888410d953ed1cec895cf1b855df4c64fa32f2e149c", func := "landfall/landfalllaw01.FixOps", spec := "fixOps", apart := false }
def FixOpsSaid : Prop := fixOpsRow.holds Try.pinned (OpenSpec.ofChange fixOpsSpec)

/-- ITS FALSE NEIGHBOUR: 'it returns false'. Refute it at one input. -/
def fixOpsWrong : ChangeSpec := { name := "fixOps", fn := fun _ => fun
  | [d1, d2, d3] => { results := [.lit (.bool false)], args := [d1, d2, d3] }
  | _ => none }
def FixOpsWrongFalsely : Prop := fixOpsRow.holds Try.pinned (OpenSpec.ofChange fixOpsWrong)

/-- 'landfalllaw01.FixNear': WHATEVER THE INPUT: true; the input reads as it did. -/
def fixNearSpec : ChangeSpec := { name := "fixNear", fn := fun _ => fun
  | [d1, d2] => { results := [.lit (.bool true)], args := [d1, d2] }
  | _ => none }
def fixNearRow : OpenClaim := { program := "ytgmmpginffpjeaa", sum := "dbdedd2608989d7c35cbd888410d953ed1cec895cf1b855df4c64fa32f2e149c", func := "landfall/landfalllaw01.FixNear", spec := "fixNear", apart := false }
def FixNearSaid : Prop := fixNearRow.holds Try.pinned (OpenSpec.ofChange fixNearSpec)

/-- ITS FALSE NEIGHBOUR: 'it returns false'. Refute it at one input. -/
def fixNearWrong : ChangeSpec := { name := "fixNear", fn := fun _ => fun
  | [d1, d2] => { results := [.lit (.bool false)], args := [d1, d2] }
  | _ => none }
def FixNearWrongFalsely : Prop := fixNearRow.holds Try.pinned (OpenSpec.ofChange fixNearWrong)

/-- 'landfalllaw01.FixCut': WHATEVER THE INPUT: true; the input reads as it did. -/
def fixCutSpec : ChangeSpec := { name := "fixCut", fn := fun _ => fun
  | [d1, d2] => { results := [.lit (.bool true)], args := [d1, d2] }
  | _ => none }
def fixCutRow : OpenClaim := { program := "ytgmmpginffpjeaa", sum := "dbdedd2608989d7c35cbd888410d953ed1cec895cf1b855df4c64fa32f2e149c", func := "landfall/landfalllaw01.FixCut", spec := "fixCut", apart := false }
def FixCutSaid : Prop := fixCutRow.holds Try.pinned (OpenSpec.ofChange fixCutSpec)

/-- ITS FALSE NEIGHBOUR: 'it returns false'. Refute it at one input. -/
def fixCutWrong : ChangeSpec := { name := "fixCut", fn := fun _ => fun
  | [d1, d2] => { results := [.lit (.bool false)], args := [d1, d2] }
  | _ => none }
def FixCutWrongFalsely : Prop := fixCutRow.holds Try.pinned (OpenSpec.ofChange fixCutWrong)

/- THE SECOND FORM. 'bulk': how many values and letters a reading holds, each counted each time it is reached (what is shared counts as often as it is met; a slice's spare places count too). A statement '..UptoSaid' is the law's where the arguments, and the package variables that the reading takes, are together of bulk at most 1048576: NARROWER than '..Said'. Prove '..Said' where nothing that the law and all that it calls make is longer than what came in: it says more and counts as full. Else prove '..UptoSaid'. A law counts once. -/
mutual
def uptoBulk {H : Type} : DataW H → Nat
  | .lit (.string bytes) => bytes.length + 1
  | .lit _ => 1
  | .nil => 1
  | .ptr d => uptoBulk d + 1
  | .slice elems spare => uptoBulkAll elems + uptoBulkAll spare + 1
  | .agg parts => uptoBulkAll parts + 1
  | .iface _ d => uptoBulk d + 1
  | .map entries => uptoBulkEntries entries + 1
  | .held _ => 1
def uptoBulkAll {H : Type} : List (DataW H) → Nat
  | [] => 0
  | d :: r => uptoBulk d + uptoBulkAll r
def uptoBulkEntries {H : Type} : List (Lit × DataW H) → Nat
  | [] => 0
  | x :: r => uptoBulkEntry x + uptoBulkEntries r
def uptoBulkEntry {H : Type} : Lit × DataW H → Nat
  | (.string bytes, d) => bytes.length + uptoBulk d + 1
  | (_, d) => uptoBulk d + 1
 end
def uptoSmall : (H : Type) → List (DataW H) → Bool := fun _ ds => decide (uptoBulkAll ds ≤ 1048576)
def OpenSpec.upto (s : _root_.Go.ChangeSpec) : _root_.Go.OpenSpec := { _root_.Go.OpenSpec.ofChange s with cond := some uptoSmall }

/-- 'landfalllaw01.FixTells', WHERE WHAT IT READS IS OF BULK AT MOST 1048576: true; the input reads as it did. -/
def fixTellsUptoRow : OpenClaim := { program := "ytgmmpginffpjeaa", sum := "dbdedd2608989d7c35cbd888410d953ed1cec895cf1b855df4c64fa32f2e149c", func := "landfall/landfalllaw01.FixTells", spec := "fixTells", apart := false, narrowed := true }
def FixTellsUptoSaid : Prop := fixTellsUptoRow.holds Try.pinned (OpenSpec.upto fixTellsSpec)

/-- 'landfalllaw01.FixOps', WHERE WHAT IT READS IS OF BULK AT MOST 1048576: true; the input reads as it did. -/
def fixOpsUptoRow : OpenClaim := { program := "ytgmmpginffpjeaa", sum := "dbdedd2608989d7c35cbd888410d953ed1cec895cf1b855df4c64fa32f2e149c", func := "landfall/landfalllaw01.FixOps", spec := "fixOps", apart := false, narrowed := true }
def FixOpsUptoSaid : Prop := fixOpsUptoRow.holds Try.pinned (OpenSpec.upto fixOpsSpec)

/-- 'landfalllaw01.FixNear', WHERE WHAT IT READS IS OF BULK AT MOST 1048576: true; the input reads as it did. -/
def fixNearUptoRow : OpenClaim := { program := "ytgmmpginffpjeaa", sum := "dbdedd2608989d7c35cbd888410d953ed1cec895cf1b855df4c64fa32f2e149c", func := "landfall/landfalllaw01.FixNear", spec := "fixNear", apart := false, narrowed := true }
def FixNearUptoSaid : Prop := fixNearUptoRow.holds Try.pinned (OpenSpec.upto fixNearSpec)

/-- 'landfalllaw01.FixCut', WHERE WHAT IT READS IS OF BULK AT MOST 1048576: true; the input reads as it did. -/
def fixCutUptoRow : OpenClaim := { program := "ytgmmpginffpjeaa", sum := "dbdedd2608989d7c35cbd888410d953ed1cec895cf1b855df4c64fa32f2e149c", func := "landfall/landfalllaw01.FixCut", spec := "fixCut", apart := false, narrowed := true }
def FixCutUptoSaid : Prop := fixCutUptoRow.holds Try.pinned (OpenSpec.upto fixCutSpec)

end Rows
end Go.Proofs.Ytgmmpginffpjeaa
