/-
  No cell of these rows narrows 'for every input' (looked for: loops, veiled, ifaces, maps, wideKeys, modest, calm, conditions, laid).
  DERIVED. THE GIVEN ROWS OF THIS SEAT. 6 by the template 'for every input the law returns true; each argument reads behind the call as it read before'; 0 by the template 'total and deterministic' (their statements: YtlfbhfmchdbnoaaTotals.lean).
  GIVEN WITH THE SEED: the statements are not yours to turn. If you find one false, say at which input.
  Laid BY PROGRAM, IN A SANDBOX (cutbox-rows.mjs): the forced cells as the released guide's own fill.sh prints them over the translation b72404f8d1f5136a… (all of the seat's roots in one cut). By AI agents, Wed Nov 11 2026. No macro, syntax, notation, axiom, sorry.
-/
import Derived.Test.YtlfbhfmchdbnoaaChecked
import GoSem.Claim
import GoSem.ClaimJoined
import GoSem.ClaimMapViews
import Derived.JoinedTies
import Derived.KernelRfl
namespace Go.Proofs.Ytlfbhfmchdbnoaa
/- THE CELL 'sum', in the pinned program and in every row, IS THE sha256 OF THE DUMP (.gsa) THAT YtlfbhfmchdbnoaaProg.lean LOADS. Nothing in Lean hashes anything: it is a label: what it is worth is what the hold of that sum in a sandbox is worth. -/
noncomputable def Try.pinned : Pinned := { name := "ytlfbhfmchdbnoaa", sum := "b72404f8d1f5136a120dbb1a2d20756d9633d53e1011a3301d3f7569cad547a2", checked := Try.checked }
namespace Rows
def none {H : Type} : Left H := { results := [], args := [] }

/-- 'landfalllaw37.RescueReads': WHATEVER THE INPUT: true; the input reads as it did. -/
def rescueReadsSpec : ChangeSpec := { name := "rescueReads", fn := fun _ => fun
  | [d1, d2] => { results := [.lit (.bool true)], args := [d1, d2] }
  | _ => none }
def rescueReadsRow : OpenClaim := { program := "ytlfbhfmchdbnoaa", sum := "b72404f8d1f5136a120dbb1a2d20756d9633d53e1011a3301d3f7569cad547a2", func := "landfall/landfalllaw37.RescueReads", spec := "rescueReads", unfollowed := true, recurses := true, apart := false }
def RescueReadsSaid : Prop := rescueReadsRow.holds Try.pinned (OpenSpec.ofChange rescueReadsSpec)

/-- ITS FALSE NEIGHBOUR: 'it returns false'. Refute it at one input. -/
def rescueReadsWrong : ChangeSpec := { name := "rescueReads", fn := fun _ => fun
  | [d1, d2] => { results := [.lit (.bool false)], args := [d1, d2] }
  | _ => none }
def RescueReadsWrongFalsely : Prop := rescueReadsRow.holds Try.pinned (OpenSpec.ofChange rescueReadsWrong)

/-- 'landfalllaw37.RescueScans': WHATEVER THE INPUT: true; the input reads as it did. -/
def rescueScansSpec : ChangeSpec := { name := "rescueScans", fn := fun _ => fun
  | [d] => { results := [.lit (.bool true)], args := [d] }
  | _ => none }
def rescueScansRow : OpenClaim := { program := "ytlfbhfmchdbnoaa", sum := "b72404f8d1f5136a120dbb1a2d20756d9633d53e1011a3301d3f7569cad547a2", func := "landfall/landfalllaw37.RescueScans", spec := "rescueScans", unfollowed := true, recurses := true, apart := false }
def RescueScansSaid : Prop := rescueScansRow.holds Try.pinned (OpenSpec.ofChange rescueScansSpec)

/-- ITS FALSE NEIGHBOUR: 'it returns false'. Refute it at one input. -/
def rescueScansWrong : ChangeSpec := { name := "rescueScans", fn := fun _ => fun
  | [d] => { results := [.lit (.bool false)], args := [d] }
  | _ => none }
def RescueScansWrongFalsely : Prop := rescueScansRow.holds Try.pinned (OpenSpec.ofChange rescueScansWrong)

/-- 'landfalllaw37.RescueTrue': WHATEVER THE INPUT: true; the input reads as it did. -/
def rescueTrueSpec : ChangeSpec := { name := "rescueTrue", fn := fun _ => fun
  | [d1, d2, d3] => { results := [.lit (.bool true)], args := [d1, d2, d3] }
  | _ => none }
def rescueTrueRow : OpenClaim := { program := "ytlfbhfmchdbnoaa", sum := "b72404f8d1f5136a120dbb1a2d20756d9633d53e1011a3301d3f7569cad547a2", func := "landfall/landfalllaw37.RescueTrue", spec := "rescueTrue", unfollowed := true, recurses := true, apart := false }
def RescueTrueSaid : Prop := rescueTrueRow.holds Try.pinned (OpenSpec.ofChange rescueTrueSpec)

/-- ITS FALSE NEIGHBOUR: 'it returns false'. Refute it at one input. -/
def rescueTrueWrong : ChangeSpec := { name := "rescueTrue", fn := fun _ => fun
  | [d1, d2, d3] => { results := [.lit (.bool false)], args := [d1, d2, d3] }
  | _ => none }
def RescueTrueWrongFalsely : Prop := rescueTrueRow.holds Try.pinned (OpenSpec.ofChange rescueTrueWrong)

/-- 'landfalllaw37.RescueCut': WHATEVER THE INPUT: true; the input reads as it did. -/
def rescueCutSpec : ChangeSpec := { name := "rescueCut", fn := fun _ => fun
  | [d1, d2, d3] => { results := [.lit (.bool true)], args := [d1, d2, d3] }
  | _ => none }
def rescueCutRow : OpenClaim := { program := "ytlfbhfmchdbnoaa", sum := "b72404f8d1f5136a120dbb1a2d20756d9633d53e1011a3301d3f7569cad547a2", func := "landfall/landfalllaw37.RescueCut", spec := "rescueCut", unfollowed := true, recurses := true, apart := false }
def RescueCutSaid : Prop := rescueCutRow.holds Try.pinned (OpenSpec.ofChange rescueCutSpec)

/-- ITS FALSE NEIGHBOUR: 'it returns false'. Refute it at one input. -/
def rescueCutWrong : ChangeSpec := { name := "rescueCut", fn := fun _ => fun
  | [d1, d2, d3] => { results := [.lit (.bool false)], args := [d1, d2, d3] }
  | _ => none }
def RescueCutWrongFalsely : Prop := rescueCutRow.holds Try.pinned (OpenSpec.ofChange rescueCutWrong)

/-- 'landfalllaw37.RescueBurst': WHATEVER THE INPUT: true; the input reads as it did. -/
def rescueBurstSpec : ChangeSpec := { name := "rescueBurst", fn := fun _ => fun
  | [d1, d2, d3, d4, d5] => { results := [.lit (.bool true)], args := [d1, d2, d3, d4, d5] }
  | _ => none }
def rescueBurstRow : OpenClaim := { program := "ytlfbhfmchdbnoaa", sum := "b72404f8d1f5136a120dbb1a2d20756d9633d53e1011a3301d3f7569cad547a2", func := "landfall/landfalllaw37.RescueBurst", spec := "rescueBurst", unfollowed := true, recurses := true, apart := false }
def RescueBurstSaid : Prop := rescueBurstRow.holds Try.pinned (OpenSpec.ofChange rescueBurstSpec)

/-- ITS FALSE NEIGHBOUR: 'it returns false'. Refute it at one input. -/
def rescueBurstWrong : ChangeSpec := { name := "rescueBurst", fn := fun _ => fun
  | [d1, d2, d3, d4, d5] => { results := [.lit (.bool false)], args := [d1, d2, d3, d4, d5] }
  | _ => none }
def RescueBurstWrongFalsely : Prop := rescueBurstRow.holds Try.pinned (OpenSpec.ofChange rescueBurstWrong)

/-- 'landfalllaw37.RescueFound': WHATEVER THE INPUT: true; the input reads as it did. -/
def rescueFoundSpec : ChangeSpec := { name := "rescueFound", fn := fun _ => fun
  | [d1, d2, d3] => { results := [.lit (.bool true)], args := [d1, d2, d3] }
  | _ => none }
def rescueFoundRow : OpenClaim := { program := "ytlfbhfmchdbnoaa", sum := "b72404f8d1f5136a120dbb1a2d20756d9633d53e1011a3301d3f7569cad547a2", func := "landfall/landfalllaw37.RescueFound", spec := "rescueFound", unfollowed := true, recurses := true, apart := false }
def RescueFoundSaid : Prop := rescueFoundRow.holds Try.pinned (OpenSpec.ofChange rescueFoundSpec)

/-- ITS FALSE NEIGHBOUR: 'it returns false'. Refute it at one input. -/
def rescueFoundWrong : ChangeSpec := { name := "rescueFound", fn := fun _ => fun
  | [d1, d2, d3] => { results := [.lit (.bool false)], args := [d1, d2, d3] }
  | _ => none }
def RescueFoundWrongFalsely : Prop := rescueFoundRow.holds Try.pinned (OpenSpec.ofChange rescueFoundWrong)

/- THE SECOND FORM. 'bulk': how many values and letters a reading holds, each counted each time it is reached (what is shared counts as often as it is met; a slice's spare places count too). A statement '..UptoSaid' is the law's where the arguments, and the package variables that the reading takes, are together of bulk at most 1048576: NARROWER than '..Said'. Prove '..Said' where nothing that the law and all that it calls make is longer than what came in: it says more and counts as full. Else prove '..UptoSaid'. A law counts once. -/
mutual
def uptoBulk {H : Type} : DataW H → Nat
  | .lit (.string bytes) => bytes.length + 1
  | .lit _ => 1
  | .nil => 1
  | .ptr d => uptoBulk d + 1
  | .slice elems spare => uptoBulkAll elems + uptoBulkAll spare + 1
  | .agg parts => uptoBulkAll parts + 1
  | .iface _ d => uptoBulk d + 1
  | .map entries => uptoBulkEntries entries + 1
  | .held _ => 1
def uptoBulkAll {H : Type} : List (DataW H) → Nat
  | [] => 0
  | d :: r => uptoBulk d + uptoBulkAll r
def uptoBulkEntries {H : Type} : List (Lit × DataW H) → Nat
  | [] => 0
  | x :: r => uptoBulkEntry x + uptoBulkEntries r
def uptoBulkEntry {H : Type} : Lit × DataW H → Nat
  | (.string bytes, d) => bytes.length + uptoBulk d + 1
  | (_, d) => uptoBulk d + 1
 end
def uptoSmall : (H : Type) → List (DataW H) → Bool := fun _ ds => decide (uptoBulkAll ds ≤ 1048576)
def OpenSpec.upto (s : _root_.Go.ChangeSpec) : _root_.Go.OpenSpec := { _root_.Go.OpenSpec.ofChange s with cond := some uptoSmall }

/-- 'landfalllaw37.RescueReads', WHERE WHAT IT READS IS OF BULK AT MOST 1048576: true; the input reads as it did. -/
def rescueReadsUptoRow : OpenClaim := { program := "ytlfbhfmchdbnoaa", sum := "b72404f8d1f5136a120dbb1a2d20756d9633d53e1011a3301d3f7569cad547a2", func := "landfall/landfalllaw37.RescueReads", spec := "rescueReads", unfollowed := true, recurses := true, apart := false, narrowed := true }
def RescueReadsUptoSaid : Prop := rescueReadsUptoRow.holds Try.pinned (OpenSpec.upto rescueReadsSpec)

/-- 'landfalllaw37.RescueScans', WHERE WHAT IT READS IS OF BULK AT MOST 1048576: true; the input reads as it did. -/
def rescueScansUptoRow : OpenClaim := { program := "ytlfbhfmchdbnoaa", sum := "b72404f8d1f5136a120dbb1a2d20756d9633d53e1011a3301d3f7569cad547a2", func := "landfall/landfalllaw37.RescueScans", spec := "rescueScans", unfollowed := true, recurses := true, apart := false, narrowed := true }
def RescueScansUptoSaid : Prop := rescueScansUptoRow.holds Try.pinned (OpenSpec.upto rescueScansSpec)

/-- 'landfalllaw37.RescueTrue', WHERE WHAT IT READS IS OF BULK AT MOST 1048576: true; the input reads as it did. -/
def rescueTrueUptoRow : OpenClaim := { program := "ytlfbhfmchdbnoaa", sum := "b72404f8d1f5136a120dbb1a2d20756d9633d53e1011a3301d3f7569cad547a2", func := "landfall/landfalllaw37.RescueTrue", spec := "rescueTrue", unfollowed := true, recurses := true, apart := false, narrowed := true }
def RescueTrueUptoSaid : Prop := rescueTrueUptoRow.holds Try.pinned (OpenSpec.upto rescueTrueSpec)

/-- 'landfalllaw37.RescueCut', WHERE WHAT IT READS IS OF BULK AT MOST 1048576: true; the input reads as it did. -/
def rescueCutUptoRow : OpenClaim := { program := "ytlfbhfmchdbnoaa", sum := "b72404f8d1f5136a120dbb1a2d20756d9633d53e1011a3301d3f7569cad547a2", func := "landfall/landfalllaw37.RescueCut", spec := "rescueCut", unfollowed := true, recurses := true, apart := false, narrowed := true }
def RescueCutUptoSaid : Prop := rescueCutUptoRow.holds Try.pinned (OpenSpec.upto rescueCutSpec)

/-- 'landfalllaw37.RescueBurst', WHERE WHAT IT READS IS OF BULK AT MOST 1048576: true; the input reads as it did. -/
def rescueBurstUptoRow : OpenClaim := { program := "ytlfbhfmchdbnoaa", sum := "b72404f8d1f5136a120dbb1a2d20756d9633d53e1011a3301d3f7569cad547a2", func := "landfall/landfalllaw37.RescueBurst", spec := "rescueBurst", unfollowed := true, recurses := true, apart := false, narrowed := true }
def RescueBurstUptoSaid : Prop := rescueBurstUptoRow.holds Try.pinned (OpenSpec.upto rescueBurstSpec)

/-- 'landfalllaw37.RescueFound', WHERE WHAT IT READS IS OF BULK AT MOST 1048576: true; the input reads as it did. -/
def rescueFoundUptoRow : OpenClaim := { program := "ytlfbhfmchdbnoaa", sum := "b72404f8d1f5136a120dbb1a2d20756d9633d53e1011a3301d3f7569cad547a2", func := "landfall/landfalllaw37.RescueFound", spec := "rescueFound", unfollowed := true, recurses := true, apart := false, narrowed := true }
def RescueFoundUptoSaid : Prop := rescueFoundUptoRow.holds Try.pinned (OpenSpec.upto rescueFoundSpec)

end Rows
end Go.Proofs.Ytlfbhfmchdbnoaa
