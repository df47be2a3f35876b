/-
  No cell of these rows narrows 'for every input' (looked for: loops, veiled, ifaces, maps, wideKeys, modest, calm, conditions, laid).
  DERIVED. THE GIVEN ROWS OF THIS SEAT. 4 by the template 'for every input the law returns true; each argument reads behind the call as it read before'; 0 by the template 'total and deterministic' (their statements: YthcaljelmchkcaaTotals.lean).
  GIVEN WITH THE SEED: the statements are not yours to turn. If you find one false, say at which input.
  Laid BY PROGRAM, IN A SANDBOX (cutbox-rows.mjs): the forced cells as the released guide's own fill.sh prints them over the translation 85334a04b0eed18e… (all of the seat's roots in one cut). By AI agents, Wed Nov 11 2026. No macro, syntax, notation, axiom, sorry.
-/
import Derived.Test.YthcaljelmchkcaaChecked
import GoSem.Claim
import GoSem.ClaimJoined
import GoSem.ClaimMapViews
import Derived.JoinedTies
import Derived.KernelRfl
namespace Go.Proofs.Ythcaljelmchkcaa
/- THE CELL 'sum', in the pinned program and in every row, IS THE sha256 OF THE DUMP (.gsa) THAT YthcaljelmchkcaaProg.lean LOADS. Nothing in Lean hashes anything: it is a label: what it is worth is what the hold of that sum in a sandbox is worth. -/
noncomputable def Try.pinned : Pinned := { name := "ythcaljelmchkcaa", sum := "85334a04b0eed18e91cdc945b5d8c06cefce6603e15cbb12f836436483b13eff", checked := Try.checked }
namespace Rows
def none {H : Type} : Left H := { results := [], args := [] }

/-- 'landfalllaw19.AckTells': WHATEVER THE INPUT: true; the input reads as it did. -/
def ackTellsSpec : ChangeSpec := { name := "ackTells", fn := fun _ => fun
  | [d1, d2] => { results := [.lit (.bool true)], args := [d1, d2] }
  | _ => none }
def ackTellsRow : OpenClaim := { program := "ythcaljelmchkcaa", sum := "85334a04b0eed18e91cdc945b5d8c06cefce6603e15cbb12f836436483b13eff", func := "landfall/landfalllaw19.AckTells", spec := "ackTells", unfollowed := true, recurses := true, apart := false }
def AckTellsSaid : Prop := ackTellsRow.holds Try.pinned (OpenSpec.ofChange ackTellsSpec)

/-- ITS FALSE NEIGHBOUR: 'it returns false'. Refute it at one input. -/
def ackTellsWrong : ChangeSpec := { name := "ackTells", fn := fun _ => fun
  | [d1, d2] => { results := [.lit (.bool false)], args := [d1, d2] }
  | _ => none }
def AckTellsWrongFalsely : Prop := ackTellsRow.holds Try.pinned (OpenSpec.ofChange ackTellsWrong)

/-- 'landfalllaw19.AckPlays': WHATEVER THE INPUT: true; the input reads as it did. -/
def ackPlaysSpec : ChangeSpec := { name := "ackPlays", fn := fun _ => fun
  | [d] => { results := [.lit (.bool true)], args := [d] }
  | _ => none }
def ackPlaysRow : OpenClaim := { program := "ythcaljelmchkcaa", sum := "85334a04b0eed18e91cdc945b5d8c06cefce6603e15cbb12f836436483b13eff", func := "landfall/landfalllaw19.AckPlays", spec := "ackPlays", apart := false }
def AckPlaysSaid : Prop := ackPlaysRow.holds Try.pinned (OpenSpec.ofChange ackPlaysSpec)

/-- ITS FALSE NEIGHBOUR: 'it returns false'. Refute it at one input. -/
def ackPlaysWrong : ChangeSpec := { name := "ackPlays", fn := fun _ => fun
  | [d] => { results := [.lit (.bool false)], args := [d] }
  | _ => none }
def AckPlaysWrongFalsely : Prop := ackPlaysRow.holds Try.pinned (OpenSpec.ofChange ackPlaysWrong)

/-- 'landfalllaw19.AckOnce': WHATEVER THE INPUT: true; the input reads as it did. -/
def ackOnceSpec : ChangeSpec := { name := "ackOnce", fn := fun _ => fun
  | [d] => { results := [.lit (.bool true)], args := [d] }
  | _ => none }
def ackOnceRow : OpenClaim := { program := "ythcaljelmchkcaa", sum := "85334a04b0eed18e91cdc945b5d8c06cefce6603e15cbb12f836436483b13eff", func := "landfall/landfalllaw19.AckOnce", spec := "ackOnce", apart := false }
def AckOnceSaid : Prop := ackOnceRow.holds Try.pinned (OpenSpec.ofChange ackOnceSpec)

/-- ITS FALSE NEIGHBOUR: 'it returns false'. Refute it at one input. -/
def ackOnceWrong : ChangeSpec := { name := "ackOnce", fn := fun _ => fun
  | [d] => { results := [.lit (.bool false)], args := [d] }
  | _ => none }
def AckOnceWrongFalsely : Prop := ackOnceRow.holds Try.pinned (OpenSpec.ofChange ackOnceWrong)

/-- 'landfalllaw19.AckNil': WHATEVER THE INPUT: true; the input reads as it did. -/
def ackNilSpec : ChangeSpec := { name := "ackNil", fn := fun _ => fun
  | [d] => { results := [.lit (.bool true)], args := [d] }
  | _ => none }
def ackNilRow : OpenClaim := { program := "ythcaljelmchkcaa", sum := "85334a04b0eed18e91cdc945b5d8c06cefce6603e15cbb12f836436483b13eff", func := "landfall/landfalllaw19.AckNil", spec := "ackNil", apart := false }
def AckNilSaid : Prop := ackNilRow.holds Try.pinned (OpenSpec.ofChange ackNilSpec)

/-- ITS FALSE NEIGHBOUR: 'it returns false'. Refute it at one input. -/
def ackNilWrong : ChangeSpec := { name := "ackNil", fn := fun _ => fun
  | [d] => { results := [.lit (.bool false)], args := [d] }
  | _ => none }
def AckNilWrongFalsely : Prop := ackNilRow.holds Try.pinned (OpenSpec.ofChange ackNilWrong)

/- THE SECOND FORM. 'bulk': how many values and letters a reading holds, each counted each time it is reached (what is shared counts as often as it is met; a slice's spare places count too). A statement '..UptoSaid' is the law's where the arguments, and the package variables that the reading takes, are together of bulk at most 1048576: NARROWER than '..Said'. Prove '..Said' where nothing that the law and all that it calls make is longer than what came in: it says more and counts as full. Else prove '..UptoSaid'. A law counts once. -/
mutual
def uptoBulk {H : Type} : DataW H → Nat
  | .lit (.string bytes) => bytes.length + 1
  | .lit _ => 1
  | .nil => 1
  | .ptr d => uptoBulk d + 1
  | .slice elems spare => uptoBulkAll elems + uptoBulkAll spare + 1
  | .agg parts => uptoBulkAll parts + 1
  | .iface _ d => uptoBulk d + 1
  | .map entries => uptoBulkEntries entries + 1
  | .held _ => 1
def uptoBulkAll {H : Type} : List (DataW H) → Nat
  | [] => 0
  | d :: r => uptoBulk d + uptoBulkAll r
def uptoBulkEntries {H : Type} : List (Lit × DataW H) → Nat
  | [] => 0
  | x :: r => uptoBulkEntry x + uptoBulkEntries r
def uptoBulkEntry {H : Type} : Lit × DataW H → Nat
  | (.string bytes, d) => bytes.length + uptoBulk d + 1
  | (_, d) => uptoBulk d + 1
 end
def uptoSmall : (H : Type) → List (DataW H) → Bool := fun _ ds => decide (uptoBulkAll ds ≤ 1048576)
def OpenSpec.upto (s : _root_.Go.ChangeSpec) : _root_.Go.OpenSpec := { _root_.Go.OpenSpec.ofChange s with cond := some uptoSmall }

/-- 'landfalllaw19.AckTells', WHERE WHAT IT READS IS OF BULK AT MOST 1048576: true; the input reads as it did. -/
def ackTellsUptoRow : OpenClaim := { program := "ythcaljelmchkcaa", sum := "85334a04b0eed18e91cdc945b5d8c06cefce6603e15cbb12f836436483b13eff", func := "landfall/landfalllaw19.AckTells", spec := "ackTells", unfollowed := true, recurses := true, apart := false, narrowed := true }
def AckTellsUptoSaid : Prop := ackTellsUptoRow.holds Try.pinned (OpenSpec.upto ackTellsSpec)

/-- 'landfalllaw19.AckPlays', WHERE WHAT IT READS IS OF BULK AT MOST 1048576: true; the input reads as it did. -/
def ackPlaysUptoRow : OpenClaim := { program := "ythcaljelmchkcaa", sum := "85334a04b0eed18e91cdc945b5d8c06cefce6603e15cbb12f836436483b13eff", func := "landfall/landfalllaw19.AckPlays", spec := "ackPlays", apart := false, narrowed := true }
def AckPlaysUptoSaid : Prop := ackPlaysUptoRow.holds Try.pinned (OpenSpec.upto ackPlaysSpec)

/-- 'landfalllaw19.AckOnce', WHERE WHAT IT READS IS OF BULK AT MOST 1048576: true; the input reads as it did. -/
def ackOnceUptoRow : OpenClaim := { program := "ythcaljelmchkcaa", sum := "85334a04b0eed18e91cdc945b5d8c06cefce6603e15cbb12f836436483b13eff", func := "landfall/landfalllaw19.AckOnce", spec := "ackOnce", apart := false, narrowed := true }
def AckOnceUptoSaid : Prop := ackOnceUptoRow.holds Try.pinned (OpenSpec.upto ackOnceSpec)

/-- 'landfalllaw19.AckNil', WHERE WHAT IT READS IS OF BULK AT MOST 1048576: true; the input reads as it did. -/
def ackNilUptoRow : OpenClaim := { program := "ythcaljelmchkcaa", sum := "85334a04b0eed18e91cdc945b5d8c06cefce6603e15cbb12f836436483b13eff", func := "landfall/landfalllaw19.AckNil", spec := "ackNil", apart := false, narrowed := true }
def AckNilUptoSaid : Prop := ackNilUptoRow.holds Try.pinned (OpenSpec.upto ackNilSpec)

end Rows
end Go.Proofs.Ythcaljelmchkcaa
