/-
  No cell of these rows narrows 'for every input' (looked for: loops, veiled, ifaces, maps, wideKeys, modest, calm, conditions, laid).
  DERIVED. THE GIVEN ROWS OF THIS SEAT. 3 by the template 'for every input the law returns true; each argument reads behind the call as it read before'; 0 by the template 'total and deterministic' (their statements: YtjeiclfdhdcfnaaTotals.lean).
  GIVEN WITH THE SEED: the statements are not yours to turn. If you find one false, say at which input.
  Laid BY PROGRAM, IN A SANDBOX (cutbox-rows.mjs): the forced cells as the released guide's own fill.sh prints them over the translation d6c83fc99301844d… (all of the seat's roots in one cut). By AI agents, Wed Nov 11 2026. No macro, syntax, notation, axiom, sorry.
-/
import Derived.Test.YtjeiclfdhdcfnaaChecked
import GoSem.Claim
import GoSem.ClaimJoined
import GoSem.ClaimMapViews
import Derived.JoinedTies
import Derived.KernelRfl
namespace Go.Proofs.Ytjeiclfdhdcfnaa
/- THE CELL 'sum', in the pinned program and in every row, IS THE sha256 OF THE DUMP (.gsa) THAT YtjeiclfdhdcfnaaProg.lean LOADS. Nothing in Lean hashes anything: it is a label: what it is worth is what the hold of that sum in a sandbox is worth. -/
noncomputable def Try.pinned : Pinned := { name := "ytjeiclfdhdcfnaa", sum := "d6c83fc99301844d36458498df3706399643e4a3a19f7e3fb0ff50e4dd4eede4", checked := Try.checked }
namespace Rows
def none {H : Type} : Left H := { results := [], args := [] }

/-- 'landfalllaw33.GapsPlays': WHATEVER THE INPUT: true; the input reads as it did. -/
def gapsPlaysSpec : ChangeSpec := { name := "gapsPlays", fn := fun _ => fun
  | [d] => { results := [.lit (.bool true)], args := [d] }
  | _ => none }
def gapsPlaysRow : OpenClaim := { program := "ytjeiclfdhdcfnaa", sum := "d6c83fc99301844d36458498df3706399643e4a3a19f7e3fb0ff50e4dd4eede4", func := "landfall/landfalllaw33.GapsPlays", spec := "gapsPlays", unfollowed := true, recurses := true, plainKeys := false, apart := false }
def GapsPlaysSaid : Prop := gapsPlaysRow.holds Try.pinned (OpenSpec.ofChange gapsPlaysSpec)

/-- ITS FALSE NEIGHBOUR: 'it returns false'. Refute it at one input. -/
def gapsPlaysWrong : ChangeSpec := { name := "gapsPlays", fn := fun _ => fun
  | [d] => { results := [.lit (.bool false)], args := [d] }
  | _ => none }
def GapsPlaysWrongFalsely : Prop := gapsPlaysRow.holds Try.pinned (OpenSpec.ofChange gapsPlaysWrong)

/-- 'landfalllaw33.GapsTrue': WHATEVER THE INPUT: true; the input reads as it did. -/
def gapsTrueSpec : ChangeSpec := { name := "gapsTrue", fn := fun _ => fun
  | [d1, d2, d3] => { results := [.lit (.bool true)], args := [d1, d2, d3] }
  | _ => none }
def gapsTrueRow : OpenClaim := { program := "ytjeiclfdhdcfnaa", sum := "d6c83fc99301844d36458498df3706399643e4a3a19f7e3fb0ff50e4dd4eede4", func := "landfall/landfalllaw33.GapsTrue", spec := "gapsTrue", unfollowed := true, recurses := true, plainKeys := false, apart := false }
def GapsTrueSaid : Prop := gapsTrueRow.holds Try.pinned (OpenSpec.ofChange gapsTrueSpec)

/-- ITS FALSE NEIGHBOUR: 'it returns false'. Refute it at one input. -/
def gapsTrueWrong : ChangeSpec := { name := "gapsTrue", fn := fun _ => fun
  | [d1, d2, d3] => { results := [.lit (.bool false)], args := [d1, d2, d3] }
  | _ => none }
def GapsTrueWrongFalsely : Prop := gapsTrueRow.holds Try.pinned (OpenSpec.ofChange gapsTrueWrong)

/-- 'landfalllaw33.GapsNil': WHATEVER THE INPUT: true; the input reads as it did. -/
def gapsNilSpec : ChangeSpec := { name := "gapsNil", fn := fun _ => fun
  | [d] => { results := [.lit (.bool true)], args := [d] }
  | _ => none }
def gapsNilRow : OpenClaim := { program := "ytjeiclfdhdcfnaa", sum := "d6c83fc99301844d36458498df3706399643e4a3a19f7e3fb0ff50e4dd4eede4", func := "landfall/landfalllaw33.GapsNil", spec := "gapsNil", unfollowed := true, recurses := true, plainKeys := false, apart := false }
def GapsNilSaid : Prop := gapsNilRow.holds Try.pinned (OpenSpec.ofChange gapsNilSpec)

/-- ITS FALSE NEIGHBOUR: 'it returns false'. Refute it at one input. -/
def gapsNilWrong : ChangeSpec := { name := "gapsNil", fn := fun _ => fun
  | [d] => { results := [.lit (.bool false)], args := [d] }
  | _ => none }
def GapsNilWrongFalsely : Prop := gapsNilRow.holds Try.pinned (OpenSpec.ofChange gapsNilWrong)

/- THE SECOND FORM. 'bulk': how many values and letters a reading holds, each counted each time it is reached (what is shared counts as often as it is met; a slice's spare places count too). A statement '..UptoSaid' is the law's where the arguments, and the package variables that the reading takes, are together of bulk at most 1048576: NARROWER than '..Said'. Prove '..Said' where nothing that the law and all that it calls make is longer than what came in: it says more and counts as full. Else prove '..UptoSaid'. A law counts once. -/
mutual
def uptoBulk {H : Type} : DataW H → Nat
  | .lit (.string bytes) => bytes.length + 1
  | .lit _ => 1
  | .nil => 1
  | .ptr d => uptoBulk d + 1
  | .slice elems spare => uptoBulkAll elems + uptoBulkAll spare + 1
  | .agg parts => uptoBulkAll parts + 1
  | .iface _ d => uptoBulk d + 1
  | .map entries => uptoBulkEntries entries + 1
  | .held _ => 1
def uptoBulkAll {H : Type} : List (DataW H) → Nat
  | [] => 0
  | d :: r => uptoBulk d + uptoBulkAll r
def uptoBulkEntries {H : Type} : List (Lit × DataW H) → Nat
  | [] => 0
  | x :: r => uptoBulkEntry x + uptoBulkEntries r
def uptoBulkEntry {H : Type} : Lit × DataW H → Nat
  | (.string bytes, d) => bytes.length + uptoBulk d + 1
  | (_, d) => uptoBulk d + 1
 end
def uptoSmall : (H : Type) → List (DataW H) → Bool := fun _ ds => decide (uptoBulkAll ds ≤ 1048576)
def OpenSpec.upto (s : _root_.Go.ChangeSpec) : _root_.Go.OpenSpec := { _root_.Go.OpenSpec.ofChange s with cond := some uptoSmall }

/-- 'landfalllaw33.GapsPlays', WHERE WHAT IT READS IS OF BULK AT MOST 1048576: true; the input reads as it did. -/
def gapsPlaysUptoRow : OpenClaim := { program := "ytjeiclfdhdcfnaa", sum := "d6c83fc99301844d36458498df3706399643e4a3a19f7e3fb0ff50e4dd4eede4", func := "landfall/landfalllaw33.GapsPlays", spec := "gapsPlays", unfollowed := true, recurses := true, plainKeys := false, apart := false, narrowed := true }
def GapsPlaysUptoSaid : Prop := gapsPlaysUptoRow.holds Try.pinned (OpenSpec.upto gapsPlaysSpec)

/-- 'landfalllaw33.GapsTrue', WHERE WHAT IT READS IS OF BULK AT MOST 1048576: true; the input reads as it did. -/
def gapsTrueUptoRow : OpenClaim := { program := "ytjeiclfdhdcfnaa", sum := "d6c83fc99301844d36458498df3706399643e4a3a19f7e3fb0ff50e4dd4eede4", func := "landfall/landfalllaw33.GapsTrue", spec := "gapsTrue", unfollowed := true, recurses := true, plainKeys := false, apart := false, narrowed := true }
def GapsTrueUptoSaid : Prop := gapsTrueUptoRow.holds Try.pinned (OpenSpec.upto gapsTrueSpec)

/-- 'landfalllaw33.GapsNil', WHERE WHAT IT READS IS OF BULK AT MOST 1048576: true; the input reads as it did. -/
def gapsNilUptoRow : OpenClaim := { program := "ytjeiclfdhdcfnaa", sum := "d6c83fc99301844d36458498df3706399643e4a3a19f7e3fb0ff50e4dd4eede4", func := "landfall/landfalllaw33.GapsNil", spec := "gapsNil", unfollowed := true, recurses := true, plainKeys := false, apart := false, narrowed := true }
def GapsNilUptoSaid : Prop := gapsNilUptoRow.holds Try.pinned (OpenSpec.upto gapsNilSpec)

end Rows
end Go.Proofs.Ytjeiclfdhdcfnaa
