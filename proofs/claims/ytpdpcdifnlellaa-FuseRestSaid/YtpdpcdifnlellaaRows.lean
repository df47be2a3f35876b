/-
  No cell of these rows narrows 'for every input' (looked for: loops, veiled, ifaces, maps, wideKeys, modest, calm, conditions, laid).
  DERIVED. THE GIVEN ROWS OF THIS SEAT. 2 by the template 'for every input the law returns true; each argument reads behind the call as it read before'; 0 by the template 'total and deterministic' (their statements: YtpdpcdifnlellaaTotals.lean).
  GIVEN WITH THE SEED: the statements are not yours to turn. If you find one false, say at which input.
  Laid BY PROGRAM, IN A SANDBOX (cutbox-rows.mjs): the forced cells as the released guide's own fill.sh prints them over the translation 3bbda2453810193e… (all of the seat's roots in one cut). By AI agents, Wed Nov 11 2026. No macro, syntax, notation, axiom, sorry.
-/
import Derived.Test.YtpdpcdifnlellaaChecked
import GoSem.Claim
import GoSem.ClaimJoined
import GoSem.ClaimMapViews
import Derived.JoinedTies
import Derived.KernelRfl
namespace Go.Proofs.Ytpdpcdifnlellaa
/- THE CELL 'sum', in the pinned program and in every row, IS THE sha256 OF THE DUMP (.gsa) THAT YtpdpcdifnlellaaProg.lean LOADS. Nothing in Lean hashes anything: it is a label: what it is worth is what the hold of that sum in a sandbox is worth. -/
noncomputable def Try.pinned : Pinned := { name := "ytpdpcdifnlellaa", sum := "3bbda2453810193ef50755d3f03aef0f66a097bcfd550b10249d2e80878c831f", checked := Try.checked }
namespace Rows
def none {H : Type} : Left H := { results := [], args := [] }

/-- 'landfalllaw42.FuseRange': WHATEVER THE INPUT: true; the input reads as it did. -/
def fuseRangeSpec : ChangeSpec := { name := "fuseRange", fn := fun _ => fun
  | [d1, d2] => { results := [.lit (.bool true)], args := [d1, d2] }
  | _ => none }
def fuseRangeRow : OpenClaim := { program := "ytpdpcdifnlellaa", sum := "3bbda2453810193ef50755d3f03aef0f66a097bcfd550b10249d2e80878c831f", func := "landfall/landfalllaw42.FuseRange", spec := "fuseRange", unfollowed := true, recurses := true, apart := false }
def FuseRangeSaid : Prop := fuseRangeRow.holds Try.pinned (OpenSpec.ofChange fuseRangeSpec)

/-- ITS FALSE NEIGHBOUR: 'it returns false'. Refute it at one input. -/
def fuseRangeWrong : ChangeSpec := { name := "fuseRange", fn := fun _ => fun
  | [d1, d2] => { results := [.lit (.bool false)], args := [d1, d2] }
  | _ => none }
def FuseRangeWrongFalsely : Prop := fuseRangeRow.holds Try.pinned (OpenSpec.ofChange fuseRangeWrong)

/-- 'landfalllaw42.FuseRest': WHATEVER THE INPUT: true; the input reads as it did. -/
def fuseRestSpec : ChangeSpec := { name := "fuseRest", fn := fun _ => fun
  | [d1, d2, d3, d4] => { results := [.lit (.bool true)], args := [d1, d2, d3, d4] }
  | _ => none }
def fuseRestRow : OpenClaim := { program := "ytpdpcdifnlellaa", sum := "3bbda2453810193ef50755d3f03aef0f66a097bcfd550b10249d2e80878c831f", func := "landfall/landfalllaw42.FuseRest", spec := "fuseRest", unfollowed := true, recurses := true, apart := false }
def FuseRestSaid : Prop := fuseRestRow.holds Try.pinned (OpenSpec.ofChange fuseRestSpec)

/-- ITS FALSE NEIGHBOUR: 'it returns false'. Refute it at one input. -/
def fuseRestWrong : ChangeSpec := { name := "fuseRest", fn := fun _ => fun
  | [d1, d2, d3, d4] => { results := [.lit (.bool false)], args := [d1, d2, d3, d4] }
  | _ => none }
def FuseRestWrongFalsely : Prop := fuseRestRow.holds Try.pinned (OpenSpec.ofChange fuseRestWrong)

/- THE SECOND FORM. 'bulk': how many values and letters a reading holds, each counted each time it is reached (what is shared counts as often as it is met; a slice's spare places count too). A statement '..UptoSaid' is the law's where the arguments, and the package variables that the reading takes, are together of bulk at most 1048576: NARROWER than '..Said'. Prove '..Said' where nothing that the law and all that it calls make is longer than what came in: it says more and counts as full. Else prove '..UptoSaid'. A law counts once. -/
mutual
def uptoBulk {H : Type} : DataW H → Nat
  | .lit (.string bytes) => bytes.length + 1
  | .lit _ => 1
  | .nil => 1
  | .ptr d => uptoBulk d + 1
  | .slice elems spare => uptoBulkAll elems + uptoBulkAll spare + 1
  | .agg parts => uptoBulkAll parts + 1
  | .iface _ d => uptoBulk d + 1
  | .map entries => uptoBulkEntries entries + 1
  | .held _ => 1
def uptoBulkAll {H : Type} : List (DataW H) → Nat
  | [] => 0
  | d :: r => uptoBulk d + uptoBulkAll r
def uptoBulkEntries {H : Type} : List (Lit × DataW H) → Nat
  | [] => 0
  | x :: r => uptoBulkEntry x + uptoBulkEntries r
def uptoBulkEntry {H : Type} : Lit × DataW H → Nat
  | (.string bytes, d) => bytes.length + uptoBulk d + 1
  | (_, d) => uptoBulk d + 1
 end
def uptoSmall : (H : Type) → List (DataW H) → Bool := fun _ ds => decide (uptoBulkAll ds ≤ 1048576)
def OpenSpec.upto (s : _root_.Go.ChangeSpec) : _root_.Go.OpenSpec := { _root_.Go.OpenSpec.ofChange s with cond := some uptoSmall }

/-- 'landfalllaw42.FuseRange', WHERE WHAT IT READS IS OF BULK AT MOST 1048576: true; the input reads as it did. -/
def fuseRangeUptoRow : OpenClaim := { program := "ytpdpcdifnlellaa", sum := "3bbda2453810193ef50755d3f03aef0f66a097bcfd550b10249d2e80878c831f", func := "landfall/landfalllaw42.FuseRange", spec := "fuseRange", unfollowed := true, recurses := true, apart := false, narrowed := true }
def FuseRangeUptoSaid : Prop := fuseRangeUptoRow.holds Try.pinned (OpenSpec.upto fuseRangeSpec)

/-- 'landfalllaw42.FuseRest', WHERE WHAT IT READS IS OF BULK AT MOST 1048576: true; the input reads as it did. -/
def fuseRestUptoRow : OpenClaim := { program := "ytpdpcdifnlellaa", sum := "3bbda2453810193ef50755d3f03aef0f66a097bcfd550b10249d2e80878c831f", func := "landfall/landfalllaw42.FuseRest", spec := "fuseRest", unfollowed := true, recurses := true, apart := false, narrowed := true }
def FuseRestUptoSaid : Prop := fuseRestUptoRow.holds Try.pinned (OpenSpec.upto fuseRestSpec)

end Rows
end Go.Proofs.Ytpdpcdifnlellaa
