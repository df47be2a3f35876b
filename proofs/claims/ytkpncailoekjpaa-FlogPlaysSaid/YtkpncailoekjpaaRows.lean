/-
  No cell of these rows narrows 'for every input' (looked for: loops, veiled, ifaces, maps, wideKeys, modest, calm, conditions, laid).
  DERIVED. THE GIVEN ROWS OF THIS SEAT. 4 by the template 'for every input the law returns true; each argument reads behind the call as it read before'; 0 by the template 'total and deterministic' (their statements: YtkpncailoekjpaaTotals.lean).
  GIVEN WITH THE SEED: the statements are not yours to turn. If you find one false, say at which input.
  Laid BY PROGRAM, IN A SANDBOX (cutbox-rows.mjs): the forced cells as the released guide's own fill.sh prints them over the translation 5b37ce53351f3030… (all of the seat's roots in one cut). By AI agents, Wed Nov 11 2026. No macro, syntax, notation, axiom, sorry.
-/
import Derived.Test.YtkpncailoekjpaaChecked
import GoSem.Claim
import GoSem.ClaimJoined
import GoSem.ClaimMapViews
import Derived.JoinedTies
import Derived.KernelRfl
namespace Go.Proofs.Ytkpncailoekjpaa
/- THE CELL 'sum', in the pinned program and in every row, IS THE sha256 OF THE DUMP (.gsa) THAT YtkpncailoekjpaaProg.lean LOADS. Nothing in Lean hashes anything: it is a label: what it is worth is what the hold of that sum in a sandbox is worth. -/
noncomputable def Try.pinned : Pinned := { name := "ytkpncailoekjpaa", sum := "5b37ce53351f3030462f32de271ffcf012cc8279e230170cd7c82c9139f33340", checked := Try.checked }
namespace Rows
def none {H : Type} : Left H := { results := [], args := [] }

/-- 'landfalllaw36.FlogPlays': WHATEVER THE INPUT: true; the input reads as it did. -/
def flogPlaysSpec : ChangeSpec := { name := "flogPlays", fn := fun _ => fun
  | [d1, d2] => { results := [.lit (.bool true)], args := [d1, d2] }
  | _ => none }
def flogPlaysRow : OpenClaim := { program := "ytkpncailoekjpaa", sum := "5b37ce53351f3030462f32de271ffcf012cc8279e230170cd7c82c9139f33340", func := "landfall/landfalllaw36.FlogPlays", spec := "flogPlays", unfollowed := true, recurses := true, apart := false }
def FlogPlaysSaid : Prop := flogPlaysRow.holds Try.pinned (OpenSpec.ofChange flogPlaysSpec)

/-- ITS FALSE NEIGHBOUR: 'it returns false'. Refute it at one input. -/
def flogPlaysWrong : ChangeSpec := { name := "flogPlays", fn := fun _ => fun
  | [d1, d2] => { results := [.lit (.bool false)], args := [d1, d2] }
  | _ => none }
def FlogPlaysWrongFalsely : Prop := flogPlaysRow.holds Try.pinned (OpenSpec.ofChange flogPlaysWrong)

/-- 'landfalllaw36.FlogWrites': WHATEVER THE INPUT: true; the input reads as it did. -/
def flogWritesSpec : ChangeSpec := { name := "flogWrites", fn := fun _ => fun
  | [d1, d2] => { results := [.lit (.bool true)], args := [d1, d2] }
  | _ => none }
def flogWritesRow : OpenClaim := { program := "ytkpncailoekjpaa", sum := "5b37ce53351f3030462f32de271ffcf012cc8279e230170cd7c82c9139f33340", func := "landfall/landfalllaw36.FlogWrites", spec := "flogWrites", unfollowed := true, recurses := true, apart := false }
def FlogWritesSaid : Prop := flogWritesRow.holds Try.pinned (OpenSpec.ofChange flogWritesSpec)

/-- ITS FALSE NEIGHBOUR: 'it returns false'. Refute it at one input. -/
def flogWritesWrong : ChangeSpec := { name := "flogWrites", fn := fun _ => fun
  | [d1, d2] => { results := [.lit (.bool false)], args := [d1, d2] }
  | _ => none }
def FlogWritesWrongFalsely : Prop := flogWritesRow.holds Try.pinned (OpenSpec.ofChange flogWritesWrong)

/-- 'landfalllaw36.FlogLog': WHATEVER THE INPUT: true; the input reads as it did. -/
def flogLogSpec : ChangeSpec := { name := "flogLog", fn := fun _ => fun
  | [d1, d2] => { results := [.lit (.bool true)], args := [d1, d2] }
  | _ => none }
def flogLogRow : OpenClaim := { program := "ytkpncailoekjpaa", sum := "5b37ce53351f3030462f32de271ffcf012cc8279e230170cd7c82c9139f33340", func := "landfall/landfalllaw36.FlogLog", spec := "flogLog", unfollowed := true, recurses := true, apart := false }
def FlogLogSaid : Prop := flogLogRow.holds Try.pinned (OpenSpec.ofChange flogLogSpec)

/-- ITS FALSE NEIGHBOUR: 'it returns false'. Refute it at one input. -/
def flogLogWrong : ChangeSpec := { name := "flogLog", fn := fun _ => fun
  | [d1, d2] => { results := [.lit (.bool false)], args := [d1, d2] }
  | _ => none }
def FlogLogWrongFalsely : Prop := flogLogRow.holds Try.pinned (OpenSpec.ofChange flogLogWrong)

/-- 'landfalllaw36.FlogNil': WHATEVER THE INPUT: true; the input reads as it did. -/
def flogNilSpec : ChangeSpec := { name := "flogNil", fn := fun _ => fun
  | [d] => { results := [.lit (.bool true)], args := [d] }
  | _ => none }
def flogNilRow : OpenClaim := { program := "ytkpncailoekjpaa", sum := "5b37ce53351f3030462f32de271ffcf012cc8279e230170cd7c82c9139f33340", func := "landfall/landfalllaw36.FlogNil", spec := "flogNil", unfollowed := true, recurses := true, apart := false }
def FlogNilSaid : Prop := flogNilRow.holds Try.pinned (OpenSpec.ofChange flogNilSpec)

/-- ITS FALSE NEIGHBOUR: 'it returns false'. Refute it at one input. -/
def flogNilWrong : ChangeSpec := { name := "flogNil", fn := fun _ => fun
  | [d] => { results := [.lit (.bool false)], args := [d] }
  | _ => none }
def FlogNilWrongFalsely : Prop := flogNilRow.holds Try.pinned (OpenSpec.ofChange flogNilWrong)

/- THE SECOND FORM. 'bulk': how many values and letters a reading holds, each counted each time it is reached (what is shared counts as often as it is met; a slice's spare places count too). A statement '..UptoSaid' is the law's where the arguments, and the package variables that the reading takes, are together of bulk at most 1048576: NARROWER than '..Said'. Prove '..Said' where nothing that the law and all that it calls make is longer than what came in: it says more and counts as full. Else prove '..UptoSaid'. A law counts once. -/
mutual
def uptoBulk {H : Type} : DataW H → Nat
  | .lit (.string bytes) => bytes.length + 1
  | .lit _ => 1
  | .nil => 1
  | .ptr d => uptoBulk d + 1
  | .slice elems spare => uptoBulkAll elems + uptoBulkAll spare + 1
  | .agg parts => uptoBulkAll parts + 1
  | .iface _ d => uptoBulk d + 1
  | .map entries => uptoBulkEntries entries + 1
  | .held _ => 1
def uptoBulkAll {H : Type} : List (DataW H) → Nat
  | [] => 0
  | d :: r => uptoBulk d + uptoBulkAll r
def uptoBulkEntries {H : Type} : List (Lit × DataW H) → Nat
  | [] => 0
  | x :: r => uptoBulkEntry x + uptoBulkEntries r
def uptoBulkEntry {H : Type} : Lit × DataW H → Nat
  | (.string bytes, d) => bytes.length + uptoBulk d + 1
  | (_, d) => uptoBulk d + 1
 end
def uptoSmall : (H : Type) → List (DataW H) → Bool := fun _ ds => decide (uptoBulkAll ds ≤ 1048576)
def OpenSpec.upto (s : _root_.Go.ChangeSpec) : _root_.Go.OpenSpec := { _root_.Go.OpenSpec.ofChange s with cond := some uptoSmall }

/-- 'landfalllaw36.FlogPlays', WHERE WHAT IT READS IS OF BULK AT MOST 1048576: true; the input reads as it did. -/
def flogPlaysUptoRow : OpenClaim := { program := "ytkpncailoekjpaa", sum := "5b37ce53351f3030462f32de271ffcf012cc8279e230170cd7c82c9139f33340", func := "landfall/landfalllaw36.FlogPlays", spec := "flogPlays", unfollowed := true, recurses := true, apart := false, narrowed := true }
def FlogPlaysUptoSaid : Prop := flogPlaysUptoRow.holds Try.pinned (OpenSpec.upto flogPlaysSpec)

/-- 'landfalllaw36.FlogWrites', WHERE WHAT IT READS IS OF BULK AT MOST 1048576: true; the input reads as it did. -/
def flogWritesUptoRow : OpenClaim := { program := "ytkpncailoekjpaa", sum := "5b37ce53351f3030462f32de271ffcf012cc8279e230170cd7c82c9139f33340", func := "landfall/landfalllaw36.FlogWrites", spec := "flogWrites", unfollowed := true, recurses := true, apart := false, narrowed := true }
def FlogWritesUptoSaid : Prop := flogWritesUptoRow.holds Try.pinned (OpenSpec.upto flogWritesSpec)

/-- 'landfalllaw36.FlogLog', WHERE WHAT IT READS IS OF BULK AT MOST 1048576: true; the input reads as it did. -/
def flogLogUptoRow : OpenClaim := { program := "ytkpncailoekjpaa", sum := "5b37ce53351f3030462f32de271ffcf012cc8279e230170cd7c82c9139f33340", func := "landfall/landfalllaw36.FlogLog", spec := "flogLog", unfollowed := true, recurses := true, apart := false, narrowed := true }
def FlogLogUptoSaid : Prop := flogLogUptoRow.holds Try.pinned (OpenSpec.upto flogLogSpec)

/-- 'landfalllaw36.FlogNil', WHERE WHAT IT READS IS OF BULK AT MOST 1048576: true; the input reads as it did. -/
def flogNilUptoRow : OpenClaim := { program := "ytkpncailoekjpaa", sum := "5b37ce53351f3030462f32de271ffcf012cc8279e230170cd7c82c9139f33340", func := "landfall/landfalllaw36.FlogNil", spec := "flogNil", unfollowed := true, recurses := true, apart := false, narrowed := true }
def FlogNilUptoSaid : Prop := flogNilUptoRow.holds Try.pinned (OpenSpec.upto flogNilSpec)

end Rows
end Go.Proofs.Ytkpncailoekjpaa
