/-
  No cell of these rows narrows 'for every input' (looked for: loops, veiled, ifaces, maps, wideKeys, modest, calm, conditions, laid).
  DERIVED. THE GIVEN ROWS OF THIS SEAT. 4 by the template 'for every input the law returns true; each argument reads behind the call as it read before'; 0 by the template 'total and deterministic' (their statements: YtnabfimammojhaaTotals.lean).
  GIVEN WITH THE SEED: the statements are not yours to turn. If you find one false, say at which input.
  Laid BY PROGRAM, IN A SANDBOX (cutbox-rows.mjs): the forced cells as the released guide's own fill.sh prints them over the translation 5b463ed2577f1e24… (all of the seat's roots in one cut). By AI agents, Wed Nov 11 2026. No macro, syntax, notation, axiom, sorry.
-/
import Derived.Test.YtnabfimammojhaaChecked
import GoSem.Claim
import GoSem.ClaimJoined
import GoSem.ClaimMapViews
import Derived.JoinedTies
import Derived.KernelRfl
namespace Go.Proofs.Ytnabfimammojhaa
/- THE CELL 'sum', in the pinned program and in every row, IS THE sha256 OF THE DUMP (.gsa) THAT YtnabfimammojhaaProg.lean LOADS. Nothing in Lean hashes anything: it is a label: what it is worth is what the hold of that sum in a sandbox is worth. -/
noncomputable def Try.pinned : Pinned := { name := "ytnabfimammojhaa", sum := "5b463ed2577f1e24f83420fb32336991dcf08793cb8d5b08c9009ab9b9686922", checked := Try.checked }
namespace Rows
def none {H : Type} : Left H := { results := [], args := [] }

/-- 'landfalllaw12.SmallPacks': WHATEVER THE INPUT: true; the input reads as it did. -/
def smallPacksSpec : ChangeSpec := { name := "smallPacks", fn := fun _ => fun
  | [d] => { results := [.lit (.bool true)], args := [d] }
  | _ => none }
def smallPacksRow : OpenClaim := { program := "ytnabfimammojhaa", sum := "5b463ed2577f1e24f83420fb32336991dcf08793cb8d5b08c9009ab9b9686922", func := "landfall/landfalllaw12.SmallPacks", spec := "smallPacks", unfollowed := true, recurses := true, apart := false }
def SmallPacksSaid : Prop := smallPacksRow.holds Try.pinned (OpenSpec.ofChange smallPacksSpec)

/-- ITS FALSE NEIGHBOUR: 'it returns false'. Refute it at one input. -/
def smallPacksWrong : ChangeSpec := { name := "smallPacks", fn := fun _ => fun
  | [d] => { results := [.lit (.bool false)], args := [d] }
  | _ => none }
def SmallPacksWrongFalsely : Prop := smallPacksRow.holds Try.pinned (OpenSpec.ofChange smallPacksWrong)

/-- 'landfalllaw12.SmallUnpacks': WHATEVER THE INPUT: true; the input reads as it did. -/
def smallUnpacksSpec : ChangeSpec := { name := "smallUnpacks", fn := fun _ => fun
  | [d] => { results := [.lit (.bool true)], args := [d] }
  | _ => none }
def smallUnpacksRow : OpenClaim := { program := "ytnabfimammojhaa", sum := "5b463ed2577f1e24f83420fb32336991dcf08793cb8d5b08c9009ab9b9686922", func := "landfall/landfalllaw12.SmallUnpacks", spec := "smallUnpacks", unfollowed := true, recurses := true, apart := false }
def SmallUnpacksSaid : Prop := smallUnpacksRow.holds Try.pinned (OpenSpec.ofChange smallUnpacksSpec)

/-- ITS FALSE NEIGHBOUR: 'it returns false'. Refute it at one input. -/
def smallUnpacksWrong : ChangeSpec := { name := "smallUnpacks", fn := fun _ => fun
  | [d] => { results := [.lit (.bool false)], args := [d] }
  | _ => none }
def SmallUnpacksWrongFalsely : Prop := smallUnpacksRow.holds Try.pinned (OpenSpec.ofChange smallUnpacksWrong)

/-- 'landfalllaw12.SmallClose': WHATEVER THE INPUT: true; the input reads as it did. -/
def smallCloseSpec : ChangeSpec := { name := "smallClose", fn := fun _ => fun
  | [d] => { results := [.lit (.bool true)], args := [d] }
  | _ => none }
def smallCloseRow : OpenClaim := { program := "ytnabfimammojhaa", sum := "5b463ed2577f1e24f83420fb32336991dcf08793cb8d5b08c9009ab9b9686922", func := "landfall/landfalllaw12.SmallClose", spec := "smallClose", unfollowed := true, recurses := true, apart := false }
def SmallCloseSaid : Prop := smallCloseRow.holds Try.pinned (OpenSpec.ofChange smallCloseSpec)

/-- ITS FALSE NEIGHBOUR: 'it returns false'. Refute it at one input. -/
def smallCloseWrong : ChangeSpec := { name := "smallClose", fn := fun _ => fun
  | [d] => { results := [.lit (.bool false)], args := [d] }
  | _ => none }
def SmallCloseWrongFalsely : Prop := smallCloseRow.holds Try.pinned (OpenSpec.ofChange smallCloseWrong)

/-- 'landfalllaw12.SmallNorm': WHATEVER THE INPUT: true; the input reads as it did. -/
def smallNormSpec : ChangeSpec := { name := "smallNorm", fn := fun _ => fun
  | [d] => { results := [.lit (.bool true)], args := [d] }
  | _ => none }
def smallNormRow : OpenClaim := { program := "ytnabfimammojhaa", sum := "5b463ed2577f1e24f83420fb32336991dcf08793cb8d5b08c9009ab9b9686922", func := "landfall/landfalllaw12.SmallNorm", spec := "smallNorm", unfollowed := true, recurses := true, apart := false }
def SmallNormSaid : Prop := smallNormRow.holds Try.pinned (OpenSpec.ofChange smallNormSpec)

/-- ITS FALSE NEIGHBOUR: 'it returns false'. Refute it at one input. -/
def smallNormWrong : ChangeSpec := { name := "smallNorm", fn := fun _ => fun
  | [d] => { results := [.lit (.bool false)], args := [d] }
  | _ => none }
def SmallNormWrongFalsely : Prop := smallNormRow.holds Try.pinned (OpenSpec.ofChange smallNormWrong)

/- THE SECOND FORM. 'bulk': how many values and letters a reading holds, each counted each time it is reached (what is shared counts as often as it is met; a slice's spare places count too). A statement '..UptoSaid' is the law's where the arguments, and the package variables that the reading takes, are together of bulk at most 1048576: NARROWER than '..Said'. Prove '..Said' where nothing that the law and all that it calls make is longer than what came in: it says more and counts as full. Else prove '..UptoSaid'. A law counts once. -/
mutual
def uptoBulk {H : Type} : DataW H → Nat
  | .lit (.string bytes) => bytes.length + 1
  | .lit _ => 1
  | .nil => 1
  | .ptr d => uptoBulk d + 1
  | .slice elems spare => uptoBulkAll elems + uptoBulkAll spare + 1
  | .agg parts => uptoBulkAll parts + 1
  | .iface _ d => uptoBulk d + 1
  | .map entries => uptoBulkEntries entries + 1
  | .held _ => 1
def uptoBulkAll {H : Type} : List (DataW H) → Nat
  | [] => 0
  | d :: r => uptoBulk d + uptoBulkAll r
def uptoBulkEntries {H : Type} : List (Lit × DataW H) → Nat
  | [] => 0
  | x :: r => uptoBulkEntry x + uptoBulkEntries r
def uptoBulkEntry {H : Type} : Lit × DataW H → Nat
  | (.string bytes, d) => bytes.length + uptoBulk d + 1
  | (_, d) => uptoBulk d + 1
 end
def uptoSmall : (H : Type) → List (DataW H) → Bool := fun _ ds => decide (uptoBulkAll ds ≤ 1048576)
def OpenSpec.upto (s : _root_.Go.ChangeSpec) : _root_.Go.OpenSpec := { _root_.Go.OpenSpec.ofChange s with cond := some uptoSmall }

/-- 'landfalllaw12.SmallPacks', WHERE WHAT IT READS IS OF BULK AT MOST 1048576: true; the input reads as it did. -/
def smallPacksUptoRow : OpenClaim := { program := "ytnabfimammojhaa", sum := "5b463ed2577f1e24f83420fb32336991dcf08793cb8d5b08c9009ab9b9686922", func := "landfall/landfalllaw12.SmallPacks", spec := "smallPacks", unfollowed := true, recurses := true, apart := false, narrowed := true }
def SmallPacksUptoSaid : Prop := smallPacksUptoRow.holds Try.pinned (OpenSpec.upto smallPacksSpec)

/-- 'landfalllaw12.SmallUnpacks', WHERE WHAT IT READS IS OF BULK AT MOST 1048576: true; the input reads as it did. -/
def smallUnpacksUptoRow : OpenClaim := { program := "ytnabfimammojhaa", sum := "5b463ed2577f1e24f83420fb32336991dcf08793cb8d5b08c9009ab9b9686922", func := "landfall/landfalllaw12.SmallUnpacks", spec := "smallUnpacks", unfollowed := true, recurses := true, apart := false, narrowed := true }
def SmallUnpacksUptoSaid : Prop := smallUnpacksUptoRow.holds Try.pinned (OpenSpec.upto smallUnpacksSpec)

/-- 'landfalllaw12.SmallClose', WHERE WHAT IT READS IS OF BULK AT MOST 1048576: true; the input reads as it did. -/
def smallCloseUptoRow : OpenClaim := { program := "ytnabfimammojhaa", sum := "5b463ed2577f1e24f83420fb32336991dcf08793cb8d5b08c9009ab9b9686922", func := "landfall/landfalllaw12.SmallClose", spec := "smallClose", unfollowed := true, recurses := true, apart := false, narrowed := true }
def SmallCloseUptoSaid : Prop := smallCloseUptoRow.holds Try.pinned (OpenSpec.upto smallCloseSpec)

/-- 'landfalllaw12.SmallNorm', WHERE WHAT IT READS IS OF BULK AT MOST 1048576: true; the input reads as it did. -/
def smallNormUptoRow : OpenClaim := { program := "ytnabfimammojhaa", sum := "5b463ed2577f1e24f83420fb32336991dcf08793cb8d5b08c9009ab9b9686922", func := "landfall/landfalllaw12.SmallNorm", spec := "smallNorm", unfollowed := true, recurses := true, apart := false, narrowed := true }
def SmallNormUptoSaid : Prop := smallNormUptoRow.holds Try.pinned (OpenSpec.upto smallNormSpec)

end Rows
end Go.Proofs.Ytnabfimammojhaa
