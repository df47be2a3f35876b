/-
  No cell of these rows narrows 'for every input' (looked for: loops, veiled, ifaces, maps, wideKeys, modest, calm, conditions, laid).
  DERIVED. THE GIVEN ROWS OF THIS SEAT. 3 by the template 'for every input the law returns true; each argument reads behind the call as it read before'; 0 by the template 'total and deterministic' (their statements: YtahjcbdofljfpaaTotals.lean).
  GIVEN WITH THE SEED: the statements are not yours to turn. If you find one false, say at which input.
  Laid BY PROGRAM, IN A SANDBOX (cutbox-rows.mjs): the forced cells as the released guide's own fill.sh prints them over the translation ee0ad1eb491b06f9… (all of the seat's roots in one cut). By AI agents, Wed Nov 11 2026. No macro, syntax, notation, axiom, sorry.
-/
import Derived.Test.YtahjcbdofljfpaaChecked
import GoSem.Claim
import GoSem.ClaimJoined
import GoSem.ClaimMapViews
import Derived.JoinedTies
import Derived.KernelRfl
namespace Go.Proofs.Ytahjcbdofljfpaa
/- THE CELL 'sum', in the pinned program and in every row, IS THE sha256 OF THE DUMP (.gsa) THAT YtahjcbdofljfpaaProg.lean LOADS. Nothing in Lean hashes anything: it is a label: what it is worth is what the hold of that sum in a sandbox is worth. -/
noncomputable def Try.pinned : Pinned := { name := "ytahjcbdofljfpaa", sum := "ee0ad1eb491b06f92c796f756b6bfe37559fc9e3518d2c38215daabeb23b62c8", checked := Try.checked }
namespace Rows
def none {H : Type} : Left H := { results := [], args := [] }

/-- 'landfalllaw17.SatsPuts': WHATEVER THE INPUT: true; the input reads as it did. -/
def satsPutsSpec : ChangeSpec := { name := "satsPuts", fn := fun _ => fun
  | [d] => { results := [.lit (.bool true)], args := [d] }
  | _ => none }
def satsPutsRow : OpenClaim := { program := "ytahjcbdofljfpaa", sum := "ee0ad1eb491b06f92c796f756b6bfe37559fc9e3518d2c38215daabeb23b62c8", func := "landfall/landfalllaw17.SatsPuts", spec := "satsPuts", unfollowed := true, recurses := true, apart := false }
def SatsPutsSaid : Prop := satsPutsRow.holds Try.pinned (OpenSpec.ofChange satsPutsSpec)

/-- ITS FALSE NEIGHBOUR: 'it returns false'. Refute it at one input. -/
def satsPutsWrong : ChangeSpec := { name := "satsPuts", fn := fun _ => fun
  | [d] => { results := [.lit (.bool false)], args := [d] }
  | _ => none }
def SatsPutsWrongFalsely : Prop := satsPutsRow.holds Try.pinned (OpenSpec.ofChange satsPutsWrong)

/-- 'landfalllaw17.SatsTakes': WHATEVER THE INPUT: true; the input reads as it did. -/
def satsTakesSpec : ChangeSpec := { name := "satsTakes", fn := fun _ => fun
  | [d] => { results := [.lit (.bool true)], args := [d] }
  | _ => none }
def satsTakesRow : OpenClaim := { program := "ytahjcbdofljfpaa", sum := "ee0ad1eb491b06f92c796f756b6bfe37559fc9e3518d2c38215daabeb23b62c8", func := "landfall/landfalllaw17.SatsTakes", spec := "satsTakes", unfollowed := true, recurses := true, apart := false }
def SatsTakesSaid : Prop := satsTakesRow.holds Try.pinned (OpenSpec.ofChange satsTakesSpec)

/-- ITS FALSE NEIGHBOUR: 'it returns false'. Refute it at one input. -/
def satsTakesWrong : ChangeSpec := { name := "satsTakes", fn := fun _ => fun
  | [d] => { results := [.lit (.bool false)], args := [d] }
  | _ => none }
def SatsTakesWrongFalsely : Prop := satsTakesRow.holds Try.pinned (OpenSpec.ofChange satsTakesWrong)

/-- 'landfalllaw17.SatsBack': WHATEVER THE INPUT: true; the input reads as it did. -/
def satsBackSpec : ChangeSpec := { name := "satsBack", fn := fun _ => fun
  | [d1, d2] => { results := [.lit (.bool true)], args := [d1, d2] }
  | _ => none }
def satsBackRow : OpenClaim := { program := "ytahjcbdofljfpaa", sum := "ee0ad1eb491b06f92c796f756b6bfe37559fc9e3518d2c38215daabeb23b62c8", func := "landfall/landfalllaw17.SatsBack", spec := "satsBack", unfollowed := true, recurses := true, apart := false }
def SatsBackSaid : Prop := satsBackRow.holds Try.pinned (OpenSpec.ofChange satsBackSpec)

/-- ITS FALSE NEIGHBOUR: 'it returns false'. Refute it at one input. -/
def satsBackWrong : ChangeSpec := { name := "satsBack", fn := fun _ => fun
  | [d1, d2] => { results := [.lit (.bool false)], args := [d1, d2] }
  | _ => none }
def SatsBackWrongFalsely : Prop := satsBackRow.holds Try.pinned (OpenSpec.ofChange satsBackWrong)

/- THE SECOND FORM. 'bulk': how many values and letters a reading holds, each counted each time it is reached (what is shared counts as often as it is met; a slice's spare places count too). A statement '..UptoSaid' is the law's where the arguments, and the package variables that the reading takes, are together of bulk at most 1048576: NARROWER than '..Said'. Prove '..Said' where nothing that the law and all that it calls make is longer than what came in: it says more and counts as full. Else prove '..UptoSaid'. A law counts once. -/
mutual
def uptoBulk {H : Type} : DataW H → Nat
  | .lit (.string bytes) => bytes.length + 1
  | .lit _ => 1
  | .nil => 1
  | .ptr d => uptoBulk d + 1
  | .slice elems spare => uptoBulkAll elems + uptoBulkAll spare + 1
  | .agg parts => uptoBulkAll parts + 1
  | .iface _ d => uptoBulk d + 1
  | .map entries => uptoBulkEntries entries + 1
  | .held _ => 1
def uptoBulkAll {H : Type} : List (DataW H) → Nat
  | [] => 0
  | d :: r => uptoBulk d + uptoBulkAll r
def uptoBulkEntries {H : Type} : List (Lit × DataW H) → Nat
  | [] => 0
  | x :: r => uptoBulkEntry x + uptoBulkEntries r
def uptoBulkEntry {H : Type} : Lit × DataW H → Nat
  | (.string bytes, d) => bytes.length + uptoBulk d + 1
  | (_, d) => uptoBulk d + 1
 end
def uptoSmall : (H : Type) → List (DataW H) → Bool := fun _ ds => decide (uptoBulkAll ds ≤ 1048576)
def OpenSpec.upto (s : _root_.Go.ChangeSpec) : _root_.Go.OpenSpec := { _root_.Go.OpenSpec.ofChange s with cond := some uptoSmall }

/-- 'landfalllaw17.SatsPuts', WHERE WHAT IT READS IS OF BULK AT MOST 1048576: true; the input reads as it did. -/
def satsPutsUptoRow : OpenClaim := { program := "ytahjcbdofljfpaa", sum := "ee0ad1eb491b06f92c796f756b6bfe37559fc9e3518d2c38215daabeb23b62c8", func := "landfall/landfalllaw17.SatsPuts", spec := "satsPuts", unfollowed := true, recurses := true, apart := false, narrowed := true }
def SatsPutsUptoSaid : Prop := satsPutsUptoRow.holds Try.pinned (OpenSpec.upto satsPutsSpec)

/-- 'landfalllaw17.SatsTakes', WHERE WHAT IT READS IS OF BULK AT MOST 1048576: true; the input reads as it did. -/
def satsTakesUptoRow : OpenClaim := { program := "ytahjcbdofljfpaa", sum := "ee0ad1eb491b06f92c796f756b6bfe37559fc9e3518d2c38215daabeb23b62c8", func := "landfall/landfalllaw17.SatsTakes", spec := "satsTakes", unfollowed := true, recurses := true, apart := false, narrowed := true }
def SatsTakesUptoSaid : Prop := satsTakesUptoRow.holds Try.pinned (OpenSpec.upto satsTakesSpec)

/-- 'landfalllaw17.SatsBack', WHERE WHAT IT READS IS OF BULK AT MOST 1048576: true; the input reads as it did. -/
def satsBackUptoRow : OpenClaim := { program := "ytahjcbdofljfpaa", sum := "ee0ad1eb491b06f92c796f756b6bfe37559fc9e3518d2c38215daabeb23b62c8", func := "landfall/landfalllaw17.SatsBack", spec := "satsBack", unfollowed := true, recurses := true, apart := false, narrowed := true }
def SatsBackUptoSaid : Prop := satsBackUptoRow.holds Try.pinned (OpenSpec.upto satsBackSpec)

end Rows
end Go.Proofs.Ytahjcbdofljfpaa
