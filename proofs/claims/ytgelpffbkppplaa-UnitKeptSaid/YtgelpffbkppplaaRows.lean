/-
  No cell of these rows narrows 'for every input' (looked for: loops, veiled, ifaces, maps, wideKeys, modest, calm, conditions, laid).
  DERIVED. THE GIVEN ROWS OF THIS SEAT. 3 by the template 'for every input the law returns true; each argument reads behind the call as it read before'; 0 by the template 'total and deterministic' (their statements: YtgelpffbkppplaaTotals.lean).
  GIVEN WITH THE SEED: the statements are not yours to turn. If you find one false, say at which input.
  Laid BY PROGRAM, IN A SANDBOX (cutbox-rows.mjs): the forced cells as the released guide's own fill.sh prints them over the translation 9306cb6e8452ff7d… (all of the seat's roots in one cut). By AI agents, Wed Nov 11 2026. No macro, syntax, notation, axiom, sorry.
-/
import Derived.Test.YtgelpffbkppplaaChecked
import GoSem.Claim
import GoSem.ClaimJoined
import GoSem.ClaimMapViews
import Derived.JoinedTies
import Derived.KernelRfl
namespace Go.Proofs.Ytgelpffbkppplaa
/- THE CELL 'sum', in the pinned program and in every row, IS THE sha256 OF THE DUMP (.gsa) THAT YtgelpffbkppplaaProg.lean LOADS. Nothing in Lean hashes anything: it is a label: what it is worth is what the hold of that sum in a sandbox is worth. -/
noncomputable def Try.pinned : Pinned := { name := "ytgelpffbkppplaa", sum := "9306cb6e8452ff7d5428e36e5062ba4d734544c04976393fe71c80482ae4fabc", checked := Try.checked }
namespace Rows
def none {H : Type} : Left H := { results := [], args := [] }

/-- 'landfalllaw11.UnitTells': WHATEVER THE INPUT: true; the input reads as it did. -/
def unitTellsSpec : ChangeSpec := { name := "unitTells", fn := fun _ => fun
  | [d] => { results := [.lit (.bool true)], args := [d] }
  | _ => none }
def unitTellsRow : OpenClaim := { program := "ytgelpffbkppplaa", sum := "9306cb6e8452ff7d5428e36e5062ba4d734544c04976393fe71c80482ae4fabc", func := "landfall/landfalllaw11.UnitTells", spec := "unitTells", apart := false }
def UnitTellsSaid : Prop := unitTellsRow.holds Try.pinned (OpenSpec.ofChange unitTellsSpec)

/-- ITS FALSE NEIGHBOUR: 'it returns false'. Refute it at one input. -/
def unitTellsWrong : ChangeSpec := { name := "unitTells", fn := fun _ => fun
  | [d] => { results := [.lit (.bool false)], args := [d] }
  | _ => none }
def UnitTellsWrongFalsely : Prop := unitTellsRow.holds Try.pinned (OpenSpec.ofChange unitTellsWrong)

/-- 'landfalllaw11.UnitMade': WHATEVER THE INPUT: true; the input reads as it did. -/
def unitMadeSpec : ChangeSpec := { name := "unitMade", fn := fun _ => fun
  | [d] => { results := [.lit (.bool true)], args := [d] }
  | _ => none }
def unitMadeRow : OpenClaim := { program := "ytgelpffbkppplaa", sum := "9306cb6e8452ff7d5428e36e5062ba4d734544c04976393fe71c80482ae4fabc", func := "landfall/landfalllaw11.UnitMade", spec := "unitMade", apart := false }
def UnitMadeSaid : Prop := unitMadeRow.holds Try.pinned (OpenSpec.ofChange unitMadeSpec)

/-- ITS FALSE NEIGHBOUR: 'it returns false'. Refute it at one input. -/
def unitMadeWrong : ChangeSpec := { name := "unitMade", fn := fun _ => fun
  | [d] => { results := [.lit (.bool false)], args := [d] }
  | _ => none }
def UnitMadeWrongFalsely : Prop := unitMadeRow.holds Try.pinned (OpenSpec.ofChange unitMadeWrong)

/-- 'landfalllaw11.UnitKept': WHATEVER THE INPUT: true; the input reads as it did. -/
def unitKeptSpec : ChangeSpec := { name := "unitKept", fn := fun _ => fun
  | [d] => { results := [.lit (.bool true)], args := [d] }
  | _ => none }
def unitKeptRow : OpenClaim := { program := "ytgelpffbkppplaa", sum := "9306cb6e8452ff7d5428e36e5062ba4d734544c04976393fe71c80482ae4fabc", func := "landfall/landfalllaw11.UnitKept", spec := "unitKept", apart := false }
def UnitKeptSaid : Prop := unitKeptRow.holds Try.pinned (OpenSpec.ofChange unitKeptSpec)

/-- ITS FALSE NEIGHBOUR: 'it returns false'. Refute it at one input. -/
def unitKeptWrong : ChangeSpec := { name := "unitKept", fn := fun _ => fun
  | [d] => { results := [.lit (.bool false)], args := [d] }
  | _ => none }
def UnitKeptWrongFalsely : Prop := unitKeptRow.holds Try.pinned (OpenSpec.ofChange unitKeptWrong)

/- THE SECOND FORM. 'bulk': how many values and letters a reading holds, each counted each time it is reached (what is shared counts as often as it is met; a slice's spare places count too). A statement '..UptoSaid' is the law's where the arguments, and the package variables that the reading takes, are together of bulk at most 1048576: NARROWER than '..Said'. Prove '..Said' where nothing that the law and all that it calls make is longer than what came in: it says more and counts as full. Else prove '..UptoSaid'. A law counts once. -/
mutual
def uptoBulk {H : Type} : DataW H → Nat
  | .lit (.string bytes) => bytes.length + 1
  | .lit _ => 1
  | .nil => 1
  | .ptr d => uptoBulk d + 1
  | .slice elems spare => uptoBulkAll elems + uptoBulkAll spare + 1
  | .agg parts => uptoBulkAll parts + 1
  | .iface _ d => uptoBulk d + 1
  | .map entries => uptoBulkEntries entries + 1
  | .held _ => 1
def uptoBulkAll {H : Type} : List (DataW H) → Nat
  | [] => 0
  | d :: r => uptoBulk d + uptoBulkAll r
def uptoBulkEntries {H : Type} : List (Lit × DataW H) → Nat
  | [] => 0
  | x :: r => uptoBulkEntry x + uptoBulkEntries r
def uptoBulkEntry {H : Type} : Lit × DataW H → Nat
  | (.string bytes, d) => bytes.length + uptoBulk d + 1
  | (_, d) => uptoBulk d + 1
 end
def uptoSmall : (H : Type) → List (DataW H) → Bool := fun _ ds => decide (uptoBulkAll ds ≤ 1048576)
def OpenSpec.upto (s : _root_.Go.ChangeSpec) : _root_.Go.OpenSpec := { _root_.Go.OpenSpec.ofChange s with cond := some uptoSmall }

/-- 'landfalllaw11.UnitTells', WHERE WHAT IT READS IS OF BULK AT MOST 1048576: true; the input reads as it did. -/
def unitTellsUptoRow : OpenClaim := { program := "ytgelpffbkppplaa", sum := "9306cb6e8452ff7d5428e36e5062ba4d734544c04976393fe71c80482ae4fabc", func := "landfall/landfalllaw11.UnitTells", spec := "unitTells", apart := false, narrowed := true }
def UnitTellsUptoSaid : Prop := unitTellsUptoRow.holds Try.pinned (OpenSpec.upto unitTellsSpec)

/-- 'landfalllaw11.UnitMade', WHERE WHAT IT READS IS OF BULK AT MOST 1048576: true; the input reads as it did. -/
def unitMadeUptoRow : OpenClaim := { program := "ytgelpffbkppplaa", sum := "9306cb6e8452ff7d5428e36e5062ba4d734544c04976393fe71c80482ae4fabc", func := "landfall/landfalllaw11.UnitMade", spec := "unitMade", apart := false, narrowed := true }
def UnitMadeUptoSaid : Prop := unitMadeUptoRow.holds Try.pinned (OpenSpec.upto unitMadeSpec)

/-- 'landfalllaw11.UnitKept', WHERE WHAT IT READS IS OF BULK AT MOST 1048576: true; the input reads as it did. -/
def unitKeptUptoRow : OpenClaim := { program := "ytgelpffbkppplaa", sum := "9306cb6e8452ff7d5428e36e5062ba4d734544c04976393fe71c80482ae4fabc", func := "landfall/landfalllaw11.UnitKept", spec := "unitKept", apart := false, narrowed := true }
def UnitKeptUptoSaid : Prop := unitKeptUptoRow.holds Try.pinned (OpenSpec.upto unitKeptSpec)

end Rows
end Go.Proofs.Ytgelpffbkppplaa
