/-
  No cell of these rows narrows 'for every input' (looked for: loops, veiled, ifaces, maps, wideKeys, modest, calm, conditions, laid).
  DERIVED. THE GIVEN ROWS OF THIS SEAT. 4 by the template 'for every input the law returns true; each argument reads behind the call as it read before'; 0 by the template 'total and deterministic' (their statements: YtdifdfmpfpnlmaaTotals.lean).
  GIVEN WITH THE SEED: the statements are not yours to turn. If you find one false, say at which input.
  Laid BY PROGRAM, IN A SANDBOX (cutbox-rows.mjs): the forced cells as the released guide's own fill.sh prints them over the translation 3c73c28280ef7115… (all of the seat's roots in one cut). By AI agents, Wed Nov 11 2026. No macro, syntax, notation, axiom, sorry.
-/
import Derived.Test.YtdifdfmpfpnlmaaChecked
import GoSem.Claim
import GoSem.ClaimJoined
import GoSem.ClaimMapViews
import Derived.JoinedTies
import Derived.KernelRfl
namespace Go.Proofs.Ytdifdfmpfpnlmaa
/- THE CELL 'sum', in the pinned program and in every row, IS THE sha256 OF THE DUMP (.gsa) THAT YtdifdfmpfpnlmaaProg.lean LOADS. Nothing in Lean hashes anything: it is a label: what it is worth is what the hold of that sum in a sandbox is worth. -/
noncomputable def Try.pinned : Pinned := { name := "ytdifdfmpfpnlmaa", sum := "3c73c28280ef711580579271f5f595ac017514665802efe8be3ba9724da70eb3", checked := Try.checked }
namespace Rows
def none {H : Type} : Left H := { results := [], args := [] }

/-- 'landfalllaw10.QuatTells': WHATEVER THE INPUT: true; the input reads as it did. -/
def quatTellsSpec : ChangeSpec := { name := "quatTells", fn := fun _ => fun
  | [d1, d2] => { results := [.lit (.bool true)], args := [d1, d2] }
  | _ => none }
def quatTellsRow : OpenClaim := { program := "ytdifdfmpfpnlmaa", sum := "3c73c28280ef711580579271f5f595ac017514665802efe8be3ba9724da70eb3", func := "landfall/landfalllaw10.QuatTells", spec := "quatTells", apart := false }
def QuatTellsSaid : Prop := quatTellsRow.holds Try.pinned (OpenSpec.ofChange quatTellsSpec)

/-- ITS FALSE NEIGHBOUR: 'it returns false'. Refute it at one input. -/
def quatTellsWrong : ChangeSpec := { name := "quatTells", fn := fun _ => fun
  | [d1, d2] => { results := [.lit (.bool false)], args := [d1, d2] }
  | _ => none }
def QuatTellsWrongFalsely : Prop := quatTellsRow.holds Try.pinned (OpenSpec.ofChange quatTellsWrong)

/-- 'landfalllaw10.QuatParts': WHATEVER THE INPUT: true; the input reads as it did. -/
def quatPartsSpec : ChangeSpec := { name := "quatParts", fn := fun _ => fun
  | [d] => { results := [.lit (.bool true)], args := [d] }
  | _ => none }
def quatPartsRow : OpenClaim := { program := "ytdifdfmpfpnlmaa", sum := "3c73c28280ef711580579271f5f595ac017514665802efe8be3ba9724da70eb3", func := "landfall/landfalllaw10.QuatParts", spec := "quatParts", apart := false }
def QuatPartsSaid : Prop := quatPartsRow.holds Try.pinned (OpenSpec.ofChange quatPartsSpec)

/-- ITS FALSE NEIGHBOUR: 'it returns false'. Refute it at one input. -/
def quatPartsWrong : ChangeSpec := { name := "quatParts", fn := fun _ => fun
  | [d] => { results := [.lit (.bool false)], args := [d] }
  | _ => none }
def QuatPartsWrongFalsely : Prop := quatPartsRow.holds Try.pinned (OpenSpec.ofChange quatPartsWrong)

/-- 'landfalllaw10.QuatNorm': WHATEVER THE INPUT: true; the input reads as it did. -/
def quatNormSpec : ChangeSpec := { name := "quatNorm", fn := fun _ => fun
  | [d1, d2] => { results := [.lit (.bool true)], args := [d1, d2] }
  | _ => none }
def quatNormRow : OpenClaim := { program := "ytdifdfmpfpnlmaa", sum := "3c73c28280ef711580579271f5f595ac017514665802efe8be3ba9724da70eb3", func := "landfall/landfalllaw10.QuatNorm", spec := "quatNorm", apart := false }
def QuatNormSaid : Prop := quatNormRow.holds Try.pinned (OpenSpec.ofChange quatNormSpec)

/-- ITS FALSE NEIGHBOUR: 'it returns false'. Refute it at one input. -/
def quatNormWrong : ChangeSpec := { name := "quatNorm", fn := fun _ => fun
  | [d1, d2] => { results := [.lit (.bool false)], args := [d1, d2] }
  | _ => none }
def QuatNormWrongFalsely : Prop := quatNormRow.holds Try.pinned (OpenSpec.ofChange quatNormWrong)

/-- 'landfalllaw10.QuatOrder': WHATEVER THE INPUT: true; the input reads as it did. -/
def quatOrderSpec : ChangeSpec := { name := "quatOrder", fn := fun _ => fun
  | [d1, d2] => { results := [.lit (.bool true)], args := [d1, d2] }
  | _ => none }
def quatOrderRow : OpenClaim := { program := "ytdifdfmpfpnlmaa", sum := "3c73c28280ef711580579271f5f595ac017514665802efe8be3ba9724da70eb3", func := "landfall/landfalllaw10.QuatOrder", spec := "quatOrder", apart := false }
def QuatOrderSaid : Prop := quatOrderRow.holds Try.pinned (OpenSpec.ofChange quatOrderSpec)

/-- ITS FALSE NEIGHBOUR: 'it returns false'. Refute it at one input. -/
def quatOrderWrong : ChangeSpec := { name := "quatOrder", fn := fun _ => fun
  | [d1, d2] => { results := [.lit (.bool false)], args := [d1, d2] }
  | _ => none }
def QuatOrderWrongFalsely : Prop := quatOrderRow.holds Try.pinned (OpenSpec.ofChange quatOrderWrong)

/- THE SECOND FORM. 'bulk': how many values and letters a reading holds, each counted each time it is reached (what is shared counts as often as it is met; a slice's spare places count too). A statement '..UptoSaid' is the law's where the arguments, and the package variables that the reading takes, are together of bulk at most 1048576: NARROWER than '..Said'. Prove '..Said' where nothing that the law and all that it calls make is longer than what came in: it says more and counts as full. Else prove '..UptoSaid'. A law counts once. -/
mutual
def uptoBulk {H : Type} : DataW H → Nat
  | .lit (.string bytes) => bytes.length + 1
  | .lit _ => 1
  | .nil => 1
  | .ptr d => uptoBulk d + 1
  | .slice elems spare => uptoBulkAll elems + uptoBulkAll spare + 1
  | .agg parts => uptoBulkAll parts + 1
  | .iface _ d => uptoBulk d + 1
  | .map entries => uptoBulkEntries entries + 1
  | .held _ => 1
def uptoBulkAll {H : Type} : List (DataW H) → Nat
  | [] => 0
  | d :: r => uptoBulk d + uptoBulkAll r
def uptoBulkEntries {H : Type} : List (Lit × DataW H) → Nat
  | [] => 0
  | x :: r => uptoBulkEntry x + uptoBulkEntries r
def uptoBulkEntry {H : Type} : Lit × DataW H → Nat
  | (.string bytes, d) => bytes.length + uptoBulk d + 1
  | (_, d) => uptoBulk d + 1
 end
def uptoSmall : (H : Type) → List (DataW H) → Bool := fun _ ds => decide (uptoBulkAll ds ≤ 1048576)
def OpenSpec.upto (s : _root_.Go.ChangeSpec) : _root_.Go.OpenSpec := { _root_.Go.OpenSpec.ofChange s with cond := some uptoSmall }

/-- 'landfalllaw10.QuatTells', WHERE WHAT IT READS IS OF BULK AT MOST 1048576: true; the input reads as it did. -/
def quatTellsUptoRow : OpenClaim := { program := "ytdifdfmpfpnlmaa", sum := "3c73c28280ef711580579271f5f595ac017514665802efe8be3ba9724da70eb3", func := "landfall/landfalllaw10.QuatTells", spec := "quatTells", apart := false, narrowed := true }
def QuatTellsUptoSaid : Prop := quatTellsUptoRow.holds Try.pinned (OpenSpec.upto quatTellsSpec)

/-- 'landfalllaw10.QuatParts', WHERE WHAT IT READS IS OF BULK AT MOST 1048576: true; the input reads as it did. -/
def quatPartsUptoRow : OpenClaim := { program := "ytdifdfmpfpnlmaa", sum := "3c73c28280ef711580579271f5f595ac017514665802efe8be3ba9724da70eb3", func := "landfall/landfalllaw10.QuatParts", spec := "quatParts", apart := false, narrowed := true }
def QuatPartsUptoSaid : Prop := quatPartsUptoRow.holds Try.pinned (OpenSpec.upto quatPartsSpec)

/-- 'landfalllaw10.QuatNorm', WHERE WHAT IT READS IS OF BULK AT MOST 1048576: true; the input reads as it did. -/
def quatNormUptoRow : OpenClaim := { program := "ytdifdfmpfpnlmaa", sum := "3c73c28280ef711580579271f5f595ac017514665802efe8be3ba9724da70eb3", func := "landfall/landfalllaw10.QuatNorm", spec := "quatNorm", apart := false, narrowed := true }
def QuatNormUptoSaid : Prop := quatNormUptoRow.holds Try.pinned (OpenSpec.upto quatNormSpec)

/-- 'landfalllaw10.QuatOrder', WHERE WHAT IT READS IS OF BULK AT MOST 1048576: true; the input reads as it did. -/
def quatOrderUptoRow : OpenClaim := { program := "ytdifdfmpfpnlmaa", sum := "3c73c28280ef711580579271f5f595ac017514665802efe8be3ba9724da70eb3", func := "landfall/landfalllaw10.QuatOrder", spec := "quatOrder", apart := false, narrowed := true }
def QuatOrderUptoSaid : Prop := quatOrderUptoRow.holds Try.pinned (OpenSpec.upto quatOrderSpec)

end Rows
end Go.Proofs.Ytdifdfmpfpnlmaa
