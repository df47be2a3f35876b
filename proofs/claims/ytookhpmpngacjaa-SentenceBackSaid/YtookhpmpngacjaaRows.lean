/-
  No cell of these rows narrows 'for every input' (looked for: loops, veiled, ifaces, maps, wideKeys, modest, calm, conditions, laid).
  DERIVED. THE GIVEN ROWS OF THIS SEAT. 4 by the template 'for every input the law returns true; each argument reads behind the call as it read before'; 0 by the template 'total and deterministic' (their statements: YtookhpmpngacjaaTotals.lean).
  GIVEN WITH THE SEED: the statements are not yours to turn. If you find one false, say at which input.
  Laid BY PROGRAM, IN A SANDBOX (cutbox-rows.mjs): the forced cells as the released guide's own fill.sh prints them over the translation e45bbf7e094eca3c… (all of the seat's roots in one cut). By AI agents, Wed Nov 11 2026. No macro, syntax, notation, axiom, sorry.
-/
import Derived.Test.YtookhpmpngacjaaChecked
import GoSem.Claim
import GoSem.ClaimJoined
import GoSem.ClaimMapViews
import Derived.JoinedTies
import Derived.KernelRfl
namespace Go.Proofs.Ytookhpmpngacjaa
/- THE CELL 'sum', in the pinned program and in every row, IS THE sha256 OF THE DUMP (.gsa) THAT YtookhpmpngacjaaProg.lean LOADS. Nothing in Lean hashes anything: it is a label: what it is worth is what the hold of that sum in a sandbox is worth. -/
noncomputable def Try.pinned : Pinned := { name := "ytookhpmpngacjaa", sum := "e45bbf7e094eca3c817603da120562d45a377ad6592e5a2802e0e6d88dc6377e", checked := Try.checked }
namespace Rows
def none {H : Type} : Left H := { results := [], args := [] }

/-- 'landfalllaw22.SentencePuts': WHATEVER THE INPUT: true; the input reads as it did. -/
def sentencePutsSpec : ChangeSpec := { name := "sentencePuts", fn := fun _ => fun
  | [d] => { results := [.lit (.bool true)], args := [d] }
  | _ => none }
def sentencePutsRow : OpenClaim := { program := "ytookhpmpngacjaa", sum := "e45bbf7e094eca3c817603da120562d45a377ad6592e5a2802e0e6d88dc6377e", func := "landfall/landfalllaw22.SentencePuts", spec := "sentencePuts", unfollowed := true, recurses := true, apart := false }
def SentencePutsSaid : Prop := sentencePutsRow.holds Try.pinned (OpenSpec.ofChange sentencePutsSpec)

/-- ITS FALSE NEIGHBOUR: 'it returns false'. Refute it at one input. -/
def sentencePutsWrong : ChangeSpec := { name := "sentencePuts", fn := fun _ => fun
  | [d] => { results := [.lit (.bool false)], args := [d] }
  | _ => none }
def SentencePutsWrongFalsely : Prop := sentencePutsRow.holds Try.pinned (OpenSpec.ofChange sentencePutsWrong)

/-- 'landfalllaw22.SentenceTakes': WHATEVER THE INPUT: true; the input reads as it did. -/
def sentenceTakesSpec : ChangeSpec := { name := "sentenceTakes", fn := fun _ => fun
  | [d] => { results := [.lit (.bool true)], args := [d] }
  | _ => none }
def sentenceTakesRow : OpenClaim := { program := "ytookhpmpngacjaa", sum := "e45bbf7e094eca3c817603da120562d45a377ad6592e5a2802e0e6d88dc6377e", func := "landfall/landfalllaw22.SentenceTakes", spec := "sentenceTakes", unfollowed := true, recurses := true, apart := false }
def SentenceTakesSaid : Prop := sentenceTakesRow.holds Try.pinned (OpenSpec.ofChange sentenceTakesSpec)

/-- ITS FALSE NEIGHBOUR: 'it returns false'. Refute it at one input. -/
def sentenceTakesWrong : ChangeSpec := { name := "sentenceTakes", fn := fun _ => fun
  | [d] => { results := [.lit (.bool false)], args := [d] }
  | _ => none }
def SentenceTakesWrongFalsely : Prop := sentenceTakesRow.holds Try.pinned (OpenSpec.ofChange sentenceTakesWrong)

/-- 'landfalllaw22.SentenceBack': WHATEVER THE INPUT: true; the input reads as it did. -/
def sentenceBackSpec : ChangeSpec := { name := "sentenceBack", fn := fun _ => fun
  | [d1, d2] => { results := [.lit (.bool true)], args := [d1, d2] }
  | _ => none }
def sentenceBackRow : OpenClaim := { program := "ytookhpmpngacjaa", sum := "e45bbf7e094eca3c817603da120562d45a377ad6592e5a2802e0e6d88dc6377e", func := "landfall/landfalllaw22.SentenceBack", spec := "sentenceBack", unfollowed := true, recurses := true, apart := false }
def SentenceBackSaid : Prop := sentenceBackRow.holds Try.pinned (OpenSpec.ofChange sentenceBackSpec)

/-- ITS FALSE NEIGHBOUR: 'it returns false'. Refute it at one input. -/
def sentenceBackWrong : ChangeSpec := { name := "sentenceBack", fn := fun _ => fun
  | [d1, d2] => { results := [.lit (.bool false)], args := [d1, d2] }
  | _ => none }
def SentenceBackWrongFalsely : Prop := sentenceBackRow.holds Try.pinned (OpenSpec.ofChange sentenceBackWrong)

/-- 'landfalllaw22.SentenceSteady': WHATEVER THE INPUT: true; the input reads as it did. -/
def sentenceSteadySpec : ChangeSpec := { name := "sentenceSteady", fn := fun _ => fun
  | [d1, d2] => { results := [.lit (.bool true)], args := [d1, d2] }
  | _ => none }
def sentenceSteadyRow : OpenClaim := { program := "ytookhpmpngacjaa", sum := "e45bbf7e094eca3c817603da120562d45a377ad6592e5a2802e0e6d88dc6377e", func := "landfall/landfalllaw22.SentenceSteady", spec := "sentenceSteady", unfollowed := true, recurses := true, apart := false }
def SentenceSteadySaid : Prop := sentenceSteadyRow.holds Try.pinned (OpenSpec.ofChange sentenceSteadySpec)

/-- ITS FALSE NEIGHBOUR: 'it returns false'. Refute it at one input. -/
def sentenceSteadyWrong : ChangeSpec := { name := "sentenceSteady", fn := fun _ => fun
  | [d1, d2] => { results := [.lit (.bool false)], args := [d1, d2] }
  | _ => none }
def SentenceSteadyWrongFalsely : Prop := sentenceSteadyRow.holds Try.pinned (OpenSpec.ofChange sentenceSteadyWrong)

/- THE SECOND FORM. 'bulk': how many values and letters a reading holds, each counted each time it is reached (what is shared counts as often as it is met; a slice's spare places count too). A statement '..UptoSaid' is the law's where the arguments, and the package variables that the reading takes, are together of bulk at most 1048576: NARROWER than '..Said'. Prove '..Said' where nothing that the law and all that it calls make is longer than what came in: it says more and counts as full. Else prove '..UptoSaid'. A law counts once. -/
mutual
def uptoBulk {H : Type} : DataW H → Nat
  | .lit (.string bytes) => bytes.length + 1
  | .lit _ => 1
  | .nil => 1
  | .ptr d => uptoBulk d + 1
  | .slice elems spare => uptoBulkAll elems + uptoBulkAll spare + 1
  | .agg parts => uptoBulkAll parts + 1
  | .iface _ d => uptoBulk d + 1
  | .map entries => uptoBulkEntries entries + 1
  | .held _ => 1
def uptoBulkAll {H : Type} : List (DataW H) → Nat
  | [] => 0
  | d :: r => uptoBulk d + uptoBulkAll r
def uptoBulkEntries {H : Type} : List (Lit × DataW H) → Nat
  | [] => 0
  | x :: r => uptoBulkEntry x + uptoBulkEntries r
def uptoBulkEntry {H : Type} : Lit × DataW H → Nat
  | (.string bytes, d) => bytes.length + uptoBulk d + 1
  | (_, d) => uptoBulk d + 1
 end
def uptoSmall : (H : Type) → List (DataW H) → Bool := fun _ ds => decide (uptoBulkAll ds ≤ 1048576)
def OpenSpec.upto (s : _root_.Go.ChangeSpec) : _root_.Go.OpenSpec := { _root_.Go.OpenSpec.ofChange s with cond := some uptoSmall }

/-- 'landfalllaw22.SentencePuts', WHERE WHAT IT READS IS OF BULK AT MOST 1048576: true; the input reads as it did. -/
def sentencePutsUptoRow : OpenClaim := { program := "ytookhpmpngacjaa", sum := "e45bbf7e094eca3c817603da120562d45a377ad6592e5a2802e0e6d88dc6377e", func := "landfall/landfalllaw22.SentencePuts", spec := "sentencePuts", unfollowed := true, recurses := true, apart := false, narrowed := true }
def SentencePutsUptoSaid : Prop := sentencePutsUptoRow.holds Try.pinned (OpenSpec.upto sentencePutsSpec)

/-- 'landfalllaw22.SentenceTakes', WHERE WHAT IT READS IS OF BULK AT MOST 1048576: true; the input reads as it did. -/
def sentenceTakesUptoRow : OpenClaim := { program := "ytookhpmpngacjaa", sum := "e45bbf7e094eca3c817603da120562d45a377ad6592e5a2802e0e6d88dc6377e", func := "landfall/landfalllaw22.SentenceTakes", spec := "sentenceTakes", unfollowed := true, recurses := true, apart := false, narrowed := true }
def SentenceTakesUptoSaid : Prop := sentenceTakesUptoRow.holds Try.pinned (OpenSpec.upto sentenceTakesSpec)

/-- 'landfalllaw22.SentenceBack', WHERE WHAT IT READS IS OF BULK AT MOST 1048576: true; the input reads as it did. -/
def sentenceBackUptoRow : OpenClaim := { program := "ytookhpmpngacjaa", sum := "e45bbf7e094eca3c817603da120562d45a377ad6592e5a2802e0e6d88dc6377e", func := "landfall/landfalllaw22.SentenceBack", spec := "sentenceBack", unfollowed := true, recurses := true, apart := false, narrowed := true }
def SentenceBackUptoSaid : Prop := sentenceBackUptoRow.holds Try.pinned (OpenSpec.upto sentenceBackSpec)

/-- 'landfalllaw22.SentenceSteady', WHERE WHAT IT READS IS OF BULK AT MOST 1048576: true; the input reads as it did. -/
def sentenceSteadyUptoRow : OpenClaim := { program := "ytookhpmpngacjaa", sum := "e45bbf7e094eca3c817603da120562d45a377ad6592e5a2802e0e6d88dc6377e", func := "landfall/landfalllaw22.SentenceSteady", spec := "sentenceSteady", unfollowed := true, recurses := true, apart := false, narrowed := true }
def SentenceSteadyUptoSaid : Prop := sentenceSteadyUptoRow.holds Try.pinned (OpenSpec.upto sentenceSteadySpec)

end Rows
end Go.Proofs.Ytookhpmpngacjaa
