/-
  No cell of these rows narrows 'for every input' (looked for: loops, veiled, ifaces, maps, wideKeys, modest, calm, conditions, laid).
  DERIVED. THE GIVEN ROWS OF THIS SEAT. 6 by the template 'for every input the law returns true; each argument reads behind the call as it read before'; 0 by the template 'total and deterministic' (their statements: YticfolcpnkkidaaTotals.lean).
  GIVEN WITH THE SEED: the statements are not yours to turn. If you find one false, say at which input.
  Laid BY PROGRAM, IN A SANDBOX (cutbox-rows.mjs): the forced cells as the released guide's own fill.sh prints them over the translation 7cb744231362896a… (all of the seat's roots in one cut). By AI agents, Wed Nov 11 2026. No macro, syntax, notation, axiom, sorry.
-/
import Derived.Test.YticfolcpnkkidaaChecked
import GoSem.Claim
import GoSem.ClaimJoined
import GoSem.ClaimMapViews
import Derived.JoinedTies
import Derived.KernelRfl
namespace Go.Proofs.Yticfolcpnkkidaa
/- THE CELL 'sum', in the pinned program and in every row, IS THE sha256 OF THE DUMP (.gsa) THAT YticfolcpnkkidaaProg.lean LOADS. Nothing in Lean hashes anything: it is a label: what it is worth is what the hold of that sum in a sandbox is worth. -/
noncomputable def Try.pinned : Pinned := { name := "yticfolcpnkkidaa", sum := "7cb744231362896abfc9388e20b81b23ca0586c42afd02a0e0925ac84f4d1d1a", checked := Try.checked }
namespace Rows
def none {H : Type} : Left H := { results := [], args := [] }

/-- 'landfalllaw13.TurnRotates': WHATEVER THE INPUT: true; the input reads as it did. -/
def turnRotatesSpec : ChangeSpec := { name := "turnRotates", fn := fun _ => fun
  | [d1, d2] => { results := [.lit (.bool true)], args := [d1, d2] }
  | _ => none }
def turnRotatesRow : OpenClaim := { program := "yticfolcpnkkidaa", sum := "7cb744231362896abfc9388e20b81b23ca0586c42afd02a0e0925ac84f4d1d1a", func := "landfall/landfalllaw13.TurnRotates", spec := "turnRotates", unfollowed := true, recurses := true, apart := false }
def TurnRotatesSaid : Prop := turnRotatesRow.holds Try.pinned (OpenSpec.ofChange turnRotatesSpec)

/-- ITS FALSE NEIGHBOUR: 'it returns false'. Refute it at one input. -/
def turnRotatesWrong : ChangeSpec := { name := "turnRotates", fn := fun _ => fun
  | [d1, d2] => { results := [.lit (.bool false)], args := [d1, d2] }
  | _ => none }
def TurnRotatesWrongFalsely : Prop := turnRotatesRow.holds Try.pinned (OpenSpec.ofChange turnRotatesWrong)

/-- 'landfalllaw13.TurnSteps': WHATEVER THE INPUT: true; the input reads as it did. -/
def turnStepsSpec : ChangeSpec := { name := "turnSteps", fn := fun _ => fun
  | [d1, d2, d3] => { results := [.lit (.bool true)], args := [d1, d2, d3] }
  | _ => none }
def turnStepsRow : OpenClaim := { program := "yticfolcpnkkidaa", sum := "7cb744231362896abfc9388e20b81b23ca0586c42afd02a0e0925ac84f4d1d1a", func := "landfall/landfalllaw13.TurnSteps", spec := "turnSteps", unfollowed := true, recurses := true, apart := false }
def TurnStepsSaid : Prop := turnStepsRow.holds Try.pinned (OpenSpec.ofChange turnStepsSpec)

/-- ITS FALSE NEIGHBOUR: 'it returns false'. Refute it at one input. -/
def turnStepsWrong : ChangeSpec := { name := "turnSteps", fn := fun _ => fun
  | [d1, d2, d3] => { results := [.lit (.bool false)], args := [d1, d2, d3] }
  | _ => none }
def TurnStepsWrongFalsely : Prop := turnStepsRow.holds Try.pinned (OpenSpec.ofChange turnStepsWrong)

/-- 'landfalllaw13.TurnUnit': WHATEVER THE INPUT: true; the input reads as it did. -/
def turnUnitSpec : ChangeSpec := { name := "turnUnit", fn := fun _ => fun
  | [d1, d2, d3] => { results := [.lit (.bool true)], args := [d1, d2, d3] }
  | _ => none }
def turnUnitRow : OpenClaim := { program := "yticfolcpnkkidaa", sum := "7cb744231362896abfc9388e20b81b23ca0586c42afd02a0e0925ac84f4d1d1a", func := "landfall/landfalllaw13.TurnUnit", spec := "turnUnit", unfollowed := true, recurses := true, apart := false }
def TurnUnitSaid : Prop := turnUnitRow.holds Try.pinned (OpenSpec.ofChange turnUnitSpec)

/-- ITS FALSE NEIGHBOUR: 'it returns false'. Refute it at one input. -/
def turnUnitWrong : ChangeSpec := { name := "turnUnit", fn := fun _ => fun
  | [d1, d2, d3] => { results := [.lit (.bool false)], args := [d1, d2, d3] }
  | _ => none }
def TurnUnitWrongFalsely : Prop := turnUnitRow.holds Try.pinned (OpenSpec.ofChange turnUnitWrong)

/-- 'landfalllaw13.TurnLength': WHATEVER THE INPUT: true; the input reads as it did. -/
def turnLengthSpec : ChangeSpec := { name := "turnLength", fn := fun _ => fun
  | [d1, d2] => { results := [.lit (.bool true)], args := [d1, d2] }
  | _ => none }
def turnLengthRow : OpenClaim := { program := "yticfolcpnkkidaa", sum := "7cb744231362896abfc9388e20b81b23ca0586c42afd02a0e0925ac84f4d1d1a", func := "landfall/landfalllaw13.TurnLength", spec := "turnLength", unfollowed := true, recurses := true, apart := false }
def TurnLengthSaid : Prop := turnLengthRow.holds Try.pinned (OpenSpec.ofChange turnLengthSpec)

/-- ITS FALSE NEIGHBOUR: 'it returns false'. Refute it at one input. -/
def turnLengthWrong : ChangeSpec := { name := "turnLength", fn := fun _ => fun
  | [d1, d2] => { results := [.lit (.bool false)], args := [d1, d2] }
  | _ => none }
def TurnLengthWrongFalsely : Prop := turnLengthRow.holds Try.pinned (OpenSpec.ofChange turnLengthWrong)

/-- 'landfalllaw13.TurnAngles': WHATEVER THE INPUT: true; the input reads as it did. -/
def turnAnglesSpec : ChangeSpec := { name := "turnAngles", fn := fun _ => fun
  | [d1, d2, d3, d4] => { results := [.lit (.bool true)], args := [d1, d2, d3, d4] }
  | _ => none }
def turnAnglesRow : OpenClaim := { program := "yticfolcpnkkidaa", sum := "7cb744231362896abfc9388e20b81b23ca0586c42afd02a0e0925ac84f4d1d1a", func := "landfall/landfalllaw13.TurnAngles", spec := "turnAngles", unfollowed := true, recurses := true, apart := false }
def TurnAnglesSaid : Prop := turnAnglesRow.holds Try.pinned (OpenSpec.ofChange turnAnglesSpec)

/-- ITS FALSE NEIGHBOUR: 'it returns false'. Refute it at one input. -/
def turnAnglesWrong : ChangeSpec := { name := "turnAngles", fn := fun _ => fun
  | [d1, d2, d3, d4] => { results := [.lit (.bool false)], args := [d1, d2, d3, d4] }
  | _ => none }
def TurnAnglesWrongFalsely : Prop := turnAnglesRow.holds Try.pinned (OpenSpec.ofChange turnAnglesWrong)

/-- 'landfalllaw13.TurnCircle': WHATEVER THE INPUT: true; the input reads as it did. -/
def turnCircleSpec : ChangeSpec := { name := "turnCircle", fn := fun _ => fun
  | [d1, d2, d3] => { results := [.lit (.bool true)], args := [d1, d2, d3] }
  | _ => none }
def turnCircleRow : OpenClaim := { program := "yticfolcpnkkidaa", sum := "7cb744231362896abfc9388e20b81b23ca0586c42afd02a0e0925ac84f4d1d1a", func := "landfall/landfalllaw13.TurnCircle", spec := "turnCircle", unfollowed := true, recurses := true, apart := false }
def TurnCircleSaid : Prop := turnCircleRow.holds Try.pinned (OpenSpec.ofChange turnCircleSpec)

/-- ITS FALSE NEIGHBOUR: 'it returns false'. Refute it at one input. -/
def turnCircleWrong : ChangeSpec := { name := "turnCircle", fn := fun _ => fun
  | [d1, d2, d3] => { results := [.lit (.bool false)], args := [d1, d2, d3] }
  | _ => none }
def TurnCircleWrongFalsely : Prop := turnCircleRow.holds Try.pinned (OpenSpec.ofChange turnCircleWrong)

/- THE SECOND FORM. 'bulk': how many values and letters a reading holds, each counted each time it is reached (what is shared counts as often as it is met; a slice's spare places count too). A statement '..UptoSaid' is the law's where the arguments, and the package variables that the reading takes, are together of bulk at most 1048576: NARROWER than '..Said'. Prove '..Said' where nothing that the law and all that it calls make is longer than what came in: it says more and counts as full. Else prove '..UptoSaid'. A law counts once. -/
mutual
def uptoBulk {H : Type} : DataW H → Nat
  | .lit (.string bytes) => bytes.length + 1
  | .lit _ => 1
  | .nil => 1
  | .ptr d => uptoBulk d + 1
  | .slice elems spare => uptoBulkAll elems + uptoBulkAll spare + 1
  | .agg parts => uptoBulkAll parts + 1
  | .iface _ d => uptoBulk d + 1
  | .map entries => uptoBulkEntries entries + 1
  | .held _ => 1
def uptoBulkAll {H : Type} : List (DataW H) → Nat
  | [] => 0
  | d :: r => uptoBulk d + uptoBulkAll r
def uptoBulkEntries {H : Type} : List (Lit × DataW H) → Nat
  | [] => 0
  | x :: r => uptoBulkEntry x + uptoBulkEntries r
def uptoBulkEntry {H : Type} : Lit × DataW H → Nat
  | (.string bytes, d) => bytes.length + uptoBulk d + 1
  | (_, d) => uptoBulk d + 1
 end
def uptoSmall : (H : Type) → List (DataW H) → Bool := fun _ ds => decide (uptoBulkAll ds ≤ 1048576)
def OpenSpec.upto (s : _root_.Go.ChangeSpec) : _root_.Go.OpenSpec := { _root_.Go.OpenSpec.ofChange s with cond := some uptoSmall }

/-- 'landfalllaw13.TurnRotates', WHERE WHAT IT READS IS OF BULK AT MOST 1048576: true; the input reads as it did. -/
def turnRotatesUptoRow : OpenClaim := { program := "yticfolcpnkkidaa", sum := "7cb744231362896abfc9388e20b81b23ca0586c42afd02a0e0925ac84f4d1d1a", func := "landfall/landfalllaw13.TurnRotates", spec := "turnRotates", unfollowed := true, recurses := true, apart := false, narrowed := true }
def TurnRotatesUptoSaid : Prop := turnRotatesUptoRow.holds Try.pinned (OpenSpec.upto turnRotatesSpec)

/-- 'landfalllaw13.TurnSteps', WHERE WHAT IT READS IS OF BULK AT MOST 1048576: true; the input reads as it did. -/
def turnStepsUptoRow : OpenClaim := { program := "yticfolcpnkkidaa", sum := "7cb744231362896abfc9388e20b81b23ca0586c42afd02a0e0925ac84f4d1d1a", func := "landfall/landfalllaw13.TurnSteps", spec := "turnSteps", unfollowed := true, recurses := true, apart := false, narrowed := true }
def TurnStepsUptoSaid : Prop := turnStepsUptoRow.holds Try.pinned (OpenSpec.upto turnStepsSpec)

/-- 'landfalllaw13.TurnUnit', WHERE WHAT IT READS IS OF BULK AT MOST 1048576: true; the input reads as it did. -/
def turnUnitUptoRow : OpenClaim := { program := "yticfolcpnkkidaa", sum := "7cb744231362896abfc9388e20b81b23ca0586c42afd02a0e0925ac84f4d1d1a", func := "landfall/landfalllaw13.TurnUnit", spec := "turnUnit", unfollowed := true, recurses := true, apart := false, narrowed := true }
def TurnUnitUptoSaid : Prop := turnUnitUptoRow.holds Try.pinned (OpenSpec.upto turnUnitSpec)

/-- 'landfalllaw13.TurnLength', WHERE WHAT IT READS IS OF BULK AT MOST 1048576: true; the input reads as it did. -/
def turnLengthUptoRow : OpenClaim := { program := "yticfolcpnkkidaa", sum := "7cb744231362896abfc9388e20b81b23ca0586c42afd02a0e0925ac84f4d1d1a", func := "landfall/landfalllaw13.TurnLength", spec := "turnLength", unfollowed := true, recurses := true, apart := false, narrowed := true }
def TurnLengthUptoSaid : Prop := turnLengthUptoRow.holds Try.pinned (OpenSpec.upto turnLengthSpec)

/-- 'landfalllaw13.TurnAngles', WHERE WHAT IT READS IS OF BULK AT MOST 1048576: true; the input reads as it did. -/
def turnAnglesUptoRow : OpenClaim := { program := "yticfolcpnkkidaa", sum := "7cb744231362896abfc9388e20b81b23ca0586c42afd02a0e0925ac84f4d1d1a", func := "landfall/landfalllaw13.TurnAngles", spec := "turnAngles", unfollowed := true, recurses := true, apart := false, narrowed := true }
def TurnAnglesUptoSaid : Prop := turnAnglesUptoRow.holds Try.pinned (OpenSpec.upto turnAnglesSpec)

/-- 'landfalllaw13.TurnCircle', WHERE WHAT IT READS IS OF BULK AT MOST 1048576: true; the input reads as it did. -/
def turnCircleUptoRow : OpenClaim := { program := "yticfolcpnkkidaa", sum := "7cb744231362896abfc9388e20b81b23ca0586c42afd02a0e0925ac84f4d1d1a", func := "landfall/landfalllaw13.TurnCircle", spec := "turnCircle", unfollowed := true, recurses := true, apart := false, narrowed := true }
def TurnCircleUptoSaid : Prop := turnCircleUptoRow.holds Try.pinned (OpenSpec.upto turnCircleSpec)

end Rows
end Go.Proofs.Yticfolcpnkkidaa
