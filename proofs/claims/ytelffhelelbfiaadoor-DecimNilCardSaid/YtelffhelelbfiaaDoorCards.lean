/-
  DERIVED. GIVEN WITH THE SEED: THE CARDS: each row of YtelffhelelbfiaaDoorRows.lean that lists a variable, with what it lists TIED to the program's text (the seventh form; the later family's looks); each row that meets fmt, with fmt's text TOLD by the authors' own Lean function (tested against real Go, not proved from fmt's source: count such statements apart). THE CARD IS WHAT COUNTS. Prove the row's statement (the work); the ties are given (YtelffhelelbfiaaDoorTie.lean); close each card by the builder's one call (the guide's Derived/Test/ToyasCard.lean, 'card_holds'). Laid BY PROGRAM, IN A SANDBOX (cutbox-door.mjs). By AI agents, Wed Nov 11 2026. No macro, syntax, notation, axiom, sorry.
-/
import Derived.Test.YtelffhelelbfiaaDoorRows
import GoSem.ClaimSeven
namespace Go.Proofs.YtelffhelelbfiaaDoor
namespace Rows

/-- THE TIED CARD OF 'landfalllaw23.DecimTells'. -/
def decimTellsCard : Claim7 := { stood := { row := decimTellsRow, standIns := [], harness := (true, "3f8c86011ed220fa4b286b3e23027ed401bc122aa6eb5b38859dcc881f3b82ab"), looks := false }, kinds := [], alts := [], laidByText := true, laidKinds := [.data, .data, .data, .data, .pinned], laidTests := true, laidLooks := .later }
def DecimTellsCardSaid : Prop := Claim7.holds Tryd.pinned (.plain (OpenSpec.ofChange decimTellsSpec)) decimTellsCard

/-- THE TIED CARD OF 'landfalllaw23.DecimAngles'. -/
def decimAnglesCard : Claim7 := { stood := { row := decimAnglesRow, standIns := [], harness := (true, "3f8c86011ed220fa4b286b3e23027ed401bc122aa6eb5b38859dcc881f3b82ab"), looks := false }, kinds := [], alts := [], laidByText := true, laidKinds := [.data, .data, .data, .data, .pinned], laidTests := true, laidLooks := .later }
def DecimAnglesCardSaid : Prop := Claim7.holds Tryd.pinned (.plain (OpenSpec.ofChange decimAnglesSpec)) decimAnglesCard

/-- THE TIED CARD OF 'landfalllaw23.DecimBack'. -/
def decimBackCard : Claim7 := { stood := { row := decimBackRow, standIns := [], harness := (true, "3f8c86011ed220fa4b286b3e23027ed401bc122aa6eb5b38859dcc881f3b82ab"), looks := false }, kinds := [], alts := [], laidByText := true, laidKinds := [.data, .data, .data, .data, .pinned], laidTests := true, laidLooks := .later }
def DecimBackCardSaid : Prop := Claim7.holds Tryd.pinned (.plain (OpenSpec.ofChange decimBackSpec)) decimBackCard

/-- THE TIED CARD OF 'landfalllaw23.DecimNil'. -/
def decimNilCard : Claim7 := { stood := { row := decimNilRow, standIns := [], harness := (true, "3f8c86011ed220fa4b286b3e23027ed401bc122aa6eb5b38859dcc881f3b82ab"), looks := false }, kinds := [], alts := [], laidByText := true, laidKinds := [.data, .data, .data, .data, .pinned], laidTests := true, laidLooks := .later }
def DecimNilCardSaid : Prop := Claim7.holds Tryd.pinned (.plain (OpenSpec.ofChange decimNilSpec)) decimNilCard

/-- THE SECOND FORM's CARD OF 'landfalllaw23.DecimTells'. -/
def decimTellsUptoCard : Claim7 := { stood := { row := decimTellsUptoRow, standIns := [], harness := (true, "3f8c86011ed220fa4b286b3e23027ed401bc122aa6eb5b38859dcc881f3b82ab"), looks := false }, kinds := [], alts := [], laidByText := true, laidKinds := [.data, .data, .data, .data, .pinned], laidTests := true, laidLooks := .later }
def DecimTellsUptoCardSaid : Prop := Claim7.holds Tryd.pinned (.plain (OpenSpec.upto decimTellsSpec)) decimTellsUptoCard

/-- THE SECOND FORM's CARD OF 'landfalllaw23.DecimAngles'. -/
def decimAnglesUptoCard : Claim7 := { stood := { row := decimAnglesUptoRow, standIns := [], harness := (true, "3f8c86011ed220fa4b286b3e23027ed401bc122aa6eb5b38859dcc881f3b82ab"), looks := false }, kinds := [], alts := [], laidByText := true, laidKinds := [.data, .data, .data, .data, .pinned], laidTests := true, laidLooks := .later }
def DecimAnglesUptoCardSaid : Prop := Claim7.holds Tryd.pinned (.plain (OpenSpec.upto decimAnglesSpec)) decimAnglesUptoCard

/-- THE SECOND FORM's CARD OF 'landfalllaw23.DecimBack'. -/
def decimBackUptoCard : Claim7 := { stood := { row := decimBackUptoRow, standIns := [], harness := (true, "3f8c86011ed220fa4b286b3e23027ed401bc122aa6eb5b38859dcc881f3b82ab"), looks := false }, kinds := [], alts := [], laidByText := true, laidKinds := [.data, .data, .data, .data, .pinned], laidTests := true, laidLooks := .later }
def DecimBackUptoCardSaid : Prop := Claim7.holds Tryd.pinned (.plain (OpenSpec.upto decimBackSpec)) decimBackUptoCard

/-- THE SECOND FORM's CARD OF 'landfalllaw23.DecimNil'. -/
def decimNilUptoCard : Claim7 := { stood := { row := decimNilUptoRow, standIns := [], harness := (true, "3f8c86011ed220fa4b286b3e23027ed401bc122aa6eb5b38859dcc881f3b82ab"), looks := false }, kinds := [], alts := [], laidByText := true, laidKinds := [.data, .data, .data, .data, .pinned], laidTests := true, laidLooks := .later }
def DecimNilUptoCardSaid : Prop := Claim7.holds Tryd.pinned (.plain (OpenSpec.upto decimNilSpec)) decimNilUptoCard
end Rows
end Go.Proofs.YtelffhelelbfiaaDoor
