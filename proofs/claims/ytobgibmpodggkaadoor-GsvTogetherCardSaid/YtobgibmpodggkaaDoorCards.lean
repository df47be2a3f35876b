/-
  DERIVED. GIVEN WITH THE SEED: THE CARDS: each row of YtobgibmpodggkaaDoorRows.lean that lists a variable, with what it lists TIED to the program's text (the seventh form; the later family's looks); each row that meets fmt, with fmt's text TOLD by the authors' own Lean function (tested against real Go, not proved from fmt's source: count such statements apart). THE CARD IS WHAT COUNTS. Prove the row's statement (the work); the ties are given (YtobgibmpodggkaaDoorTie.lean); close each card by the builder's one call (the guide's Derived/Test/ToyasCard.lean, 'card_holds'). Laid BY PROGRAM, IN A SANDBOX (cutbox-door.mjs). By AI agents, Wed Nov 11 2026. No macro, syntax, notation, axiom, sorry.
-/
import Derived.Test.YtobgibmpodggkaaDoorRows
import GoSem.ClaimSeven
namespace Go.Proofs.YtobgibmpodggkaaDoor
namespace Rows

/-- THE TIED CARD OF 'landfalllaw29.GsvPuts'. -/
def gsvPutsCard : Claim7 := { stood := { row := gsvPutsRow, standIns := [], harness := (true, "b03283d3ed18ab62db0838989c6cbcbbfea9d85d3188a78e69bb331b4442b6ec"), looks := false }, kinds := [], alts := [], laidByText := true, laidKinds := [.data, .data, .data, .data, .pinned], laidTests := true, laidLooks := .later }
def GsvPutsCardSaid : Prop := Claim7.holds Tryd.pinned (.plain (OpenSpec.ofChange gsvPutsSpec)) gsvPutsCard

/-- THE TIED CARD OF 'landfalllaw29.GsvBack'. -/
def gsvBackCard : Claim7 := { stood := { row := gsvBackRow, standIns := [], harness := (true, "b03283d3ed18ab62db0838989c6cbcbbfea9d85d3188a78e69bb331b4442b6ec"), looks := false }, kinds := [], alts := [], laidByText := true, laidKinds := [.data, .data, .data, .data, .pinned], laidTests := true, laidLooks := .later }
def GsvBackCardSaid : Prop := Claim7.holds Tryd.pinned (.plain (OpenSpec.ofChange gsvBackSpec)) gsvBackCard

/-- THE TIED CARD OF 'landfalllaw29.GsvBooks'. -/
def gsvBooksCard : Claim7 := { stood := { row := gsvBooksRow, standIns := [], harness := (true, "b03283d3ed18ab62db0838989c6cbcbbfea9d85d3188a78e69bb331b4442b6ec"), looks := false }, kinds := [], alts := [], laidByText := true, laidKinds := [.data, .data, .data, .data, .pinned], laidTests := true, laidLooks := .later }
def GsvBooksCardSaid : Prop := Claim7.holds Tryd.pinned (.plain (OpenSpec.ofChange gsvBooksSpec)) gsvBooksCard

/-- THE TIED CARD OF 'landfalllaw29.GsvTogether'. -/
def gsvTogetherCard : Claim7 := { stood := { row := gsvTogetherRow, standIns := [], harness := (true, "b03283d3ed18ab62db0838989c6cbcbbfea9d85d3188a78e69bb331b4442b6ec"), looks := false }, kinds := [], alts := [], laidByText := true, laidKinds := [.data, .data, .data, .data, .pinned], laidTests := true, laidLooks := .later }
def GsvTogetherCardSaid : Prop := Claim7.holds Tryd.pinned (.plain (OpenSpec.ofChange gsvTogetherSpec)) gsvTogetherCard

/-- THE TIED CARD OF 'landfalllaw29.GsvNil'. -/
def gsvNilCard : Claim7 := { stood := { row := gsvNilRow, standIns := [], harness := (true, "b03283d3ed18ab62db0838989c6cbcbbfea9d85d3188a78e69bb331b4442b6ec"), looks := false }, kinds := [], alts := [], laidByText := true, laidKinds := [.data, .data, .data, .data, .pinned], laidTests := true, laidLooks := .later }
def GsvNilCardSaid : Prop := Claim7.holds Tryd.pinned (.plain (OpenSpec.ofChange gsvNilSpec)) gsvNilCard

/-- THE SECOND FORM's CARD OF 'landfalllaw29.GsvPuts'. -/
def gsvPutsUptoCard : Claim7 := { stood := { row := gsvPutsUptoRow, standIns := [], harness := (true, "b03283d3ed18ab62db0838989c6cbcbbfea9d85d3188a78e69bb331b4442b6ec"), looks := false }, kinds := [], alts := [], laidByText := true, laidKinds := [.data, .data, .data, .data, .pinned], laidTests := true, laidLooks := .later }
def GsvPutsUptoCardSaid : Prop := Claim7.holds Tryd.pinned (.plain (OpenSpec.upto gsvPutsSpec)) gsvPutsUptoCard

/-- THE SECOND FORM's CARD OF 'landfalllaw29.GsvBack'. -/
def gsvBackUptoCard : Claim7 := { stood := { row := gsvBackUptoRow, standIns := [], harness := (true, "b03283d3ed18ab62db0838989c6cbcbbfea9d85d3188a78e69bb331b4442b6ec"), looks := false }, kinds := [], alts := [], laidByText := true, laidKinds := [.data, .data, .data, .data, .pinned], laidTests := true, laidLooks := .later }
def GsvBackUptoCardSaid : Prop := Claim7.holds Tryd.pinned (.plain (OpenSpec.upto gsvBackSpec)) gsvBackUptoCard

/-- THE SECOND FORM's CARD OF 'landfalllaw29.GsvBooks'. -/
def gsvBooksUptoCard : Claim7 := { stood := { row := gsvBooksUptoRow, standIns := [], harness := (true, "b03283d3ed18ab62db0838989c6cbcbbfea9d85d3188a78e69bb331b4442b6ec"), looks := false }, kinds := [], alts := [], laidByText := true, laidKinds := [.data, .data, .data, .data, .pinned], laidTests := true, laidLooks := .later }
def GsvBooksUptoCardSaid : Prop := Claim7.holds Tryd.pinned (.plain (OpenSpec.upto gsvBooksSpec)) gsvBooksUptoCard

/-- THE SECOND FORM's CARD OF 'landfalllaw29.GsvTogether'. -/
def gsvTogetherUptoCard : Claim7 := { stood := { row := gsvTogetherUptoRow, standIns := [], harness := (true, "b03283d3ed18ab62db0838989c6cbcbbfea9d85d3188a78e69bb331b4442b6ec"), looks := false }, kinds := [], alts := [], laidByText := true, laidKinds := [.data, .data, .data, .data, .pinned], laidTests := true, laidLooks := .later }
def GsvTogetherUptoCardSaid : Prop := Claim7.holds Tryd.pinned (.plain (OpenSpec.upto gsvTogetherSpec)) gsvTogetherUptoCard

/-- THE SECOND FORM's CARD OF 'landfalllaw29.GsvNil'. -/
def gsvNilUptoCard : Claim7 := { stood := { row := gsvNilUptoRow, standIns := [], harness := (true, "b03283d3ed18ab62db0838989c6cbcbbfea9d85d3188a78e69bb331b4442b6ec"), looks := false }, kinds := [], alts := [], laidByText := true, laidKinds := [.data, .data, .data, .data, .pinned], laidTests := true, laidLooks := .later }
def GsvNilUptoCardSaid : Prop := Claim7.holds Tryd.pinned (.plain (OpenSpec.upto gsvNilSpec)) gsvNilUptoCard
end Rows
end Go.Proofs.YtobgibmpodggkaaDoor
