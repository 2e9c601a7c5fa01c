/-
  DERIVED. GIVEN WITH THE SEED: THE CARDS: each row of YtlmnjelideegnaaGreatDoorRows.lean that lists a variable, with what it lists TIED to the program's text (the seventh form; the later family's looks); each row that meets fmt, with fmt's text TOLD by the authors' own Lean function (tested against real Go, not proved from fmt's source: count such statements apart). THE CARD IS WHAT COUNTS. Prove the row's statement (the work); the ties are given (YtlmnjelideegnaaGreatDoorTie.lean); close each card by the builder's one call (the guide's Derived/Test/ToyasCard.lean, 'card_holds'). Laid BY PROGRAM, IN A SANDBOX (cutbox-door.mjs). By AI agents, Wed Nov 11 2026. No macro, syntax, notation, axiom, sorry.
-/
import Derived.Test.YtlmnjelideegnaaGreatDoorRows
import GoSem.ClaimSeven
namespace Go.Proofs.YtlmnjelideegnaaGreatDoor
namespace Rows

/-- THE TIED CARD OF 'lispproverlaw6.PrinterNames'. -/
def printerNamesCard : Claim7 := { stood := { row := printerNamesRow, standIns := [], harness := (true, "4e05e5167eb695460d7ef0f0cd97f88f50e8b4a078c55cfb0354194288b007c2"), looks := true }, kinds := [], alts := [], laidByText := true, laidKinds := [.data, .data, .pinned], laidTests := true, laidLooks := .later }
def PrinterNamesCardSaid : Prop := Claim7.holds Tryz.pinned (.plain (OpenSpec.ofChange printerNamesSpec)) printerNamesCard

/-- THE TIED CARD OF 'lispproverlaw6.PrinterPrints'. -/
def printerPrintsCard : Claim7 := { stood := { row := printerPrintsRow, standIns := [], harness := (true, "4e05e5167eb695460d7ef0f0cd97f88f50e8b4a078c55cfb0354194288b007c2"), looks := true }, kinds := [], alts := [], laidByText := true, laidKinds := [.data, .data, .data, .data, .data, .pinned], laidTests := true, laidLooks := .later }
def PrinterPrintsCardSaid : Prop := Claim7.holds Tryz.pinned (.plain (OpenSpec.ofChange printerPrintsSpec)) printerPrintsCard

/-- THE TIED CARD OF 'lispproverlaw6.PrinterLines'. -/
def printerLinesCard : Claim7 := { stood := { row := printerLinesRow, standIns := [], harness := (true, "4e05e5167eb695460d7ef0f0cd97f88f50e8b4a078c55cfb0354194288b007c2"), looks := true }, kinds := [], alts := [], laidByText := true, laidKinds := [.data, .data, .data, .data, .data, .pinned], laidTests := true, laidLooks := .later }
def PrinterLinesCardSaid : Prop := Claim7.holds Tryz.pinned (.plain (OpenSpec.ofChange printerLinesSpec)) printerLinesCard

/-- THE TIED CARD OF 'lispproverlaw6.RoundTrip'. -/
def roundTripCard : Claim7 := { stood := { row := roundTripRow, standIns := [], harness := (true, "4e05e5167eb695460d7ef0f0cd97f88f50e8b4a078c55cfb0354194288b007c2"), looks := true }, kinds := [], alts := [], laidByText := true, laidKinds := [.data, .data, .data, .data, .data, .pinned], laidTests := true, laidLooks := .later }
def RoundTripCardSaid : Prop := Claim7.holds Tryz.pinned (.plain (OpenSpec.ofChange roundTripSpec)) roundTripCard

/-- THE TIED CARD OF 'lispproverlaw6.LinesTrip'. -/
def linesTripCard : Claim7 := { stood := { row := linesTripRow, standIns := [], harness := (true, "4e05e5167eb695460d7ef0f0cd97f88f50e8b4a078c55cfb0354194288b007c2"), looks := true }, kinds := [], alts := [], laidByText := true, laidKinds := [.data, .data, .data, .data, .data, .pinned], laidTests := true, laidLooks := .later }
def LinesTripCardSaid : Prop := Claim7.holds Tryz.pinned (.plain (OpenSpec.ofChange linesTripSpec)) linesTripCard

/-- THE TIED CARD OF 'lispproverlaw6.NamesTrip'. -/
def namesTripCard : Claim7 := { stood := { row := namesTripRow, standIns := [], harness := (true, "4e05e5167eb695460d7ef0f0cd97f88f50e8b4a078c55cfb0354194288b007c2"), looks := true }, kinds := [], alts := [], laidByText := true, laidKinds := [.data, .data, .pinned], laidTests := true, laidLooks := .later }
def NamesTripCardSaid : Prop := Claim7.holds Tryz.pinned (.plain (OpenSpec.ofChange namesTripSpec)) namesTripCard

/-- THE TIED CARD OF 'lispproverlaw6.PrintAgain'. -/
def printAgainCard : Claim7 := { stood := { row := printAgainRow, standIns := [], harness := (true, "4e05e5167eb695460d7ef0f0cd97f88f50e8b4a078c55cfb0354194288b007c2"), looks := true }, kinds := [], alts := [], laidByText := true, laidKinds := [.data, .data, .pinned], laidTests := true, laidLooks := .later }
def PrintAgainCardSaid : Prop := Claim7.holds Tryz.pinned (.plain (OpenSpec.ofChange printAgainSpec)) printAgainCard

/-- THE SECOND FORM's CARD OF 'lispproverlaw6.PrinterNames'. -/
def printerNamesUptoCard : Claim7 := { stood := { row := printerNamesUptoRow, standIns := [], harness := (true, "4e05e5167eb695460d7ef0f0cd97f88f50e8b4a078c55cfb0354194288b007c2"), looks := true }, kinds := [], alts := [], laidByText := true, laidKinds := [.data, .data, .pinned], laidTests := true, laidLooks := .later }
def PrinterNamesUptoCardSaid : Prop := Claim7.holds Tryz.pinned (.plain (OpenSpec.upto printerNamesSpec)) printerNamesUptoCard

/-- THE SECOND FORM's CARD OF 'lispproverlaw6.PrinterPrints'. -/
def printerPrintsUptoCard : Claim7 := { stood := { row := printerPrintsUptoRow, standIns := [], harness := (true, "4e05e5167eb695460d7ef0f0cd97f88f50e8b4a078c55cfb0354194288b007c2"), looks := true }, kinds := [], alts := [], laidByText := true, laidKinds := [.data, .data, .data, .data, .data, .pinned], laidTests := true, laidLooks := .later }
def PrinterPrintsUptoCardSaid : Prop := Claim7.holds Tryz.pinned (.plain (OpenSpec.upto printerPrintsSpec)) printerPrintsUptoCard

/-- THE SECOND FORM's CARD OF 'lispproverlaw6.PrinterLines'. -/
def printerLinesUptoCard : Claim7 := { stood := { row := printerLinesUptoRow, standIns := [], harness := (true, "4e05e5167eb695460d7ef0f0cd97f88f50e8b4a078c55cfb0354194288b007c2"), looks := true }, kinds := [], alts := [], laidByText := true, laidKinds := [.data, .data, .data, .data, .data, .pinned], laidTests := true, laidLooks := .later }
def PrinterLinesUptoCardSaid : Prop := Claim7.holds Tryz.pinned (.plain (OpenSpec.upto printerLinesSpec)) printerLinesUptoCard

/-- THE SECOND FORM's CARD OF 'lispproverlaw6.RoundTrip'. -/
def roundTripUptoCard : Claim7 := { stood := { row := roundTripUptoRow, standIns := [], harness := (true, "4e05e5167eb695460d7ef0f0cd97f88f50e8b4a078c55cfb0354194288b007c2"), looks := true }, kinds := [], alts := [], laidByText := true, laidKinds := [.data, .data, .data, .data, .data, .pinned], laidTests := true, laidLooks := .later }
def RoundTripUptoCardSaid : Prop := Claim7.holds Tryz.pinned (.plain (OpenSpec.upto roundTripSpec)) roundTripUptoCard

/-- THE SECOND FORM's CARD OF 'lispproverlaw6.LinesTrip'. -/
def linesTripUptoCard : Claim7 := { stood := { row := linesTripUptoRow, standIns := [], harness := (true, "4e05e5167eb695460d7ef0f0cd97f88f50e8b4a078c55cfb0354194288b007c2"), looks := true }, kinds := [], alts := [], laidByText := true, laidKinds := [.data, .data, .data, .data, .data, .pinned], laidTests := true, laidLooks := .later }
def LinesTripUptoCardSaid : Prop := Claim7.holds Tryz.pinned (.plain (OpenSpec.upto linesTripSpec)) linesTripUptoCard

/-- THE SECOND FORM's CARD OF 'lispproverlaw6.NamesTrip'. -/
def namesTripUptoCard : Claim7 := { stood := { row := namesTripUptoRow, standIns := [], harness := (true, "4e05e5167eb695460d7ef0f0cd97f88f50e8b4a078c55cfb0354194288b007c2"), looks := true }, kinds := [], alts := [], laidByText := true, laidKinds := [.data, .data, .pinned], laidTests := true, laidLooks := .later }
def NamesTripUptoCardSaid : Prop := Claim7.holds Tryz.pinned (.plain (OpenSpec.upto namesTripSpec)) namesTripUptoCard

/-- THE SECOND FORM's CARD OF 'lispproverlaw6.PrintAgain'. -/
def printAgainUptoCard : Claim7 := { stood := { row := printAgainUptoRow, standIns := [], harness := (true, "4e05e5167eb695460d7ef0f0cd97f88f50e8b4a078c55cfb0354194288b007c2"), looks := true }, kinds := [], alts := [], laidByText := true, laidKinds := [.data, .data, .pinned], laidTests := true, laidLooks := .later }
def PrintAgainUptoCardSaid : Prop := Claim7.holds Tryz.pinned (.plain (OpenSpec.upto printAgainSpec)) printAgainUptoCard
end Rows
end Go.Proofs.YtlmnjelideegnaaGreatDoor
