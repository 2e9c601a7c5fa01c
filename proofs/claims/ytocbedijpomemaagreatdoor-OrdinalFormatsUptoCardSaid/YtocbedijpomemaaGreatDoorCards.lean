/-
  DERIVED. GIVEN WITH THE SEED: THE CARDS: each row of YtocbedijpomemaaGreatDoorRows.lean that lists a variable, with what it lists TIED to the program's text (the seventh form; the later family's looks); each row that meets fmt, with fmt's text TOLD by the authors' own Lean function (tested against real Go, not proved from fmt's source: count such statements apart). THE CARD IS WHAT COUNTS. Prove the row's statement (the work); the ties are given (YtocbedijpomemaaGreatDoorTie.lean); close each card by the builder's one call (the guide's Derived/Test/ToyasCard.lean, 'card_holds'). Laid BY PROGRAM, IN A SANDBOX (cutbox-door.mjs). By AI agents, Wed Nov 11 2026. No macro, syntax, notation, axiom, sorry.
-/
import Derived.Test.YtocbedijpomemaaGreatDoorRows
import GoSem.ClaimSeven
namespace Go.Proofs.YtocbedijpomemaaGreatDoor
namespace Rows

/-- THE TIED CARD OF 'lispproverlaw3.OrdinalFormats'. -/
def ordinalFormatsCard : Claim7 := { stood := { row := ordinalFormatsRow, standIns := [], harness := (true, "d9eb132a27a821c5aed97ccd23e92f2c2a51b00866d713c58ab8615455920d35"), looks := false }, kinds := [], alts := [], laidByText := true, laidKinds := [.data, .data, .data], laidTests := true, laidLooks := .later }
def OrdinalFormatsCardSaid : Prop := Claim7.holds Tryz.pinned (.plain (OpenSpec.ofChange ordinalFormatsSpec)) ordinalFormatsCard

/-- THE SECOND FORM's CARD OF 'lispproverlaw3.OrdinalFormats'. -/
def ordinalFormatsUptoCard : Claim7 := { stood := { row := ordinalFormatsUptoRow, standIns := [], harness := (true, "d9eb132a27a821c5aed97ccd23e92f2c2a51b00866d713c58ab8615455920d35"), looks := false }, kinds := [], alts := [], laidByText := true, laidKinds := [.data, .data, .data], laidTests := true, laidLooks := .later }
def OrdinalFormatsUptoCardSaid : Prop := Claim7.holds Tryz.pinned (.plain (OpenSpec.upto ordinalFormatsSpec)) ordinalFormatsUptoCard
end Rows
end Go.Proofs.YtocbedijpomemaaGreatDoor
