/-
  DERIVED. GIVEN WITH THE SEED: THE CARDS: each row of YtbffnoodpoagcaaGreatDoorRows.lean that lists a variable, with what it lists TIED to the program's text (the seventh form; the later family's looks); each row that meets fmt, with fmt's text TOLD by the authors' own Lean function (tested against real Go, not proved from fmt's source: count such statements apart). THE CARD IS WHAT COUNTS. Prove the row's statement (the work); the ties are given (YtbffnoodpoagcaaGreatDoorTie.lean); close each card by the builder's one call (the guide's Derived/Test/ToyasCard.lean, 'card_holds'). Laid BY PROGRAM, IN A SANDBOX (cutbox-door.mjs). By AI agents, Wed Nov 11 2026. No macro, syntax, notation, axiom, sorry.
-/
import Derived.Test.YtbffnoodpoagcaaGreatDoorRows
import GoSem.ClaimSeven
namespace Go.Proofs.YtbffnoodpoagcaaGreatDoor
namespace Rows

/-- THE TIED CARD OF 'lispproverlaw7.PrimitiveBytes'. -/
def primitiveBytesCard : Claim7 := { stood := { row := primitiveBytesRow, standIns := [], harness := (true, "c1f4b5b56154d6bc1eeb8211e84f0d7462d26d3728764518fa4df58ecf3bcf4d"), looks := true }, kinds := [], alts := [], laidByText := true, laidKinds := [.data, .data, .data, .sentinel, .sentinel], laidTests := true, laidLooks := .later }
def PrimitiveBytesCardSaid : Prop := Claim7.holds Tryz.pinned (.plain (OpenSpec.ofChange primitiveBytesSpec)) primitiveBytesCard

/-- THE TIED CARD OF 'lispproverlaw7.PrimitiveLimits'. -/
def primitiveLimitsCard : Claim7 := { stood := { row := primitiveLimitsRow, standIns := [], harness := (true, "c1f4b5b56154d6bc1eeb8211e84f0d7462d26d3728764518fa4df58ecf3bcf4d"), looks := true }, kinds := [], alts := [], laidByText := true, laidKinds := [.data, .data, .data, .sentinel, .sentinel], laidTests := true, laidLooks := .later }
def PrimitiveLimitsCardSaid : Prop := Claim7.holds Tryz.pinned (.plain (OpenSpec.ofChange primitiveLimitsSpec)) primitiveLimitsCard

/-- THE TIED CARD OF 'lispproverlaw7.PrimitiveClosed'. -/
def primitiveClosedCard : Claim7 := { stood := { row := primitiveClosedRow, standIns := [], harness := (true, "c1f4b5b56154d6bc1eeb8211e84f0d7462d26d3728764518fa4df58ecf3bcf4d"), looks := true }, kinds := [], alts := [], laidByText := true, laidKinds := [.data, .data, .data, .sentinel, .sentinel], laidTests := true, laidLooks := .later }
def PrimitiveClosedCardSaid : Prop := Claim7.holds Tryz.pinned (.plain (OpenSpec.ofChange primitiveClosedSpec)) primitiveClosedCard

/-- THE TIED CARD OF 'lispproverlaw7.PrimitiveConses'. -/
def primitiveConsesCard : Claim7 := { stood := { row := primitiveConsesRow, standIns := [], harness := (true, "c1f4b5b56154d6bc1eeb8211e84f0d7462d26d3728764518fa4df58ecf3bcf4d"), looks := true }, kinds := [], alts := [], laidByText := true, laidKinds := [.data, .data, .data, .sentinel, .sentinel], laidTests := true, laidLooks := .later }
def PrimitiveConsesCardSaid : Prop := Claim7.holds Tryz.pinned (.plain (OpenSpec.ofChange primitiveConsesSpec)) primitiveConsesCard

/-- THE TIED CARD OF 'lispproverlaw7.PrimitiveFloors'. -/
def primitiveFloorsCard : Claim7 := { stood := { row := primitiveFloorsRow, standIns := [], harness := (true, "c1f4b5b56154d6bc1eeb8211e84f0d7462d26d3728764518fa4df58ecf3bcf4d"), looks := true }, kinds := [], alts := [], laidByText := true, laidKinds := [.data, .data, .data, .sentinel, .sentinel], laidTests := true, laidLooks := .later }
def PrimitiveFloorsCardSaid : Prop := Claim7.holds Tryz.pinned (.plain (OpenSpec.ofChange primitiveFloorsSpec)) primitiveFloorsCard

/-- THE SECOND FORM's CARD OF 'lispproverlaw7.PrimitiveBytes'. -/
def primitiveBytesUptoCard : Claim7 := { stood := { row := primitiveBytesUptoRow, standIns := [], harness := (true, "c1f4b5b56154d6bc1eeb8211e84f0d7462d26d3728764518fa4df58ecf3bcf4d"), looks := true }, kinds := [], alts := [], laidByText := true, laidKinds := [.data, .data, .data, .sentinel, .sentinel], laidTests := true, laidLooks := .later }
def PrimitiveBytesUptoCardSaid : Prop := Claim7.holds Tryz.pinned (.plain (OpenSpec.upto primitiveBytesSpec)) primitiveBytesUptoCard

/-- THE SECOND FORM's CARD OF 'lispproverlaw7.PrimitiveLimits'. -/
def primitiveLimitsUptoCard : Claim7 := { stood := { row := primitiveLimitsUptoRow, standIns := [], harness := (true, "c1f4b5b56154d6bc1eeb8211e84f0d7462d26d3728764518fa4df58ecf3bcf4d"), looks := true }, kinds := [], alts := [], laidByText := true, laidKinds := [.data, .data, .data, .sentinel, .sentinel], laidTests := true, laidLooks := .later }
def PrimitiveLimitsUptoCardSaid : Prop := Claim7.holds Tryz.pinned (.plain (OpenSpec.upto primitiveLimitsSpec)) primitiveLimitsUptoCard

/-- THE SECOND FORM's CARD OF 'lispproverlaw7.PrimitiveClosed'. -/
def primitiveClosedUptoCard : Claim7 := { stood := { row := primitiveClosedUptoRow, standIns := [], harness := (true, "c1f4b5b56154d6bc1eeb8211e84f0d7462d26d3728764518fa4df58ecf3bcf4d"), looks := true }, kinds := [], alts := [], laidByText := true, laidKinds := [.data, .data, .data, .sentinel, .sentinel], laidTests := true, laidLooks := .later }
def PrimitiveClosedUptoCardSaid : Prop := Claim7.holds Tryz.pinned (.plain (OpenSpec.upto primitiveClosedSpec)) primitiveClosedUptoCard

/-- THE SECOND FORM's CARD OF 'lispproverlaw7.PrimitiveConses'. -/
def primitiveConsesUptoCard : Claim7 := { stood := { row := primitiveConsesUptoRow, standIns := [], harness := (true, "c1f4b5b56154d6bc1eeb8211e84f0d7462d26d3728764518fa4df58ecf3bcf4d"), looks := true }, kinds := [], alts := [], laidByText := true, laidKinds := [.data, .data, .data, .sentinel, .sentinel], laidTests := true, laidLooks := .later }
def PrimitiveConsesUptoCardSaid : Prop := Claim7.holds Tryz.pinned (.plain (OpenSpec.upto primitiveConsesSpec)) primitiveConsesUptoCard

/-- THE SECOND FORM's CARD OF 'lispproverlaw7.PrimitiveFloors'. -/
def primitiveFloorsUptoCard : Claim7 := { stood := { row := primitiveFloorsUptoRow, standIns := [], harness := (true, "c1f4b5b56154d6bc1eeb8211e84f0d7462d26d3728764518fa4df58ecf3bcf4d"), looks := true }, kinds := [], alts := [], laidByText := true, laidKinds := [.data, .data, .data, .sentinel, .sentinel], laidTests := true, laidLooks := .later }
def PrimitiveFloorsUptoCardSaid : Prop := Claim7.holds Tryz.pinned (.plain (OpenSpec.upto primitiveFloorsSpec)) primitiveFloorsUptoCard
end Rows
end Go.Proofs.YtbffnoodpoagcaaGreatDoor
