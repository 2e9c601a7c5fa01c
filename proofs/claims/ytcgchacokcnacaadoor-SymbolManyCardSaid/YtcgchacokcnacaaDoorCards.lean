/-
  DERIVED. GIVEN WITH THE SEED: THE CARDS: each row of YtcgchacokcnacaaDoorRows.lean that lists a variable, with what it lists TIED to the program's text (the seventh form; the later family's looks); each row that meets fmt, with fmt's text TOLD by the authors' own Lean function (tested against real Go, not proved from fmt's source: count such statements apart). THE CARD IS WHAT COUNTS. Prove the row's statement (the work); the ties are given (YtcgchacokcnacaaDoorTie.lean); close each card by the builder's one call (the guide's Derived/Test/ToyasCard.lean, 'card_holds'). Laid BY PROGRAM, IN A SANDBOX (cutbox-door.mjs). By AI agents, Wed Nov 11 2026. No macro, syntax, notation, axiom, sorry.
-/
import Derived.Test.YtcgchacokcnacaaDoorRows
import GoSem.ClaimSeven
namespace Go.Proofs.YtcgchacokcnacaaDoor
namespace Rows

/-- THE TIED CARD OF 'lispproverlaw4.SymbolMany'. -/
def symbolManyCard : Claim7 := { stood := { row := symbolManyRow, standIns := [], harness := (true, "3cb2a484b1f6e1290c9fa256f5bd70e675dfd9b326503922913898a2dff96d0f"), looks := false }, kinds := [], alts := [], laidByText := true, laidKinds := [.data, .data, .data], laidTests := true, laidLooks := .later }
def SymbolManyCardSaid : Prop := Claim7.holds Tryd.pinned (.plain (OpenSpec.ofChange symbolManySpec)) symbolManyCard

/-- THE SECOND FORM's CARD OF 'lispproverlaw4.SymbolMany'. -/
def symbolManyUptoCard : Claim7 := { stood := { row := symbolManyUptoRow, standIns := [], harness := (true, "3cb2a484b1f6e1290c9fa256f5bd70e675dfd9b326503922913898a2dff96d0f"), looks := false }, kinds := [], alts := [], laidByText := true, laidKinds := [.data, .data, .data], laidTests := true, laidLooks := .later }
def SymbolManyUptoCardSaid : Prop := Claim7.holds Tryd.pinned (.plain (OpenSpec.upto symbolManySpec)) symbolManyUptoCard
end Rows
end Go.Proofs.YtcgchacokcnacaaDoor
