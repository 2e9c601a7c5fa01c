/-
  DERIVED. GIVEN WITH THE SEED: THE CARDS: each row of YtinjhnnpbejccaaGreatDoorRows.lean that lists a variable, with what it lists TIED to the program's text (the seventh form; the later family's looks); each row that meets fmt, with fmt's text TOLD by the authors' own Lean function (tested against real Go, not proved from fmt's source: count such statements apart). THE CARD IS WHAT COUNTS. Prove the row's statement (the work); the ties are given (YtinjhnnpbejccaaGreatDoorTie.lean); close each card by the builder's one call (the guide's Derived/Test/ToyasCard.lean, 'card_holds'). Laid BY PROGRAM, IN A SANDBOX (cutbox-door.mjs). By AI agents, Wed Nov 11 2026. No macro, syntax, notation, axiom, sorry.
-/
import Derived.Test.YtinjhnnpbejccaaGreatDoorRows
import GoSem.ClaimSeven
namespace Go.Proofs.YtinjhnnpbejccaaGreatDoor
namespace Rows

/-- THE TIED CARD OF 'lispproverlaw8.TermMade'. -/
def termMadeCard : Claim7 := { stood := { row := termMadeRow, standIns := [], harness := (true, "a1b1e48d763f2092e6ca89172f41bb2435fe86c3c174197fb4ae7657bd6e2236"), looks := false }, kinds := [], alts := [], laidByText := true, laidKinds := [.data, .data, .data], laidTests := true, laidLooks := .later }
def TermMadeCardSaid : Prop := Claim7.holds Tryz.pinned (.plain (OpenSpec.ofChange termMadeSpec)) termMadeCard

/-- THE TIED CARD OF 'lispproverlaw8.TermLists'. -/
def termListsCard : Claim7 := { stood := { row := termListsRow, standIns := [], harness := (true, "a1b1e48d763f2092e6ca89172f41bb2435fe86c3c174197fb4ae7657bd6e2236"), looks := false }, kinds := [], alts := [], laidByText := true, laidKinds := [.data, .data, .data], laidTests := true, laidLooks := .later }
def TermListsCardSaid : Prop := Claim7.holds Tryz.pinned (.plain (OpenSpec.ofChange termListsSpec)) termListsCard

/-- THE TIED CARD OF 'lispproverlaw8.TermSubstitutes'. -/
def termSubstitutesCard : Claim7 := { stood := { row := termSubstitutesRow, standIns := [], harness := (true, "a1b1e48d763f2092e6ca89172f41bb2435fe86c3c174197fb4ae7657bd6e2236"), looks := false }, kinds := [], alts := [], laidByText := true, laidKinds := [.data, .data, .data], laidTests := true, laidLooks := .later }
def TermSubstitutesCardSaid : Prop := Claim7.holds Tryz.pinned (.plain (OpenSpec.ofChange termSubstitutesSpec)) termSubstitutesCard

/-- THE TIED CARD OF 'lispproverlaw8.TermComposes'. -/
def termComposesCard : Claim7 := { stood := { row := termComposesRow, standIns := [], harness := (true, "a1b1e48d763f2092e6ca89172f41bb2435fe86c3c174197fb4ae7657bd6e2236"), looks := false }, kinds := [], alts := [], laidByText := true, laidKinds := [.data, .data, .data], laidTests := true, laidLooks := .later }
def TermComposesCardSaid : Prop := Claim7.holds Tryz.pinned (.plain (OpenSpec.ofChange termComposesSpec)) termComposesCard

/-- THE TIED CARD OF 'lispproverlaw8.TermReplaces'. -/
def termReplacesCard : Claim7 := { stood := { row := termReplacesRow, standIns := [], harness := (true, "a1b1e48d763f2092e6ca89172f41bb2435fe86c3c174197fb4ae7657bd6e2236"), looks := false }, kinds := [], alts := [], laidByText := true, laidKinds := [.data, .data, .data], laidTests := true, laidLooks := .later }
def TermReplacesCardSaid : Prop := Claim7.holds Tryz.pinned (.plain (OpenSpec.ofChange termReplacesSpec)) termReplacesCard

/-- THE TIED CARD OF 'lispproverlaw8.TermPaths'. -/
def termPathsCard : Claim7 := { stood := { row := termPathsRow, standIns := [], harness := (true, "a1b1e48d763f2092e6ca89172f41bb2435fe86c3c174197fb4ae7657bd6e2236"), looks := false }, kinds := [], alts := [], laidByText := true, laidKinds := [.data, .data, .data], laidTests := true, laidLooks := .later }
def TermPathsCardSaid : Prop := Claim7.holds Tryz.pinned (.plain (OpenSpec.ofChange termPathsSpec)) termPathsCard

/-- THE TIED CARD OF 'lispproverlaw8.TermInstances'. -/
def termInstancesCard : Claim7 := { stood := { row := termInstancesRow, standIns := [], harness := (true, "a1b1e48d763f2092e6ca89172f41bb2435fe86c3c174197fb4ae7657bd6e2236"), looks := false }, kinds := [], alts := [], laidByText := true, laidKinds := [.data, .data, .data], laidTests := true, laidLooks := .later }
def TermInstancesCardSaid : Prop := Claim7.holds Tryz.pinned (.plain (OpenSpec.ofChange termInstancesSpec)) termInstancesCard

/-- THE TIED CARD OF 'lispproverlaw8.TermQuotes'. -/
def termQuotesCard : Claim7 := { stood := { row := termQuotesRow, standIns := [], harness := (true, "a1b1e48d763f2092e6ca89172f41bb2435fe86c3c174197fb4ae7657bd6e2236"), looks := false }, kinds := [], alts := [], laidByText := true, laidKinds := [.data, .data, .data], laidTests := true, laidLooks := .later }
def TermQuotesCardSaid : Prop := Claim7.holds Tryz.pinned (.plain (OpenSpec.ofChange termQuotesSpec)) termQuotesCard

/-- THE TIED CARD OF 'lispproverlaw8.TermUnquotes'. -/
def termUnquotesCard : Claim7 := { stood := { row := termUnquotesRow, standIns := [], harness := (true, "a1b1e48d763f2092e6ca89172f41bb2435fe86c3c174197fb4ae7657bd6e2236"), looks := false }, kinds := [], alts := [], laidByText := true, laidKinds := [.data, .data, .data], laidTests := true, laidLooks := .later }
def TermUnquotesCardSaid : Prop := Claim7.holds Tryz.pinned (.plain (OpenSpec.ofChange termUnquotesSpec)) termUnquotesCard

/-- THE SECOND FORM's CARD OF 'lispproverlaw8.TermMade'. -/
def termMadeUptoCard : Claim7 := { stood := { row := termMadeUptoRow, standIns := [], harness := (true, "a1b1e48d763f2092e6ca89172f41bb2435fe86c3c174197fb4ae7657bd6e2236"), looks := false }, kinds := [], alts := [], laidByText := true, laidKinds := [.data, .data, .data], laidTests := true, laidLooks := .later }
def TermMadeUptoCardSaid : Prop := Claim7.holds Tryz.pinned (.plain (OpenSpec.upto termMadeSpec)) termMadeUptoCard

/-- THE SECOND FORM's CARD OF 'lispproverlaw8.TermLists'. -/
def termListsUptoCard : Claim7 := { stood := { row := termListsUptoRow, standIns := [], harness := (true, "a1b1e48d763f2092e6ca89172f41bb2435fe86c3c174197fb4ae7657bd6e2236"), looks := false }, kinds := [], alts := [], laidByText := true, laidKinds := [.data, .data, .data], laidTests := true, laidLooks := .later }
def TermListsUptoCardSaid : Prop := Claim7.holds Tryz.pinned (.plain (OpenSpec.upto termListsSpec)) termListsUptoCard

/-- THE SECOND FORM's CARD OF 'lispproverlaw8.TermSubstitutes'. -/
def termSubstitutesUptoCard : Claim7 := { stood := { row := termSubstitutesUptoRow, standIns := [], harness := (true, "a1b1e48d763f2092e6ca89172f41bb2435fe86c3c174197fb4ae7657bd6e2236"), looks := false }, kinds := [], alts := [], laidByText := true, laidKinds := [.data, .data, .data], laidTests := true, laidLooks := .later }
def TermSubstitutesUptoCardSaid : Prop := Claim7.holds Tryz.pinned (.plain (OpenSpec.upto termSubstitutesSpec)) termSubstitutesUptoCard

/-- THE SECOND FORM's CARD OF 'lispproverlaw8.TermComposes'. -/
def termComposesUptoCard : Claim7 := { stood := { row := termComposesUptoRow, standIns := [], harness := (true, "a1b1e48d763f2092e6ca89172f41bb2435fe86c3c174197fb4ae7657bd6e2236"), looks := false }, kinds := [], alts := [], laidByText := true, laidKinds := [.data, .data, .data], laidTests := true, laidLooks := .later }
def TermComposesUptoCardSaid : Prop := Claim7.holds Tryz.pinned (.plain (OpenSpec.upto termComposesSpec)) termComposesUptoCard

/-- THE SECOND FORM's CARD OF 'lispproverlaw8.TermReplaces'. -/
def termReplacesUptoCard : Claim7 := { stood := { row := termReplacesUptoRow, standIns := [], harness := (true, "a1b1e48d763f2092e6ca89172f41bb2435fe86c3c174197fb4ae7657bd6e2236"), looks := false }, kinds := [], alts := [], laidByText := true, laidKinds := [.data, .data, .data], laidTests := true, laidLooks := .later }
def TermReplacesUptoCardSaid : Prop := Claim7.holds Tryz.pinned (.plain (OpenSpec.upto termReplacesSpec)) termReplacesUptoCard

/-- THE SECOND FORM's CARD OF 'lispproverlaw8.TermPaths'. -/
def termPathsUptoCard : Claim7 := { stood := { row := termPathsUptoRow, standIns := [], harness := (true, "a1b1e48d763f2092e6ca89172f41bb2435fe86c3c174197fb4ae7657bd6e2236"), looks := false }, kinds := [], alts := [], laidByText := true, laidKinds := [.data, .data, .data], laidTests := true, laidLooks := .later }
def TermPathsUptoCardSaid : Prop := Claim7.holds Tryz.pinned (.plain (OpenSpec.upto termPathsSpec)) termPathsUptoCard

/-- THE SECOND FORM's CARD OF 'lispproverlaw8.TermInstances'. -/
def termInstancesUptoCard : Claim7 := { stood := { row := termInstancesUptoRow, standIns := [], harness := (true, "a1b1e48d763f2092e6ca89172f41bb2435fe86c3c174197fb4ae7657bd6e2236"), looks := false }, kinds := [], alts := [], laidByText := true, laidKinds := [.data, .data, .data], laidTests := true, laidLooks := .later }
def TermInstancesUptoCardSaid : Prop := Claim7.holds Tryz.pinned (.plain (OpenSpec.upto termInstancesSpec)) termInstancesUptoCard

/-- THE SECOND FORM's CARD OF 'lispproverlaw8.TermQuotes'. -/
def termQuotesUptoCard : Claim7 := { stood := { row := termQuotesUptoRow, standIns := [], harness := (true, "a1b1e48d763f2092e6ca89172f41bb2435fe86c3c174197fb4ae7657bd6e2236"), looks := false }, kinds := [], alts := [], laidByText := true, laidKinds := [.data, .data, .data], laidTests := true, laidLooks := .later }
def TermQuotesUptoCardSaid : Prop := Claim7.holds Tryz.pinned (.plain (OpenSpec.upto termQuotesSpec)) termQuotesUptoCard

/-- THE SECOND FORM's CARD OF 'lispproverlaw8.TermUnquotes'. -/
def termUnquotesUptoCard : Claim7 := { stood := { row := termUnquotesUptoRow, standIns := [], harness := (true, "a1b1e48d763f2092e6ca89172f41bb2435fe86c3c174197fb4ae7657bd6e2236"), looks := false }, kinds := [], alts := [], laidByText := true, laidKinds := [.data, .data, .data], laidTests := true, laidLooks := .later }
def TermUnquotesUptoCardSaid : Prop := Claim7.holds Tryz.pinned (.plain (OpenSpec.upto termUnquotesSpec)) termUnquotesUptoCard
end Rows
end Go.Proofs.YtinjhnnpbejccaaGreatDoor
