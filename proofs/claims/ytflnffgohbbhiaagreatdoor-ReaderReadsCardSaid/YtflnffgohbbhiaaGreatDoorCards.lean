/-
  DERIVED. GIVEN WITH THE SEED: THE CARDS: each row of YtflnffgohbbhiaaGreatDoorRows.lean that lists a variable, with what it lists TIED to the program's text (the seventh form; the later family's looks); each row that meets fmt, with fmt's text TOLD by the authors' own Lean function (tested against real Go, not proved from fmt's source: count such statements apart). THE CARD IS WHAT COUNTS. Prove the row's statement (the work); the ties are given (YtflnffgohbbhiaaGreatDoorTie.lean); close each card by the builder's one call (the guide's Derived/Test/ToyasCard.lean, 'card_holds'). Laid BY PROGRAM, IN A SANDBOX (cutbox-door.mjs). By AI agents, Wed Nov 11 2026. No macro, syntax, notation, axiom, sorry.
-/
import Derived.Test.YtflnffgohbbhiaaGreatDoorRows
import GoSem.ClaimSeven
namespace Go.Proofs.YtflnffgohbbhiaaGreatDoor
namespace Rows

/-- THE TIED CARD OF 'lispproverlaw5.ReaderTokens'. -/
def readerTokensCard : Claim7 := { stood := { row := readerTokensRow, standIns := [], harness := (true, "9b07d48b010f303b9b72367dac49acbd37f93f6b93cde681aa1ffee3f45a6d28"), looks := true }, kinds := [], alts := [], laidByText := true, laidKinds := [.data, .pinned], laidTests := true, laidLooks := .later }
def ReaderTokensCardSaid : Prop := Claim7.holds Tryz.pinned (.plain (OpenSpec.ofChange readerTokensSpec)) readerTokensCard

/-- THE TIED CARD OF 'lispproverlaw5.ReaderPieces'. -/
def readerPiecesCard : Claim7 := { stood := { row := readerPiecesRow, standIns := [], harness := (true, "9b07d48b010f303b9b72367dac49acbd37f93f6b93cde681aa1ffee3f45a6d28"), looks := true }, kinds := [], alts := [], laidByText := true, laidKinds := [.data, .pinned], laidTests := true, laidLooks := .later }
def ReaderPiecesCardSaid : Prop := Claim7.holds Tryz.pinned (.plain (OpenSpec.ofChange readerPiecesSpec)) readerPiecesCard

/-- THE TIED CARD OF 'lispproverlaw5.ReaderReads'. -/
def readerReadsCard : Claim7 := { stood := { row := readerReadsRow, standIns := [], harness := (true, "9b07d48b010f303b9b72367dac49acbd37f93f6b93cde681aa1ffee3f45a6d28"), looks := true }, kinds := [], alts := [], laidByText := true, laidKinds := [.data, .pinned], laidTests := true, laidLooks := .later }
def ReaderReadsCardSaid : Prop := Claim7.holds Tryz.pinned (.plain (OpenSpec.ofChange readerReadsSpec)) readerReadsCard

/-- THE TIED CARD OF 'lispproverlaw5.ReaderOnes'. -/
def readerOnesCard : Claim7 := { stood := { row := readerOnesRow, standIns := [], harness := (true, "9b07d48b010f303b9b72367dac49acbd37f93f6b93cde681aa1ffee3f45a6d28"), looks := true }, kinds := [], alts := [], laidByText := true, laidKinds := [.data, .pinned], laidTests := true, laidLooks := .later }
def ReaderOnesCardSaid : Prop := Claim7.holds Tryz.pinned (.plain (OpenSpec.ofChange readerOnesSpec)) readerOnesCard

/-- THE TIED CARD OF 'lispproverlaw5.ReaderDeep'. -/
def readerDeepCard : Claim7 := { stood := { row := readerDeepRow, standIns := [], harness := (true, "9b07d48b010f303b9b72367dac49acbd37f93f6b93cde681aa1ffee3f45a6d28"), looks := true }, kinds := [], alts := [], laidByText := true, laidKinds := [.data, .pinned], laidTests := true, laidLooks := .later }
def ReaderDeepCardSaid : Prop := Claim7.holds Tryz.pinned (.plain (OpenSpec.ofChange readerDeepSpec)) readerDeepCard

/-- THE TIED CARD OF 'lispproverlaw5.ReaderLong'. -/
def readerLongCard : Claim7 := { stood := { row := readerLongRow, standIns := [], harness := (true, "9b07d48b010f303b9b72367dac49acbd37f93f6b93cde681aa1ffee3f45a6d28"), looks := true }, kinds := [], alts := [], laidByText := true, laidKinds := [.data, .pinned], laidTests := true, laidLooks := .later }
def ReaderLongCardSaid : Prop := Claim7.holds Tryz.pinned (.plain (OpenSpec.ofChange readerLongSpec)) readerLongCard

/-- THE TIED CARD OF 'lispproverlaw5.ReaderPrefix'. -/
def readerPrefixCard : Claim7 := { stood := { row := readerPrefixRow, standIns := [], harness := (true, "9b07d48b010f303b9b72367dac49acbd37f93f6b93cde681aa1ffee3f45a6d28"), looks := true }, kinds := [], alts := [], laidByText := true, laidKinds := [.data, .pinned], laidTests := true, laidLooks := .later }
def ReaderPrefixCardSaid : Prop := Claim7.holds Tryz.pinned (.plain (OpenSpec.ofChange readerPrefixSpec)) readerPrefixCard

/-- THE SECOND FORM's CARD OF 'lispproverlaw5.ReaderTokens'. -/
def readerTokensUptoCard : Claim7 := { stood := { row := readerTokensUptoRow, standIns := [], harness := (true, "9b07d48b010f303b9b72367dac49acbd37f93f6b93cde681aa1ffee3f45a6d28"), looks := true }, kinds := [], alts := [], laidByText := true, laidKinds := [.data, .pinned], laidTests := true, laidLooks := .later }
def ReaderTokensUptoCardSaid : Prop := Claim7.holds Tryz.pinned (.plain (OpenSpec.upto readerTokensSpec)) readerTokensUptoCard

/-- THE SECOND FORM's CARD OF 'lispproverlaw5.ReaderPieces'. -/
def readerPiecesUptoCard : Claim7 := { stood := { row := readerPiecesUptoRow, standIns := [], harness := (true, "9b07d48b010f303b9b72367dac49acbd37f93f6b93cde681aa1ffee3f45a6d28"), looks := true }, kinds := [], alts := [], laidByText := true, laidKinds := [.data, .pinned], laidTests := true, laidLooks := .later }
def ReaderPiecesUptoCardSaid : Prop := Claim7.holds Tryz.pinned (.plain (OpenSpec.upto readerPiecesSpec)) readerPiecesUptoCard

/-- THE SECOND FORM's CARD OF 'lispproverlaw5.ReaderReads'. -/
def readerReadsUptoCard : Claim7 := { stood := { row := readerReadsUptoRow, standIns := [], harness := (true, "9b07d48b010f303b9b72367dac49acbd37f93f6b93cde681aa1ffee3f45a6d28"), looks := true }, kinds := [], alts := [], laidByText := true, laidKinds := [.data, .pinned], laidTests := true, laidLooks := .later }
def ReaderReadsUptoCardSaid : Prop := Claim7.holds Tryz.pinned (.plain (OpenSpec.upto readerReadsSpec)) readerReadsUptoCard

/-- THE SECOND FORM's CARD OF 'lispproverlaw5.ReaderOnes'. -/
def readerOnesUptoCard : Claim7 := { stood := { row := readerOnesUptoRow, standIns := [], harness := (true, "9b07d48b010f303b9b72367dac49acbd37f93f6b93cde681aa1ffee3f45a6d28"), looks := true }, kinds := [], alts := [], laidByText := true, laidKinds := [.data, .pinned], laidTests := true, laidLooks := .later }
def ReaderOnesUptoCardSaid : Prop := Claim7.holds Tryz.pinned (.plain (OpenSpec.upto readerOnesSpec)) readerOnesUptoCard

/-- THE SECOND FORM's CARD OF 'lispproverlaw5.ReaderDeep'. -/
def readerDeepUptoCard : Claim7 := { stood := { row := readerDeepUptoRow, standIns := [], harness := (true, "9b07d48b010f303b9b72367dac49acbd37f93f6b93cde681aa1ffee3f45a6d28"), looks := true }, kinds := [], alts := [], laidByText := true, laidKinds := [.data, .pinned], laidTests := true, laidLooks := .later }
def ReaderDeepUptoCardSaid : Prop := Claim7.holds Tryz.pinned (.plain (OpenSpec.upto readerDeepSpec)) readerDeepUptoCard

/-- THE SECOND FORM's CARD OF 'lispproverlaw5.ReaderLong'. -/
def readerLongUptoCard : Claim7 := { stood := { row := readerLongUptoRow, standIns := [], harness := (true, "9b07d48b010f303b9b72367dac49acbd37f93f6b93cde681aa1ffee3f45a6d28"), looks := true }, kinds := [], alts := [], laidByText := true, laidKinds := [.data, .pinned], laidTests := true, laidLooks := .later }
def ReaderLongUptoCardSaid : Prop := Claim7.holds Tryz.pinned (.plain (OpenSpec.upto readerLongSpec)) readerLongUptoCard

/-- THE SECOND FORM's CARD OF 'lispproverlaw5.ReaderPrefix'. -/
def readerPrefixUptoCard : Claim7 := { stood := { row := readerPrefixUptoRow, standIns := [], harness := (true, "9b07d48b010f303b9b72367dac49acbd37f93f6b93cde681aa1ffee3f45a6d28"), looks := true }, kinds := [], alts := [], laidByText := true, laidKinds := [.data, .pinned], laidTests := true, laidLooks := .later }
def ReaderPrefixUptoCardSaid : Prop := Claim7.holds Tryz.pinned (.plain (OpenSpec.upto readerPrefixSpec)) readerPrefixUptoCard
end Rows
end Go.Proofs.YtflnffgohbbhiaaGreatDoor
