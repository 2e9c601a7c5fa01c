/-
  NARROWER THAN 'FOR EVERY INPUT', by the rows' own cells (each row's printed sentence says how): ReaderTokens: laid · ReaderPieces: laid · ReaderReads: laid · ReaderOnes: laid · ReaderDeep: laid · ReaderLong: laid · ReaderPrefix: laid.
  DERIVED. THE GIVEN ROWS OF THIS SEAT. 7 by the template 'for every input the law returns true; each argument reads behind the call as it read before'; 0 by the template 'total and deterministic' (their statements: YtflnffgohbbhiaaGreatDoorTotals.lean).
  GIVEN WITH THE SEED: the statements are not yours to turn. If you find one false, say at which input.
  Laid BY PROGRAM, IN A SANDBOX (cutbox-rows.mjs): the forced cells as the released guide's own fill.sh prints them over the translation 319b8f7d017d9cff… (all of the seat's roots in one cut). By AI agents, Wed Nov 11 2026. No macro, syntax, notation, axiom, sorry.
-/
import Derived.Test.YtflnffgohbbhiaaGreatDoorChecked
import GoSem.PinnedTables
import GoSem.Claim
import GoSem.ClaimJoined
import GoSem.ClaimMapViews
import Derived.JoinedTies
import Derived.KernelRfl
namespace Go.Proofs.YtflnffgohbbhiaaGreatDoor
/- THE CELL 'sum', in the pinned program and in every row, IS THE sha256 OF THE DUMP (.gsa) THAT YtflnffgohbbhiaaGreatDoorProg.lean LOADS. Nothing in Lean hashes anything: it is a label: what it is worth is what the hold of that sum in a sandbox is worth. -/
noncomputable def Tryz.pinned : Pinned := { name := "ytflnffgohbbhiaagreatdoor", sum := "319b8f7d017d9cff90f079eaa172aeeb77da985e6c382644c41ff1312b459a0c", checked := Tryz.checked }
namespace Rows
def none {H : Type} : Left H := { results := [], args := [] }

/- WHAT THE LISTED PACKAGE-LEVEL VARIABLES READ AS WHEN THE CALL BEGINS. Each datum BY PROGRAM (the guide's laid-datum.mjs) off the statement by which the dump's own 'gosem.cut.vars' lays the variable. In a bare row this is a premise. The card (YtflnffgohbbhiaaGreatDoorCards.lean) ties it to the program's text. -/
def laid_unicode_utf8_acceptRanges {H : Type} : DataW H := .agg [.agg [.lit (.int .u8 128), .lit (.int .u8 191)], .agg [.lit (.int .u8 160), .lit (.int .u8 191)], .agg [.lit (.int .u8 128), .lit (.int .u8 159)], .agg [.lit (.int .u8 144), .lit (.int .u8 191)], .agg [.lit (.int .u8 128), .lit (.int .u8 143)], .agg [.lit (.int .u8 0), .lit (.int .u8 0)], .agg [.lit (.int .u8 0), .lit (.int .u8 0)], .agg [.lit (.int .u8 0), .lit (.int .u8 0)], .agg [.lit (.int .u8 0), .lit (.int .u8 0)], .agg [.lit (.int .u8 0), .lit (.int .u8 0)], .agg [.lit (.int .u8 0), .lit (.int .u8 0)], .agg [.lit (.int .u8 0), .lit (.int .u8 0)], .agg [.lit (.int .u8 0), .lit (.int .u8 0)], .agg [.lit (.int .u8 0), .lit (.int .u8 0)], .agg [.lit (.int .u8 0), .lit (.int .u8 0)], .agg [.lit (.int .u8 0), .lit (.int .u8 0)]]
/-- One of Go's own tables, pinned by name: the form's constant. -/
def laid_unicode_utf8_first : DataW Unit := Go.Pinned.utf8First

/-- 'lispproverlaw5.ReaderTokens': WHATEVER THE INPUT: true; the input reads as it did. -/
def readerTokensSpec : ChangeSpec := { name := "readerTokens", fn := fun _ => fun
  | [d] => { results := [.lit (.bool true)], args := [d] }
  | _ => none }
def readerTokensRow : OpenClaim := { program := "ytflnffgohbbhiaagreatdoor", sum := "319b8f7d017d9cff90f079eaa172aeeb77da985e6c382644c41ff1312b459a0c", func := "lispprover/lispproverlaw5.ReaderTokens", spec := "readerTokens", inPlace := ["internal/bytealg.abigen_runtime_cmpstring", "internal/bytealg.IndexByteString", "internal/bytealg.IndexString"], unfollowed := true, recurses := true, named := ["internal/bytealg.MaxLen", "unicode/utf8.first", "unicode/utf8.acceptRanges"], apart := false, laid := [("unicode/utf8.acceptRanges", laid_unicode_utf8_acceptRanges), ("unicode/utf8.first", laid_unicode_utf8_first)] }
def ReaderTokensSaid : Prop := readerTokensRow.holds Tryz.pinned (OpenSpec.ofChange readerTokensSpec)

/-- ITS FALSE NEIGHBOUR: 'it returns false'. Refute it at one input. -/
def readerTokensWrong : ChangeSpec := { name := "readerTokens", fn := fun _ => fun
  | [d] => { results := [.lit (.bool false)], args := [d] }
  | _ => none }
def ReaderTokensWrongFalsely : Prop := readerTokensRow.holds Tryz.pinned (OpenSpec.ofChange readerTokensWrong)

/-- 'lispproverlaw5.ReaderPieces': WHATEVER THE INPUT: true; the input reads as it did. -/
def readerPiecesSpec : ChangeSpec := { name := "readerPieces", fn := fun _ => fun
  | [d] => { results := [.lit (.bool true)], args := [d] }
  | _ => none }
def readerPiecesRow : OpenClaim := { program := "ytflnffgohbbhiaagreatdoor", sum := "319b8f7d017d9cff90f079eaa172aeeb77da985e6c382644c41ff1312b459a0c", func := "lispprover/lispproverlaw5.ReaderPieces", spec := "readerPieces", inPlace := ["internal/bytealg.abigen_runtime_cmpstring", "internal/bytealg.IndexByteString", "internal/bytealg.IndexString"], unfollowed := true, recurses := true, named := ["internal/bytealg.MaxLen", "unicode/utf8.first", "unicode/utf8.acceptRanges"], apart := false, laid := [("unicode/utf8.acceptRanges", laid_unicode_utf8_acceptRanges), ("unicode/utf8.first", laid_unicode_utf8_first)] }
def ReaderPiecesSaid : Prop := readerPiecesRow.holds Tryz.pinned (OpenSpec.ofChange readerPiecesSpec)

/-- ITS FALSE NEIGHBOUR: 'it returns false'. Refute it at one input. -/
def readerPiecesWrong : ChangeSpec := { name := "readerPieces", fn := fun _ => fun
  | [d] => { results := [.lit (.bool false)], args := [d] }
  | _ => none }
def ReaderPiecesWrongFalsely : Prop := readerPiecesRow.holds Tryz.pinned (OpenSpec.ofChange readerPiecesWrong)

/-- 'lispproverlaw5.ReaderReads': WHATEVER THE INPUT: true; the input reads as it did. -/
def readerReadsSpec : ChangeSpec := { name := "readerReads", fn := fun _ => fun
  | [d1, d2] => { results := [.lit (.bool true)], args := [d1, d2] }
  | _ => none }
def readerReadsRow : OpenClaim := { program := "ytflnffgohbbhiaagreatdoor", sum := "319b8f7d017d9cff90f079eaa172aeeb77da985e6c382644c41ff1312b459a0c", func := "lispprover/lispproverlaw5.ReaderReads", spec := "readerReads", inPlace := ["internal/bytealg.abigen_runtime_cmpstring", "internal/bytealg.IndexByteString", "internal/bytealg.IndexString"], unfollowed := true, recurses := true, named := ["internal/bytealg.MaxLen", "unicode/utf8.first", "unicode/utf8.acceptRanges"], apart := false, laid := [("unicode/utf8.acceptRanges", laid_unicode_utf8_acceptRanges), ("unicode/utf8.first", laid_unicode_utf8_first)] }
def ReaderReadsSaid : Prop := readerReadsRow.holds Tryz.pinned (OpenSpec.ofChange readerReadsSpec)

/-- ITS FALSE NEIGHBOUR: 'it returns false'. Refute it at one input. -/
def readerReadsWrong : ChangeSpec := { name := "readerReads", fn := fun _ => fun
  | [d1, d2] => { results := [.lit (.bool false)], args := [d1, d2] }
  | _ => none }
def ReaderReadsWrongFalsely : Prop := readerReadsRow.holds Tryz.pinned (OpenSpec.ofChange readerReadsWrong)

/-- 'lispproverlaw5.ReaderOnes': WHATEVER THE INPUT: true; the input reads as it did. -/
def readerOnesSpec : ChangeSpec := { name := "readerOnes", fn := fun _ => fun
  | [d] => { results := [.lit (.bool true)], args := [d] }
  | _ => none }
def readerOnesRow : OpenClaim := { program := "ytflnffgohbbhiaagreatdoor", sum := "319b8f7d017d9cff90f079eaa172aeeb77da985e6c382644c41ff1312b459a0c", func := "lispprover/lispproverlaw5.ReaderOnes", spec := "readerOnes", inPlace := ["internal/bytealg.abigen_runtime_cmpstring", "internal/bytealg.IndexByteString", "internal/bytealg.IndexString"], unfollowed := true, recurses := true, named := ["internal/bytealg.MaxLen", "unicode/utf8.first", "unicode/utf8.acceptRanges"], apart := false, laid := [("unicode/utf8.acceptRanges", laid_unicode_utf8_acceptRanges), ("unicode/utf8.first", laid_unicode_utf8_first)] }
def ReaderOnesSaid : Prop := readerOnesRow.holds Tryz.pinned (OpenSpec.ofChange readerOnesSpec)

/-- ITS FALSE NEIGHBOUR: 'it returns false'. Refute it at one input. -/
def readerOnesWrong : ChangeSpec := { name := "readerOnes", fn := fun _ => fun
  | [d] => { results := [.lit (.bool false)], args := [d] }
  | _ => none }
def ReaderOnesWrongFalsely : Prop := readerOnesRow.holds Tryz.pinned (OpenSpec.ofChange readerOnesWrong)

/-- 'lispproverlaw5.ReaderDeep': WHATEVER THE INPUT: true; the input reads as it did. -/
def readerDeepSpec : ChangeSpec := { name := "readerDeep", fn := fun _ => fun
  | [d1, d2] => { results := [.lit (.bool true)], args := [d1, d2] }
  | _ => none }
def readerDeepRow : OpenClaim := { program := "ytflnffgohbbhiaagreatdoor", sum := "319b8f7d017d9cff90f079eaa172aeeb77da985e6c382644c41ff1312b459a0c", func := "lispprover/lispproverlaw5.ReaderDeep", spec := "readerDeep", inPlace := ["internal/bytealg.abigen_runtime_cmpstring", "internal/bytealg.IndexByteString", "internal/bytealg.IndexString"], unfollowed := true, recurses := true, named := ["internal/bytealg.MaxLen", "unicode/utf8.first", "unicode/utf8.acceptRanges"], apart := false, laid := [("unicode/utf8.acceptRanges", laid_unicode_utf8_acceptRanges), ("unicode/utf8.first", laid_unicode_utf8_first)] }
def ReaderDeepSaid : Prop := readerDeepRow.holds Tryz.pinned (OpenSpec.ofChange readerDeepSpec)

/-- ITS FALSE NEIGHBOUR: 'it returns false'. Refute it at one input. -/
def readerDeepWrong : ChangeSpec := { name := "readerDeep", fn := fun _ => fun
  | [d1, d2] => { results := [.lit (.bool false)], args := [d1, d2] }
  | _ => none }
def ReaderDeepWrongFalsely : Prop := readerDeepRow.holds Tryz.pinned (OpenSpec.ofChange readerDeepWrong)

/-- 'lispproverlaw5.ReaderLong': WHATEVER THE INPUT: true; the input reads as it did. -/
def readerLongSpec : ChangeSpec := { name := "readerLong", fn := fun _ => fun
  | [d1, d2] => { results := [.lit (.bool true)], args := [d1, d2] }
  | _ => none }
def readerLongRow : OpenClaim := { program := "ytflnffgohbbhiaagreatdoor", sum := "319b8f7d017d9cff90f079eaa172aeeb77da985e6c382644c41ff1312b459a0c", func := "lispprover/lispproverlaw5.ReaderLong", spec := "readerLong", inPlace := ["internal/bytealg.abigen_runtime_cmpstring", "internal/bytealg.IndexByteString", "internal/bytealg.IndexString"], unfollowed := true, recurses := true, named := ["internal/bytealg.MaxLen", "unicode/utf8.first", "unicode/utf8.acceptRanges"], apart := false, laid := [("unicode/utf8.acceptRanges", laid_unicode_utf8_acceptRanges), ("unicode/utf8.first", laid_unicode_utf8_first)] }
def ReaderLongSaid : Prop := readerLongRow.holds Tryz.pinned (OpenSpec.ofChange readerLongSpec)

/-- ITS FALSE NEIGHBOUR: 'it returns false'. Refute it at one input. -/
def readerLongWrong : ChangeSpec := { name := "readerLong", fn := fun _ => fun
  | [d1, d2] => { results := [.lit (.bool false)], args := [d1, d2] }
  | _ => none }
def ReaderLongWrongFalsely : Prop := readerLongRow.holds Tryz.pinned (OpenSpec.ofChange readerLongWrong)

/-- 'lispproverlaw5.ReaderPrefix': WHATEVER THE INPUT: true; the input reads as it did. -/
def readerPrefixSpec : ChangeSpec := { name := "readerPrefix", fn := fun _ => fun
  | [d1, d2] => { results := [.lit (.bool true)], args := [d1, d2] }
  | _ => none }
def readerPrefixRow : OpenClaim := { program := "ytflnffgohbbhiaagreatdoor", sum := "319b8f7d017d9cff90f079eaa172aeeb77da985e6c382644c41ff1312b459a0c", func := "lispprover/lispproverlaw5.ReaderPrefix", spec := "readerPrefix", inPlace := ["internal/bytealg.abigen_runtime_cmpstring", "internal/bytealg.IndexByteString", "internal/bytealg.IndexString"], unfollowed := true, recurses := true, named := ["internal/bytealg.MaxLen", "unicode/utf8.first", "unicode/utf8.acceptRanges"], apart := false, laid := [("unicode/utf8.acceptRanges", laid_unicode_utf8_acceptRanges), ("unicode/utf8.first", laid_unicode_utf8_first)] }
def ReaderPrefixSaid : Prop := readerPrefixRow.holds Tryz.pinned (OpenSpec.ofChange readerPrefixSpec)

/-- ITS FALSE NEIGHBOUR: 'it returns false'. Refute it at one input. -/
def readerPrefixWrong : ChangeSpec := { name := "readerPrefix", fn := fun _ => fun
  | [d1, d2] => { results := [.lit (.bool false)], args := [d1, d2] }
  | _ => none }
def ReaderPrefixWrongFalsely : Prop := readerPrefixRow.holds Tryz.pinned (OpenSpec.ofChange readerPrefixWrong)

/- THE SECOND FORM. 'bulk': how many values and letters a reading holds, each counted each time it is reached (what is shared counts as often as it is met; a slice's spare places count too). A statement '..UptoSaid' is the law's where the arguments, and the package variables that the reading takes, are together of bulk at most 1048576: NARROWER than '..Said'. Prove '..Said' where nothing that the law and all that it calls make is longer than what came in: it says more and counts as full. Else prove '..UptoSaid'. A law counts once. -/
mutual
def uptoBulk {H : Type} : DataW H → Nat
  | .lit (.string bytes) => bytes.length + 1
  | .lit _ => 1
  | .nil => 1
  | .ptr d => uptoBulk d + 1
  | .slice elems spare => uptoBulkAll elems + uptoBulkAll spare + 1
  | .agg parts => uptoBulkAll parts + 1
  | .iface _ d => uptoBulk d + 1
  | .map entries => uptoBulkEntries entries + 1
  | .held _ => 1
def uptoBulkAll {H : Type} : List (DataW H) → Nat
  | [] => 0
  | d :: r => uptoBulk d + uptoBulkAll r
def uptoBulkEntries {H : Type} : List (Lit × DataW H) → Nat
  | [] => 0
  | x :: r => uptoBulkEntry x + uptoBulkEntries r
def uptoBulkEntry {H : Type} : Lit × DataW H → Nat
  | (.string bytes, d) => bytes.length + uptoBulk d + 1
  | (_, d) => uptoBulk d + 1
 end
def uptoSmall : (H : Type) → List (DataW H) → Bool := fun _ ds => decide (uptoBulkAll ds ≤ 1048576)
def OpenSpec.upto (s : _root_.Go.ChangeSpec) : _root_.Go.OpenSpec := { _root_.Go.OpenSpec.ofChange s with cond := some uptoSmall }

/-- 'lispproverlaw5.ReaderTokens', WHERE WHAT IT READS IS OF BULK AT MOST 1048576: true; the input reads as it did. -/
def readerTokensUptoRow : OpenClaim := { program := "ytflnffgohbbhiaagreatdoor", sum := "319b8f7d017d9cff90f079eaa172aeeb77da985e6c382644c41ff1312b459a0c", func := "lispprover/lispproverlaw5.ReaderTokens", spec := "readerTokens", inPlace := ["internal/bytealg.abigen_runtime_cmpstring", "internal/bytealg.IndexByteString", "internal/bytealg.IndexString"], unfollowed := true, recurses := true, named := ["internal/bytealg.MaxLen", "unicode/utf8.first", "unicode/utf8.acceptRanges"], apart := false, laid := [("unicode/utf8.acceptRanges", laid_unicode_utf8_acceptRanges), ("unicode/utf8.first", laid_unicode_utf8_first)], narrowed := true }
def ReaderTokensUptoSaid : Prop := readerTokensUptoRow.holds Tryz.pinned (OpenSpec.upto readerTokensSpec)

/-- 'lispproverlaw5.ReaderPieces', WHERE WHAT IT READS IS OF BULK AT MOST 1048576: true; the input reads as it did. -/
def readerPiecesUptoRow : OpenClaim := { program := "ytflnffgohbbhiaagreatdoor", sum := "319b8f7d017d9cff90f079eaa172aeeb77da985e6c382644c41ff1312b459a0c", func := "lispprover/lispproverlaw5.ReaderPieces", spec := "readerPieces", inPlace := ["internal/bytealg.abigen_runtime_cmpstring", "internal/bytealg.IndexByteString", "internal/bytealg.IndexString"], unfollowed := true, recurses := true, named := ["internal/bytealg.MaxLen", "unicode/utf8.first", "unicode/utf8.acceptRanges"], apart := false, laid := [("unicode/utf8.acceptRanges", laid_unicode_utf8_acceptRanges), ("unicode/utf8.first", laid_unicode_utf8_first)], narrowed := true }
def ReaderPiecesUptoSaid : Prop := readerPiecesUptoRow.holds Tryz.pinned (OpenSpec.upto readerPiecesSpec)

/-- 'lispproverlaw5.ReaderReads', WHERE WHAT IT READS IS OF BULK AT MOST 1048576: true; the input reads as it did. -/
def readerReadsUptoRow : OpenClaim := { program := "ytflnffgohbbhiaagreatdoor", sum := "319b8f7d017d9cff90f079eaa172aeeb77da985e6c382644c41ff1312b459a0c", func := "lispprover/lispproverlaw5.ReaderReads", spec := "readerReads", inPlace := ["internal/bytealg.abigen_runtime_cmpstring", "internal/bytealg.IndexByteString", "internal/bytealg.IndexString"], unfollowed := true, recurses := true, named := ["internal/bytealg.MaxLen", "unicode/utf8.first", "unicode/utf8.acceptRanges"], apart := false, laid := [("unicode/utf8.acceptRanges", laid_unicode_utf8_acceptRanges), ("unicode/utf8.first", laid_unicode_utf8_first)], narrowed := true }
def ReaderReadsUptoSaid : Prop := readerReadsUptoRow.holds Tryz.pinned (OpenSpec.upto readerReadsSpec)

/-- 'lispproverlaw5.ReaderOnes', WHERE WHAT IT READS IS OF BULK AT MOST 1048576: true; the input reads as it did. -/
def readerOnesUptoRow : OpenClaim := { program := "ytflnffgohbbhiaagreatdoor", sum := "319b8f7d017d9cff90f079eaa172aeeb77da985e6c382644c41ff1312b459a0c", func := "lispprover/lispproverlaw5.ReaderOnes", spec := "readerOnes", inPlace := ["internal/bytealg.abigen_runtime_cmpstring", "internal/bytealg.IndexByteString", "internal/bytealg.IndexString"], unfollowed := true, recurses := true, named := ["internal/bytealg.MaxLen", "unicode/utf8.first", "unicode/utf8.acceptRanges"], apart := false, laid := [("unicode/utf8.acceptRanges", laid_unicode_utf8_acceptRanges), ("unicode/utf8.first", laid_unicode_utf8_first)], narrowed := true }
def ReaderOnesUptoSaid : Prop := readerOnesUptoRow.holds Tryz.pinned (OpenSpec.upto readerOnesSpec)

/-- 'lispproverlaw5.ReaderDeep', WHERE WHAT IT READS IS OF BULK AT MOST 1048576: true; the input reads as it did. -/
def readerDeepUptoRow : OpenClaim := { program := "ytflnffgohbbhiaagreatdoor", sum := "319b8f7d017d9cff90f079eaa172aeeb77da985e6c382644c41ff1312b459a0c", func := "lispprover/lispproverlaw5.ReaderDeep", spec := "readerDeep", inPlace := ["internal/bytealg.abigen_runtime_cmpstring", "internal/bytealg.IndexByteString", "internal/bytealg.IndexString"], unfollowed := true, recurses := true, named := ["internal/bytealg.MaxLen", "unicode/utf8.first", "unicode/utf8.acceptRanges"], apart := false, laid := [("unicode/utf8.acceptRanges", laid_unicode_utf8_acceptRanges), ("unicode/utf8.first", laid_unicode_utf8_first)], narrowed := true }
def ReaderDeepUptoSaid : Prop := readerDeepUptoRow.holds Tryz.pinned (OpenSpec.upto readerDeepSpec)

/-- 'lispproverlaw5.ReaderLong', WHERE WHAT IT READS IS OF BULK AT MOST 1048576: true; the input reads as it did. -/
def readerLongUptoRow : OpenClaim := { program := "ytflnffgohbbhiaagreatdoor", sum := "319b8f7d017d9cff90f079eaa172aeeb77da985e6c382644c41ff1312b459a0c", func := "lispprover/lispproverlaw5.ReaderLong", spec := "readerLong", inPlace := ["internal/bytealg.abigen_runtime_cmpstring", "internal/bytealg.IndexByteString", "internal/bytealg.IndexString"], unfollowed := true, recurses := true, named := ["internal/bytealg.MaxLen", "unicode/utf8.first", "unicode/utf8.acceptRanges"], apart := false, laid := [("unicode/utf8.acceptRanges", laid_unicode_utf8_acceptRanges), ("unicode/utf8.first", laid_unicode_utf8_first)], narrowed := true }
def ReaderLongUptoSaid : Prop := readerLongUptoRow.holds Tryz.pinned (OpenSpec.upto readerLongSpec)

/-- 'lispproverlaw5.ReaderPrefix', WHERE WHAT IT READS IS OF BULK AT MOST 1048576: true; the input reads as it did. -/
def readerPrefixUptoRow : OpenClaim := { program := "ytflnffgohbbhiaagreatdoor", sum := "319b8f7d017d9cff90f079eaa172aeeb77da985e6c382644c41ff1312b459a0c", func := "lispprover/lispproverlaw5.ReaderPrefix", spec := "readerPrefix", inPlace := ["internal/bytealg.abigen_runtime_cmpstring", "internal/bytealg.IndexByteString", "internal/bytealg.IndexString"], unfollowed := true, recurses := true, named := ["internal/bytealg.MaxLen", "unicode/utf8.first", "unicode/utf8.acceptRanges"], apart := false, laid := [("unicode/utf8.acceptRanges", laid_unicode_utf8_acceptRanges), ("unicode/utf8.first", laid_unicode_utf8_first)], narrowed := true }
def ReaderPrefixUptoSaid : Prop := readerPrefixUptoRow.holds Tryz.pinned (OpenSpec.upto readerPrefixSpec)

end Rows
end Go.Proofs.YtflnffgohbbhiaaGreatDoor
