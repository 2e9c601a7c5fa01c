/-
  NARROWER THAN 'FOR EVERY INPUT', by the rows' own cells (each row's printed sentence says how): TermMade: loops, laid · TermLists: loops, laid · TermSubstitutes: loops, laid · TermComposes: loops, laid · TermReplaces: loops, laid · TermPaths: loops, laid · TermInstances: loops, laid · TermQuotes: loops, laid · TermUnquotes: loops, laid.
  DERIVED. THE GIVEN ROWS OF THIS SEAT. 9 by the template 'for every input the law returns true; each argument reads behind the call as it read before'; 0 by the template 'total and deterministic' (their statements: YtinjhnnpbejccaaGreatDoorTotals.lean).
  GIVEN WITH THE SEED: the statements are not yours to turn. If you find one false, say at which input.
  Laid BY PROGRAM, IN A SANDBOX (cutbox-rows.mjs): the forced cells as the released guide's own fill.sh prints them over the translation bbf0feb67979ef2f… (all of the seat's roots in one cut). By AI agents, Wed Nov 11 2026. No macro, syntax, notation, axiom, sorry.
-/
import Derived.Test.YtinjhnnpbejccaaGreatDoorChecked
import GoSem.Claim
import GoSem.ClaimJoined
import GoSem.ClaimMapViews
import Derived.JoinedTies
import Derived.KernelRfl
namespace Go.Proofs.YtinjhnnpbejccaaGreatDoor
/- THE CELL 'sum', in the pinned program and in every row, IS THE sha256 OF THE DUMP (.gsa) THAT YtinjhnnpbejccaaGreatDoorProg.lean LOADS. Nothing in Lean hashes anything: it is a label: what it is worth is what the hold of that sum in a sandbox is worth. -/
noncomputable def Tryz.pinned : Pinned := { name := "ytinjhnnpbejccaagreatdoor", sum := "bbf0feb67979ef2fa4d7353980a1b9ab5646312bc3acaa9927131be3189176b8", checked := Tryz.checked }
namespace Rows
def none {H : Type} : Left H := { results := [], args := [] }

/- WHAT THE LISTED PACKAGE-LEVEL VARIABLES READ AS WHEN THE CALL BEGINS. Each datum BY PROGRAM (the guide's laid-datum.mjs) off the statement by which the dump's own 'gosem.cut.vars' lays the variable. In a bare row this is a premise. The card (YtinjhnnpbejccaaGreatDoorCards.lean) ties it to the program's text. -/
def laid_math_bits_deBruijn32tab {H : Type} : DataW H := .agg [.lit (.int .u8 0), .lit (.int .u8 1), .lit (.int .u8 28), .lit (.int .u8 2), .lit (.int .u8 29), .lit (.int .u8 14), .lit (.int .u8 24), .lit (.int .u8 3), .lit (.int .u8 30), .lit (.int .u8 22), .lit (.int .u8 20), .lit (.int .u8 15), .lit (.int .u8 25), .lit (.int .u8 17), .lit (.int .u8 4), .lit (.int .u8 8), .lit (.int .u8 31), .lit (.int .u8 27), .lit (.int .u8 13), .lit (.int .u8 23), .lit (.int .u8 21), .lit (.int .u8 19), .lit (.int .u8 16), .lit (.int .u8 7), .lit (.int .u8 26), .lit (.int .u8 12), .lit (.int .u8 18), .lit (.int .u8 6), .lit (.int .u8 11), .lit (.int .u8 5), .lit (.int .u8 10), .lit (.int .u8 9)]
def laid_math_bits_deBruijn64tab {H : Type} : DataW H := .agg [.lit (.int .u8 0), .lit (.int .u8 1), .lit (.int .u8 56), .lit (.int .u8 2), .lit (.int .u8 57), .lit (.int .u8 49), .lit (.int .u8 28), .lit (.int .u8 3), .lit (.int .u8 61), .lit (.int .u8 58), .lit (.int .u8 42), .lit (.int .u8 50), .lit (.int .u8 38), .lit (.int .u8 29), .lit (.int .u8 17), .lit (.int .u8 4), .lit (.int .u8 62), .lit (.int .u8 47), .lit (.int .u8 59), .lit (.int .u8 36), .lit (.int .u8 45), .lit (.int .u8 43), .lit (.int .u8 51), .lit (.int .u8 22), .lit (.int .u8 53), .lit (.int .u8 39), .lit (.int .u8 33), .lit (.int .u8 30), .lit (.int .u8 24), .lit (.int .u8 18), .lit (.int .u8 12), .lit (.int .u8 5), .lit (.int .u8 63), .lit (.int .u8 55), .lit (.int .u8 48), .lit (.int .u8 27), .lit (.int .u8 60), .lit (.int .u8 41), .lit (.int .u8 37), .lit (.int .u8 16), .lit (.int .u8 46), .lit (.int .u8 35), .lit (.int .u8 44), .lit (.int .u8 21), .lit (.int .u8 52), .lit (.int .u8 32), .lit (.int .u8 23), .lit (.int .u8 11), .lit (.int .u8 54), .lit (.int .u8 26), .lit (.int .u8 40), .lit (.int .u8 15), .lit (.int .u8 34), .lit (.int .u8 20), .lit (.int .u8 31), .lit (.int .u8 10), .lit (.int .u8 25), .lit (.int .u8 14), .lit (.int .u8 19), .lit (.int .u8 9), .lit (.int .u8 13), .lit (.int .u8 8), .lit (.int .u8 7), .lit (.int .u8 6)]
def laid_internal_strconv_uint64pow10 {H : Type} : DataW H := .agg [.lit (.int .u64 1), .lit (.int .u64 10), .lit (.int .u64 100), .lit (.int .u64 1000), .lit (.int .u64 10000), .lit (.int .u64 100000), .lit (.int .u64 1000000), .lit (.int .u64 10000000), .lit (.int .u64 100000000), .lit (.int .u64 1000000000), .lit (.int .u64 10000000000), .lit (.int .u64 100000000000), .lit (.int .u64 1000000000000), .lit (.int .u64 10000000000000), .lit (.int .u64 100000000000000), .lit (.int .u64 1000000000000000), .lit (.int .u64 10000000000000000), .lit (.int .u64 100000000000000000), .lit (.int .u64 1000000000000000000), .lit (.int .u64 10000000000000000000)]

/-- 'lispproverlaw8.TermMade': WHATEVER THE INPUT: true; the input reads as it did. -/
def termMadeSpec : ChangeSpec := { name := "termMade", fn := fun _ => fun
  | [d1, d2, d3, d4] => { results := [.lit (.bool true)], args := [d1, d2, d3, d4] }
  | _ => none }
def termMadeRow : OpenClaim := { program := "ytinjhnnpbejccaagreatdoor", sum := "bbf0feb67979ef2fa4d7353980a1b9ab5646312bc3acaa9927131be3189176b8", func := "lispprover/lispproverlaw8.TermMade", spec := "termMade", inPlace := ["internal/bytealg.abigen_runtime_cmpstring"], unfollowed := true, recurses := true, named := ["internal/strconv.uint64pow10", "math/bits.deBruijn32tab", "math/bits.deBruijn64tab"], loops := true, plainKeys := false, apart := false, laid := [("math/bits.deBruijn32tab", laid_math_bits_deBruijn32tab), ("math/bits.deBruijn64tab", laid_math_bits_deBruijn64tab), ("internal/strconv.uint64pow10", laid_internal_strconv_uint64pow10)] }
def TermMadeSaid : Prop := termMadeRow.holds Tryz.pinned (OpenSpec.ofChange termMadeSpec)

/-- ITS FALSE NEIGHBOUR: 'it returns false'. Refute it at one input. -/
def termMadeWrong : ChangeSpec := { name := "termMade", fn := fun _ => fun
  | [d1, d2, d3, d4] => { results := [.lit (.bool false)], args := [d1, d2, d3, d4] }
  | _ => none }
def TermMadeWrongFalsely : Prop := termMadeRow.holds Tryz.pinned (OpenSpec.ofChange termMadeWrong)

/-- 'lispproverlaw8.TermLists': WHATEVER THE INPUT: true; the input reads as it did. -/
def termListsSpec : ChangeSpec := { name := "termLists", fn := fun _ => fun
  | [d] => { results := [.lit (.bool true)], args := [d] }
  | _ => none }
def termListsRow : OpenClaim := { program := "ytinjhnnpbejccaagreatdoor", sum := "bbf0feb67979ef2fa4d7353980a1b9ab5646312bc3acaa9927131be3189176b8", func := "lispprover/lispproverlaw8.TermLists", spec := "termLists", inPlace := ["internal/bytealg.abigen_runtime_cmpstring"], unfollowed := true, recurses := true, named := ["internal/strconv.uint64pow10", "math/bits.deBruijn32tab", "math/bits.deBruijn64tab"], loops := true, plainKeys := false, apart := false, laid := [("math/bits.deBruijn32tab", laid_math_bits_deBruijn32tab), ("math/bits.deBruijn64tab", laid_math_bits_deBruijn64tab), ("internal/strconv.uint64pow10", laid_internal_strconv_uint64pow10)] }
def TermListsSaid : Prop := termListsRow.holds Tryz.pinned (OpenSpec.ofChange termListsSpec)

/-- ITS FALSE NEIGHBOUR: 'it returns false'. Refute it at one input. -/
def termListsWrong : ChangeSpec := { name := "termLists", fn := fun _ => fun
  | [d] => { results := [.lit (.bool false)], args := [d] }
  | _ => none }
def TermListsWrongFalsely : Prop := termListsRow.holds Tryz.pinned (OpenSpec.ofChange termListsWrong)

/-- 'lispproverlaw8.TermSubstitutes': WHATEVER THE INPUT: true; the input reads as it did. -/
def termSubstitutesSpec : ChangeSpec := { name := "termSubstitutes", fn := fun _ => fun
  | [d1, d2] => { results := [.lit (.bool true)], args := [d1, d2] }
  | _ => none }
def termSubstitutesRow : OpenClaim := { program := "ytinjhnnpbejccaagreatdoor", sum := "bbf0feb67979ef2fa4d7353980a1b9ab5646312bc3acaa9927131be3189176b8", func := "lispprover/lispproverlaw8.TermSubstitutes", spec := "termSubstitutes", inPlace := ["internal/bytealg.abigen_runtime_cmpstring"], unfollowed := true, recurses := true, named := ["internal/strconv.uint64pow10", "math/bits.deBruijn32tab", "math/bits.deBruijn64tab"], loops := true, plainKeys := false, apart := false, laid := [("math/bits.deBruijn32tab", laid_math_bits_deBruijn32tab), ("math/bits.deBruijn64tab", laid_math_bits_deBruijn64tab), ("internal/strconv.uint64pow10", laid_internal_strconv_uint64pow10)] }
def TermSubstitutesSaid : Prop := termSubstitutesRow.holds Tryz.pinned (OpenSpec.ofChange termSubstitutesSpec)

/-- ITS FALSE NEIGHBOUR: 'it returns false'. Refute it at one input. -/
def termSubstitutesWrong : ChangeSpec := { name := "termSubstitutes", fn := fun _ => fun
  | [d1, d2] => { results := [.lit (.bool false)], args := [d1, d2] }
  | _ => none }
def TermSubstitutesWrongFalsely : Prop := termSubstitutesRow.holds Tryz.pinned (OpenSpec.ofChange termSubstitutesWrong)

/-- 'lispproverlaw8.TermComposes': WHATEVER THE INPUT: true; the input reads as it did. -/
def termComposesSpec : ChangeSpec := { name := "termComposes", fn := fun _ => fun
  | [d1, d2, d3] => { results := [.lit (.bool true)], args := [d1, d2, d3] }
  | _ => none }
def termComposesRow : OpenClaim := { program := "ytinjhnnpbejccaagreatdoor", sum := "bbf0feb67979ef2fa4d7353980a1b9ab5646312bc3acaa9927131be3189176b8", func := "lispprover/lispproverlaw8.TermComposes", spec := "termComposes", inPlace := ["internal/bytealg.abigen_runtime_cmpstring"], unfollowed := true, recurses := true, named := ["internal/strconv.uint64pow10", "math/bits.deBruijn32tab", "math/bits.deBruijn64tab"], loops := true, plainKeys := false, apart := false, laid := [("math/bits.deBruijn32tab", laid_math_bits_deBruijn32tab), ("math/bits.deBruijn64tab", laid_math_bits_deBruijn64tab), ("internal/strconv.uint64pow10", laid_internal_strconv_uint64pow10)] }
def TermComposesSaid : Prop := termComposesRow.holds Tryz.pinned (OpenSpec.ofChange termComposesSpec)

/-- ITS FALSE NEIGHBOUR: 'it returns false'. Refute it at one input. -/
def termComposesWrong : ChangeSpec := { name := "termComposes", fn := fun _ => fun
  | [d1, d2, d3] => { results := [.lit (.bool false)], args := [d1, d2, d3] }
  | _ => none }
def TermComposesWrongFalsely : Prop := termComposesRow.holds Tryz.pinned (OpenSpec.ofChange termComposesWrong)

/-- 'lispproverlaw8.TermReplaces': WHATEVER THE INPUT: true; the input reads as it did. -/
def termReplacesSpec : ChangeSpec := { name := "termReplaces", fn := fun _ => fun
  | [d1, d2, d3] => { results := [.lit (.bool true)], args := [d1, d2, d3] }
  | _ => none }
def termReplacesRow : OpenClaim := { program := "ytinjhnnpbejccaagreatdoor", sum := "bbf0feb67979ef2fa4d7353980a1b9ab5646312bc3acaa9927131be3189176b8", func := "lispprover/lispproverlaw8.TermReplaces", spec := "termReplaces", inPlace := ["internal/bytealg.abigen_runtime_cmpstring"], unfollowed := true, recurses := true, named := ["internal/strconv.uint64pow10", "math/bits.deBruijn32tab", "math/bits.deBruijn64tab"], loops := true, plainKeys := false, apart := false, laid := [("math/bits.deBruijn32tab", laid_math_bits_deBruijn32tab), ("math/bits.deBruijn64tab", laid_math_bits_deBruijn64tab), ("internal/strconv.uint64pow10", laid_internal_strconv_uint64pow10)] }
def TermReplacesSaid : Prop := termReplacesRow.holds Tryz.pinned (OpenSpec.ofChange termReplacesSpec)

/-- ITS FALSE NEIGHBOUR: 'it returns false'. Refute it at one input. -/
def termReplacesWrong : ChangeSpec := { name := "termReplaces", fn := fun _ => fun
  | [d1, d2, d3] => { results := [.lit (.bool false)], args := [d1, d2, d3] }
  | _ => none }
def TermReplacesWrongFalsely : Prop := termReplacesRow.holds Tryz.pinned (OpenSpec.ofChange termReplacesWrong)

/-- 'lispproverlaw8.TermPaths': WHATEVER THE INPUT: true; the input reads as it did. -/
def termPathsSpec : ChangeSpec := { name := "termPaths", fn := fun _ => fun
  | [d1, d2, d3] => { results := [.lit (.bool true)], args := [d1, d2, d3] }
  | _ => none }
def termPathsRow : OpenClaim := { program := "ytinjhnnpbejccaagreatdoor", sum := "bbf0feb67979ef2fa4d7353980a1b9ab5646312bc3acaa9927131be3189176b8", func := "lispprover/lispproverlaw8.TermPaths", spec := "termPaths", inPlace := ["internal/bytealg.abigen_runtime_cmpstring"], unfollowed := true, recurses := true, named := ["internal/strconv.uint64pow10", "math/bits.deBruijn32tab", "math/bits.deBruijn64tab"], loops := true, plainKeys := false, apart := false, laid := [("math/bits.deBruijn32tab", laid_math_bits_deBruijn32tab), ("math/bits.deBruijn64tab", laid_math_bits_deBruijn64tab), ("internal/strconv.uint64pow10", laid_internal_strconv_uint64pow10)] }
def TermPathsSaid : Prop := termPathsRow.holds Tryz.pinned (OpenSpec.ofChange termPathsSpec)

/-- ITS FALSE NEIGHBOUR: 'it returns false'. Refute it at one input. -/
def termPathsWrong : ChangeSpec := { name := "termPaths", fn := fun _ => fun
  | [d1, d2, d3] => { results := [.lit (.bool false)], args := [d1, d2, d3] }
  | _ => none }
def TermPathsWrongFalsely : Prop := termPathsRow.holds Tryz.pinned (OpenSpec.ofChange termPathsWrong)

/-- 'lispproverlaw8.TermInstances': WHATEVER THE INPUT: true; the input reads as it did. -/
def termInstancesSpec : ChangeSpec := { name := "termInstances", fn := fun _ => fun
  | [d1, d2] => { results := [.lit (.bool true)], args := [d1, d2] }
  | _ => none }
def termInstancesRow : OpenClaim := { program := "ytinjhnnpbejccaagreatdoor", sum := "bbf0feb67979ef2fa4d7353980a1b9ab5646312bc3acaa9927131be3189176b8", func := "lispprover/lispproverlaw8.TermInstances", spec := "termInstances", inPlace := ["internal/bytealg.abigen_runtime_cmpstring"], unfollowed := true, recurses := true, named := ["internal/strconv.uint64pow10", "math/bits.deBruijn32tab", "math/bits.deBruijn64tab"], loops := true, plainKeys := false, apart := false, laid := [("math/bits.deBruijn32tab", laid_math_bits_deBruijn32tab), ("math/bits.deBruijn64tab", laid_math_bits_deBruijn64tab), ("internal/strconv.uint64pow10", laid_internal_strconv_uint64pow10)] }
def TermInstancesSaid : Prop := termInstancesRow.holds Tryz.pinned (OpenSpec.ofChange termInstancesSpec)

/-- ITS FALSE NEIGHBOUR: 'it returns false'. Refute it at one input. -/
def termInstancesWrong : ChangeSpec := { name := "termInstances", fn := fun _ => fun
  | [d1, d2] => { results := [.lit (.bool false)], args := [d1, d2] }
  | _ => none }
def TermInstancesWrongFalsely : Prop := termInstancesRow.holds Tryz.pinned (OpenSpec.ofChange termInstancesWrong)

/-- 'lispproverlaw8.TermQuotes': WHATEVER THE INPUT: true; the input reads as it did. -/
def termQuotesSpec : ChangeSpec := { name := "termQuotes", fn := fun _ => fun
  | [d] => { results := [.lit (.bool true)], args := [d] }
  | _ => none }
def termQuotesRow : OpenClaim := { program := "ytinjhnnpbejccaagreatdoor", sum := "bbf0feb67979ef2fa4d7353980a1b9ab5646312bc3acaa9927131be3189176b8", func := "lispprover/lispproverlaw8.TermQuotes", spec := "termQuotes", inPlace := ["internal/bytealg.abigen_runtime_cmpstring"], unfollowed := true, recurses := true, named := ["internal/strconv.uint64pow10", "math/bits.deBruijn32tab", "math/bits.deBruijn64tab"], loops := true, plainKeys := false, apart := false, laid := [("math/bits.deBruijn32tab", laid_math_bits_deBruijn32tab), ("math/bits.deBruijn64tab", laid_math_bits_deBruijn64tab), ("internal/strconv.uint64pow10", laid_internal_strconv_uint64pow10)] }
def TermQuotesSaid : Prop := termQuotesRow.holds Tryz.pinned (OpenSpec.ofChange termQuotesSpec)

/-- ITS FALSE NEIGHBOUR: 'it returns false'. Refute it at one input. -/
def termQuotesWrong : ChangeSpec := { name := "termQuotes", fn := fun _ => fun
  | [d] => { results := [.lit (.bool false)], args := [d] }
  | _ => none }
def TermQuotesWrongFalsely : Prop := termQuotesRow.holds Tryz.pinned (OpenSpec.ofChange termQuotesWrong)

/-- 'lispproverlaw8.TermUnquotes': WHATEVER THE INPUT: true; the input reads as it did. -/
def termUnquotesSpec : ChangeSpec := { name := "termUnquotes", fn := fun _ => fun
  | [d] => { results := [.lit (.bool true)], args := [d] }
  | _ => none }
def termUnquotesRow : OpenClaim := { program := "ytinjhnnpbejccaagreatdoor", sum := "bbf0feb67979ef2fa4d7353980a1b9ab5646312bc3acaa9927131be3189176b8", func := "lispprover/lispproverlaw8.TermUnquotes", spec := "termUnquotes", inPlace := ["internal/bytealg.abigen_runtime_cmpstring"], unfollowed := true, recurses := true, named := ["internal/strconv.uint64pow10", "math/bits.deBruijn32tab", "math/bits.deBruijn64tab"], loops := true, plainKeys := false, apart := false, laid := [("math/bits.deBruijn32tab", laid_math_bits_deBruijn32tab), ("math/bits.deBruijn64tab", laid_math_bits_deBruijn64tab), ("internal/strconv.uint64pow10", laid_internal_strconv_uint64pow10)] }
def TermUnquotesSaid : Prop := termUnquotesRow.holds Tryz.pinned (OpenSpec.ofChange termUnquotesSpec)

/-- ITS FALSE NEIGHBOUR: 'it returns false'. Refute it at one input. -/
def termUnquotesWrong : ChangeSpec := { name := "termUnquotes", fn := fun _ => fun
  | [d] => { results := [.lit (.bool false)], args := [d] }
  | _ => none }
def TermUnquotesWrongFalsely : Prop := termUnquotesRow.holds Tryz.pinned (OpenSpec.ofChange termUnquotesWrong)

/- THE SECOND FORM. 'bulk': how many values and letters a reading holds, each counted each time it is reached (what is shared counts as often as it is met; a slice's spare places count too). A statement '..UptoSaid' is the law's where the arguments, and the package variables that the reading takes, are together of bulk at most 1048576: NARROWER than '..Said'. Prove '..Said' where nothing that the law and all that it calls make is longer than what came in: it says more and counts as full. Else prove '..UptoSaid'. A law counts once. -/
mutual
def uptoBulk {H : Type} : DataW H → Nat
  | .lit (.string bytes) => bytes.length + 1
  | .lit _ => 1
  | .nil => 1
  | .ptr d => uptoBulk d + 1
  | .slice elems spare => uptoBulkAll elems + uptoBulkAll spare + 1
  | .agg parts => uptoBulkAll parts + 1
  | .iface _ d => uptoBulk d + 1
  | .map entries => uptoBulkEntries entries + 1
  | .held _ => 1
def uptoBulkAll {H : Type} : List (DataW H) → Nat
  | [] => 0
  | d :: r => uptoBulk d + uptoBulkAll r
def uptoBulkEntries {H : Type} : List (Lit × DataW H) → Nat
  | [] => 0
  | x :: r => uptoBulkEntry x + uptoBulkEntries r
def uptoBulkEntry {H : Type} : Lit × DataW H → Nat
  | (.string bytes, d) => bytes.length + uptoBulk d + 1
  | (_, d) => uptoBulk d + 1
 end
def uptoSmall : (H : Type) → List (DataW H) → Bool := fun _ ds => decide (uptoBulkAll ds ≤ 1048576)
def OpenSpec.upto (s : _root_.Go.ChangeSpec) : _root_.Go.OpenSpec := { _root_.Go.OpenSpec.ofChange s with cond := some uptoSmall }

/-- 'lispproverlaw8.TermMade', WHERE WHAT IT READS IS OF BULK AT MOST 1048576: true; the input reads as it did. -/
def termMadeUptoRow : OpenClaim := { program := "ytinjhnnpbejccaagreatdoor", sum := "bbf0feb67979ef2fa4d7353980a1b9ab5646312bc3acaa9927131be3189176b8", func := "lispprover/lispproverlaw8.TermMade", spec := "termMade", inPlace := ["internal/bytealg.abigen_runtime_cmpstring"], unfollowed := true, recurses := true, named := ["internal/strconv.uint64pow10", "math/bits.deBruijn32tab", "math/bits.deBruijn64tab"], loops := true, plainKeys := false, apart := false, laid := [("math/bits.deBruijn32tab", laid_math_bits_deBruijn32tab), ("math/bits.deBruijn64tab", laid_math_bits_deBruijn64tab), ("internal/strconv.uint64pow10", laid_internal_strconv_uint64pow10)], narrowed := true }
def TermMadeUptoSaid : Prop := termMadeUptoRow.holds Tryz.pinned (OpenSpec.upto termMadeSpec)

/-- 'lispproverlaw8.TermLists', WHERE WHAT IT READS IS OF BULK AT MOST 1048576: true; the input reads as it did. -/
def termListsUptoRow : OpenClaim := { program := "ytinjhnnpbejccaagreatdoor", sum := "bbf0feb67979ef2fa4d7353980a1b9ab5646312bc3acaa9927131be3189176b8", func := "lispprover/lispproverlaw8.TermLists", spec := "termLists", inPlace := ["internal/bytealg.abigen_runtime_cmpstring"], unfollowed := true, recurses := true, named := ["internal/strconv.uint64pow10", "math/bits.deBruijn32tab", "math/bits.deBruijn64tab"], loops := true, plainKeys := false, apart := false, laid := [("math/bits.deBruijn32tab", laid_math_bits_deBruijn32tab), ("math/bits.deBruijn64tab", laid_math_bits_deBruijn64tab), ("internal/strconv.uint64pow10", laid_internal_strconv_uint64pow10)], narrowed := true }
def TermListsUptoSaid : Prop := termListsUptoRow.holds Tryz.pinned (OpenSpec.upto termListsSpec)

/-- 'lispproverlaw8.TermSubstitutes', WHERE WHAT IT READS IS OF BULK AT MOST 1048576: true; the input reads as it did. -/
def termSubstitutesUptoRow : OpenClaim := { program := "ytinjhnnpbejccaagreatdoor", sum := "bbf0feb67979ef2fa4d7353980a1b9ab5646312bc3acaa9927131be3189176b8", func := "lispprover/lispproverlaw8.TermSubstitutes", spec := "termSubstitutes", inPlace := ["internal/bytealg.abigen_runtime_cmpstring"], unfollowed := true, recurses := true, named := ["internal/strconv.uint64pow10", "math/bits.deBruijn32tab", "math/bits.deBruijn64tab"], loops := true, plainKeys := false, apart := false, laid := [("math/bits.deBruijn32tab", laid_math_bits_deBruijn32tab), ("math/bits.deBruijn64tab", laid_math_bits_deBruijn64tab), ("internal/strconv.uint64pow10", laid_internal_strconv_uint64pow10)], narrowed := true }
def TermSubstitutesUptoSaid : Prop := termSubstitutesUptoRow.holds Tryz.pinned (OpenSpec.upto termSubstitutesSpec)

/-- 'lispproverlaw8.TermComposes', WHERE WHAT IT READS IS OF BULK AT MOST 1048576: true; the input reads as it did. -/
def termComposesUptoRow : OpenClaim := { program := "ytinjhnnpbejccaagreatdoor", sum := "bbf0feb67979ef2fa4d7353980a1b9ab5646312bc3acaa9927131be3189176b8", func := "lispprover/lispproverlaw8.TermComposes", spec := "termComposes", inPlace := ["internal/bytealg.abigen_runtime_cmpstring"], unfollowed := true, recurses := true, named := ["internal/strconv.uint64pow10", "math/bits.deBruijn32tab", "math/bits.deBruijn64tab"], loops := true, plainKeys := false, apart := false, laid := [("math/bits.deBruijn32tab", laid_math_bits_deBruijn32tab), ("math/bits.deBruijn64tab", laid_math_bits_deBruijn64tab), ("internal/strconv.uint64pow10", laid_internal_strconv_uint64pow10)], narrowed := true }
def TermComposesUptoSaid : Prop := termComposesUptoRow.holds Tryz.pinned (OpenSpec.upto termComposesSpec)

/-- 'lispproverlaw8.TermReplaces', WHERE WHAT IT READS IS OF BULK AT MOST 1048576: true; the input reads as it did. -/
def termReplacesUptoRow : OpenClaim := { program := "ytinjhnnpbejccaagreatdoor", sum := "bbf0feb67979ef2fa4d7353980a1b9ab5646312bc3acaa9927131be3189176b8", func := "lispprover/lispproverlaw8.TermReplaces", spec := "termReplaces", inPlace := ["internal/bytealg.abigen_runtime_cmpstring"], unfollowed := true, recurses := true, named := ["internal/strconv.uint64pow10", "math/bits.deBruijn32tab", "math/bits.deBruijn64tab"], loops := true, plainKeys := false, apart := false, laid := [("math/bits.deBruijn32tab", laid_math_bits_deBruijn32tab), ("math/bits.deBruijn64tab", laid_math_bits_deBruijn64tab), ("internal/strconv.uint64pow10", laid_internal_strconv_uint64pow10)], narrowed := true }
def TermReplacesUptoSaid : Prop := termReplacesUptoRow.holds Tryz.pinned (OpenSpec.upto termReplacesSpec)

/-- 'lispproverlaw8.TermPaths', WHERE WHAT IT READS IS OF BULK AT MOST 1048576: true; the input reads as it did. -/
def termPathsUptoRow : OpenClaim := { program := "ytinjhnnpbejccaagreatdoor", sum := "bbf0feb67979ef2fa4d7353980a1b9ab5646312bc3acaa9927131be3189176b8", func := "lispprover/lispproverlaw8.TermPaths", spec := "termPaths", inPlace := ["internal/bytealg.abigen_runtime_cmpstring"], unfollowed := true, recurses := true, named := ["internal/strconv.uint64pow10", "math/bits.deBruijn32tab", "math/bits.deBruijn64tab"], loops := true, plainKeys := false, apart := false, laid := [("math/bits.deBruijn32tab", laid_math_bits_deBruijn32tab), ("math/bits.deBruijn64tab", laid_math_bits_deBruijn64tab), ("internal/strconv.uint64pow10", laid_internal_strconv_uint64pow10)], narrowed := true }
def TermPathsUptoSaid : Prop := termPathsUptoRow.holds Tryz.pinned (OpenSpec.upto termPathsSpec)

/-- 'lispproverlaw8.TermInstances', WHERE WHAT IT READS IS OF BULK AT MOST 1048576: true; the input reads as it did. -/
def termInstancesUptoRow : OpenClaim := { program := "ytinjhnnpbejccaagreatdoor", sum := "bbf0feb67979ef2fa4d7353980a1b9ab5646312bc3acaa9927131be3189176b8", func := "lispprover/lispproverlaw8.TermInstances", spec := "termInstances", inPlace := ["internal/bytealg.abigen_runtime_cmpstring"], unfollowed := true, recurses := true, named := ["internal/strconv.uint64pow10", "math/bits.deBruijn32tab", "math/bits.deBruijn64tab"], loops := true, plainKeys := false, apart := false, laid := [("math/bits.deBruijn32tab", laid_math_bits_deBruijn32tab), ("math/bits.deBruijn64tab", laid_math_bits_deBruijn64tab), ("internal/strconv.uint64pow10", laid_internal_strconv_uint64pow10)], narrowed := true }
def TermInstancesUptoSaid : Prop := termInstancesUptoRow.holds Tryz.pinned (OpenSpec.upto termInstancesSpec)

/-- 'lispproverlaw8.TermQuotes', WHERE WHAT IT READS IS OF BULK AT MOST 1048576: true; the input reads as it did. -/
def termQuotesUptoRow : OpenClaim := { program := "ytinjhnnpbejccaagreatdoor", sum := "bbf0feb67979ef2fa4d7353980a1b9ab5646312bc3acaa9927131be3189176b8", func := "lispprover/lispproverlaw8.TermQuotes", spec := "termQuotes", inPlace := ["internal/bytealg.abigen_runtime_cmpstring"], unfollowed := true, recurses := true, named := ["internal/strconv.uint64pow10", "math/bits.deBruijn32tab", "math/bits.deBruijn64tab"], loops := true, plainKeys := false, apart := false, laid := [("math/bits.deBruijn32tab", laid_math_bits_deBruijn32tab), ("math/bits.deBruijn64tab", laid_math_bits_deBruijn64tab), ("internal/strconv.uint64pow10", laid_internal_strconv_uint64pow10)], narrowed := true }
def TermQuotesUptoSaid : Prop := termQuotesUptoRow.holds Tryz.pinned (OpenSpec.upto termQuotesSpec)

/-- 'lispproverlaw8.TermUnquotes', WHERE WHAT IT READS IS OF BULK AT MOST 1048576: true; the input reads as it did. -/
def termUnquotesUptoRow : OpenClaim := { program := "ytinjhnnpbejccaagreatdoor", sum := "bbf0feb67979ef2fa4d7353980a1b9ab5646312bc3acaa9927131be3189176b8", func := "lispprover/lispproverlaw8.TermUnquotes", spec := "termUnquotes", inPlace := ["internal/bytealg.abigen_runtime_cmpstring"], unfollowed := true, recurses := true, named := ["internal/strconv.uint64pow10", "math/bits.deBruijn32tab", "math/bits.deBruijn64tab"], loops := true, plainKeys := false, apart := false, laid := [("math/bits.deBruijn32tab", laid_math_bits_deBruijn32tab), ("math/bits.deBruijn64tab", laid_math_bits_deBruijn64tab), ("internal/strconv.uint64pow10", laid_internal_strconv_uint64pow10)], narrowed := true }
def TermUnquotesUptoSaid : Prop := termUnquotesUptoRow.holds Tryz.pinned (OpenSpec.upto termUnquotesSpec)

end Rows
end Go.Proofs.YtinjhnnpbejccaaGreatDoor
