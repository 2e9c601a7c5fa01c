/-
  No cell of these rows narrows 'for every input' (looked for: loops, veiled, ifaces, maps, wideKeys, modest, calm, conditions, laid).
  DERIVED. THE GIVEN ROWS OF THIS SEAT. 6 by the template 'for every input the law returns true; each argument reads behind the call as it read before'; 0 by the template 'total and deterministic' (their statements: YtcgchacokcnacaaTotals.lean).
  GIVEN WITH THE SEED: the statements are not yours to turn. If you find one false, say at which input.
  Laid BY PROGRAM, IN A SANDBOX (cutbox-rows.mjs): the forced cells as the released guide's own fill.sh prints them over the translation c4a20bc5af02b498… (all of the seat's roots in one cut). By AI agents, Wed Nov 11 2026. No macro, syntax, notation, axiom, sorry.
-/
import Derived.Test.YtcgchacokcnacaaChecked
import GoSem.Claim
import GoSem.ClaimJoined
import GoSem.ClaimMapViews
import Derived.JoinedTies
import Derived.KernelRfl
namespace Go.Proofs.Ytcgchacokcnacaa
/- THE CELL 'sum', in the pinned program and in every row, IS THE sha256 OF THE DUMP (.gsa) THAT YtcgchacokcnacaaProg.lean LOADS. Nothing in Lean hashes anything: it is a label: what it is worth is what the hold of that sum in a sandbox is worth. -/
noncomputable def Try.pinned : Pinned := { name := "ytcgchacokcnacaa", sum := "c4a20bc5af02b49854c04910d9646e1b5f3cab2f6fec277a76d62a8ed8b1388e", checked := Try.checked }
namespace Rows
def none {H : Type} : Left H := { results := [], args := [] }

/-- 'lispproverlaw4.SymbolNames': WHATEVER THE INPUT: true; the input reads as it did. -/
def symbolNamesSpec : ChangeSpec := { name := "symbolNames", fn := fun _ => fun
  | [d1, d2] => { results := [.lit (.bool true)], args := [d1, d2] }
  | _ => none }
def symbolNamesRow : OpenClaim := { program := "ytcgchacokcnacaa", sum := "c4a20bc5af02b49854c04910d9646e1b5f3cab2f6fec277a76d62a8ed8b1388e", func := "lispprover/lispproverlaw4.SymbolNames", spec := "symbolNames", inPlace := ["internal/bytealg.abigen_runtime_cmpstring"], recurses := true, apart := false }
def SymbolNamesSaid : Prop := symbolNamesRow.holds Try.pinned (OpenSpec.ofChange symbolNamesSpec)

/-- ITS FALSE NEIGHBOUR: 'it returns false'. Refute it at one input. -/
def symbolNamesWrong : ChangeSpec := { name := "symbolNames", fn := fun _ => fun
  | [d1, d2] => { results := [.lit (.bool false)], args := [d1, d2] }
  | _ => none }
def SymbolNamesWrongFalsely : Prop := symbolNamesRow.holds Try.pinned (OpenSpec.ofChange symbolNamesWrong)

/-- 'lispproverlaw4.SymbolDefines': WHATEVER THE INPUT: true; the input reads as it did. -/
def symbolDefinesSpec : ChangeSpec := { name := "symbolDefines", fn := fun _ => fun
  | [d1, d2] => { results := [.lit (.bool true)], args := [d1, d2] }
  | _ => none }
def symbolDefinesRow : OpenClaim := { program := "ytcgchacokcnacaa", sum := "c4a20bc5af02b49854c04910d9646e1b5f3cab2f6fec277a76d62a8ed8b1388e", func := "lispprover/lispproverlaw4.SymbolDefines", spec := "symbolDefines", inPlace := ["internal/bytealg.abigen_runtime_cmpstring"], recurses := true, apart := false }
def SymbolDefinesSaid : Prop := symbolDefinesRow.holds Try.pinned (OpenSpec.ofChange symbolDefinesSpec)

/-- ITS FALSE NEIGHBOUR: 'it returns false'. Refute it at one input. -/
def symbolDefinesWrong : ChangeSpec := { name := "symbolDefines", fn := fun _ => fun
  | [d1, d2] => { results := [.lit (.bool false)], args := [d1, d2] }
  | _ => none }
def SymbolDefinesWrongFalsely : Prop := symbolDefinesRow.holds Try.pinned (OpenSpec.ofChange symbolDefinesWrong)

/-- 'lispproverlaw4.SymbolRaw': WHATEVER THE INPUT: true; the input reads as it did. -/
def symbolRawSpec : ChangeSpec := { name := "symbolRaw", fn := fun _ => fun
  | [d1, d2] => { results := [.lit (.bool true)], args := [d1, d2] }
  | _ => none }
def symbolRawRow : OpenClaim := { program := "ytcgchacokcnacaa", sum := "c4a20bc5af02b49854c04910d9646e1b5f3cab2f6fec277a76d62a8ed8b1388e", func := "lispprover/lispproverlaw4.SymbolRaw", spec := "symbolRaw", inPlace := ["internal/bytealg.abigen_runtime_cmpstring"], recurses := true, apart := false }
def SymbolRawSaid : Prop := symbolRawRow.holds Try.pinned (OpenSpec.ofChange symbolRawSpec)

/-- ITS FALSE NEIGHBOUR: 'it returns false'. Refute it at one input. -/
def symbolRawWrong : ChangeSpec := { name := "symbolRaw", fn := fun _ => fun
  | [d1, d2] => { results := [.lit (.bool false)], args := [d1, d2] }
  | _ => none }
def SymbolRawWrongFalsely : Prop := symbolRawRow.holds Try.pinned (OpenSpec.ofChange symbolRawWrong)

/-- 'lispproverlaw4.SymbolInterns': WHATEVER THE INPUT: true; the input reads as it did. -/
def symbolInternsSpec : ChangeSpec := { name := "symbolInterns", fn := fun _ => fun
  | [d1, d2, d3] => { results := [.lit (.bool true)], args := [d1, d2, d3] }
  | _ => none }
def symbolInternsRow : OpenClaim := { program := "ytcgchacokcnacaa", sum := "c4a20bc5af02b49854c04910d9646e1b5f3cab2f6fec277a76d62a8ed8b1388e", func := "lispprover/lispproverlaw4.SymbolInterns", spec := "symbolInterns", inPlace := ["internal/bytealg.abigen_runtime_cmpstring"], recurses := true, apart := false }
def SymbolInternsSaid : Prop := symbolInternsRow.holds Try.pinned (OpenSpec.ofChange symbolInternsSpec)

/-- ITS FALSE NEIGHBOUR: 'it returns false'. Refute it at one input. -/
def symbolInternsWrong : ChangeSpec := { name := "symbolInterns", fn := fun _ => fun
  | [d1, d2, d3] => { results := [.lit (.bool false)], args := [d1, d2, d3] }
  | _ => none }
def SymbolInternsWrongFalsely : Prop := symbolInternsRow.holds Try.pinned (OpenSpec.ofChange symbolInternsWrong)

/-- 'lispproverlaw4.SymbolVisible': WHATEVER THE INPUT: true; the input reads as it did. -/
def symbolVisibleSpec : ChangeSpec := { name := "symbolVisible", fn := fun _ => fun
  | [d1, d2, d3] => { results := [.lit (.bool true)], args := [d1, d2, d3] }
  | _ => none }
def symbolVisibleRow : OpenClaim := { program := "ytcgchacokcnacaa", sum := "c4a20bc5af02b49854c04910d9646e1b5f3cab2f6fec277a76d62a8ed8b1388e", func := "lispprover/lispproverlaw4.SymbolVisible", spec := "symbolVisible", inPlace := ["internal/bytealg.abigen_runtime_cmpstring"], recurses := true, apart := false }
def SymbolVisibleSaid : Prop := symbolVisibleRow.holds Try.pinned (OpenSpec.ofChange symbolVisibleSpec)

/-- ITS FALSE NEIGHBOUR: 'it returns false'. Refute it at one input. -/
def symbolVisibleWrong : ChangeSpec := { name := "symbolVisible", fn := fun _ => fun
  | [d1, d2, d3] => { results := [.lit (.bool false)], args := [d1, d2, d3] }
  | _ => none }
def SymbolVisibleWrongFalsely : Prop := symbolVisibleRow.holds Try.pinned (OpenSpec.ofChange symbolVisibleWrong)

/-- 'lispproverlaw4.SymbolStays': WHATEVER THE INPUT: true; the input reads as it did. -/
def symbolStaysSpec : ChangeSpec := { name := "symbolStays", fn := fun _ => fun
  | [d1, d2, d3, d4] => { results := [.lit (.bool true)], args := [d1, d2, d3, d4] }
  | _ => none }
def symbolStaysRow : OpenClaim := { program := "ytcgchacokcnacaa", sum := "c4a20bc5af02b49854c04910d9646e1b5f3cab2f6fec277a76d62a8ed8b1388e", func := "lispprover/lispproverlaw4.SymbolStays", spec := "symbolStays", inPlace := ["internal/bytealg.abigen_runtime_cmpstring"], recurses := true, apart := false }
def SymbolStaysSaid : Prop := symbolStaysRow.holds Try.pinned (OpenSpec.ofChange symbolStaysSpec)

/-- ITS FALSE NEIGHBOUR: 'it returns false'. Refute it at one input. -/
def symbolStaysWrong : ChangeSpec := { name := "symbolStays", fn := fun _ => fun
  | [d1, d2, d3, d4] => { results := [.lit (.bool false)], args := [d1, d2, d3, d4] }
  | _ => none }
def SymbolStaysWrongFalsely : Prop := symbolStaysRow.holds Try.pinned (OpenSpec.ofChange symbolStaysWrong)

/- THE SECOND FORM. 'bulk': how many values and letters a reading holds, each counted each time it is reached (what is shared counts as often as it is met; a slice's spare places count too). A statement '..UptoSaid' is the law's where the arguments, and the package variables that the reading takes, are together of bulk at most 1048576: NARROWER than '..Said'. Prove '..Said' where nothing that the law and all that it calls make is longer than what came in: it says more and counts as full. Else prove '..UptoSaid'. A law counts once. -/
mutual
def uptoBulk {H : Type} : DataW H → Nat
  | .lit (.string bytes) => bytes.length + 1
  | .lit _ => 1
  | .nil => 1
  | .ptr d => uptoBulk d + 1
  | .slice elems spare => uptoBulkAll elems + uptoBulkAll spare + 1
  | .agg parts => uptoBulkAll parts + 1
  | .iface _ d => uptoBulk d + 1
  | .map entries => uptoBulkEntries entries + 1
  | .held _ => 1
def uptoBulkAll {H : Type} : List (DataW H) → Nat
  | [] => 0
  | d :: r => uptoBulk d + uptoBulkAll r
def uptoBulkEntries {H : Type} : List (Lit × DataW H) → Nat
  | [] => 0
  | x :: r => uptoBulkEntry x + uptoBulkEntries r
def uptoBulkEntry {H : Type} : Lit × DataW H → Nat
  | (.string bytes, d) => bytes.length + uptoBulk d + 1
  | (_, d) => uptoBulk d + 1
 end
def uptoSmall : (H : Type) → List (DataW H) → Bool := fun _ ds => decide (uptoBulkAll ds ≤ 1048576)
def OpenSpec.upto (s : _root_.Go.ChangeSpec) : _root_.Go.OpenSpec := { _root_.Go.OpenSpec.ofChange s with cond := some uptoSmall }

/-- 'lispproverlaw4.SymbolNames', WHERE WHAT IT READS IS OF BULK AT MOST 1048576: true; the input reads as it did. -/
def symbolNamesUptoRow : OpenClaim := { program := "ytcgchacokcnacaa", sum := "c4a20bc5af02b49854c04910d9646e1b5f3cab2f6fec277a76d62a8ed8b1388e", func := "lispprover/lispproverlaw4.SymbolNames", spec := "symbolNames", inPlace := ["internal/bytealg.abigen_runtime_cmpstring"], recurses := true, apart := false, narrowed := true }
def SymbolNamesUptoSaid : Prop := symbolNamesUptoRow.holds Try.pinned (OpenSpec.upto symbolNamesSpec)

/-- 'lispproverlaw4.SymbolDefines', WHERE WHAT IT READS IS OF BULK AT MOST 1048576: true; the input reads as it did. -/
def symbolDefinesUptoRow : OpenClaim := { program := "ytcgchacokcnacaa", sum := "c4a20bc5af02b49854c04910d9646e1b5f3cab2f6fec277a76d62a8ed8b1388e", func := "lispprover/lispproverlaw4.SymbolDefines", spec := "symbolDefines", inPlace := ["internal/bytealg.abigen_runtime_cmpstring"], recurses := true, apart := false, narrowed := true }
def SymbolDefinesUptoSaid : Prop := symbolDefinesUptoRow.holds Try.pinned (OpenSpec.upto symbolDefinesSpec)

/-- 'lispproverlaw4.SymbolRaw', WHERE WHAT IT READS IS OF BULK AT MOST 1048576: true; the input reads as it did. -/
def symbolRawUptoRow : OpenClaim := { program := "ytcgchacokcnacaa", sum := "c4a20bc5af02b49854c04910d9646e1b5f3cab2f6fec277a76d62a8ed8b1388e", func := "lispprover/lispproverlaw4.SymbolRaw", spec := "symbolRaw", inPlace := ["internal/bytealg.abigen_runtime_cmpstring"], recurses := true, apart := false, narrowed := true }
def SymbolRawUptoSaid : Prop := symbolRawUptoRow.holds Try.pinned (OpenSpec.upto symbolRawSpec)

/-- 'lispproverlaw4.SymbolInterns', WHERE WHAT IT READS IS OF BULK AT MOST 1048576: true; the input reads as it did. -/
def symbolInternsUptoRow : OpenClaim := { program := "ytcgchacokcnacaa", sum := "c4a20bc5af02b49854c04910d9646e1b5f3cab2f6fec277a76d62a8ed8b1388e", func := "lispprover/lispproverlaw4.SymbolInterns", spec := "symbolInterns", inPlace := ["internal/bytealg.abigen_runtime_cmpstring"], recurses := true, apart := false, narrowed := true }
def SymbolInternsUptoSaid : Prop := symbolInternsUptoRow.holds Try.pinned (OpenSpec.upto symbolInternsSpec)

/-- 'lispproverlaw4.SymbolVisible', WHERE WHAT IT READS IS OF BULK AT MOST 1048576: true; the input reads as it did. -/
def symbolVisibleUptoRow : OpenClaim := { program := "ytcgchacokcnacaa", sum := "c4a20bc5af02b49854c04910d9646e1b5f3cab2f6fec277a76d62a8ed8b1388e", func := "lispprover/lispproverlaw4.SymbolVisible", spec := "symbolVisible", inPlace := ["internal/bytealg.abigen_runtime_cmpstring"], recurses := true, apart := false, narrowed := true }
def SymbolVisibleUptoSaid : Prop := symbolVisibleUptoRow.holds Try.pinned (OpenSpec.upto symbolVisibleSpec)

/-- 'lispproverlaw4.SymbolStays', WHERE WHAT IT READS IS OF BULK AT MOST 1048576: true; the input reads as it did. -/
def symbolStaysUptoRow : OpenClaim := { program := "ytcgchacokcnacaa", sum := "c4a20bc5af02b49854c04910d9646e1b5f3cab2f6fec277a76d62a8ed8b1388e", func := "lispprover/lispproverlaw4.SymbolStays", spec := "symbolStays", inPlace := ["internal/bytealg.abigen_runtime_cmpstring"], recurses := true, apart := false, narrowed := true }
def SymbolStaysUptoSaid : Prop := symbolStaysUptoRow.holds Try.pinned (OpenSpec.upto symbolStaysSpec)

end Rows
end Go.Proofs.Ytcgchacokcnacaa
