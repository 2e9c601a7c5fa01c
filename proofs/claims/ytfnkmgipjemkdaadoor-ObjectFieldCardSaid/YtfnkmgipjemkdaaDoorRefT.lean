/- The reference's text. -/
import Derived.Test.YtfnkmgipjemkdaaDoorM10
import Derived.Test.YtfnkmgipjemkdaaDoorOut
namespace Go.Proofs.YtfnkmgipjemkdaaDoor
open Go Go.RowKit
set_option linter.unusedVariables false

/-- The value v is a slice of bytes of the call's own that holds the text l. -/
def OwnB (w : World) (B : Nat) (v : Value) (l : List UInt8) : Prop := w.ownsRow B 5 1 v l.length (cb l)
theorem OwnB.row {w : World} {B : Nat} {v : Value} {l : List UInt8} (h : OwnB w B v l) : w.ownsRow B 5 1 v l.length (cb l) := h
theorem OwnB.nil_ (w : World) (B : Nat) : OwnB w B (.slice none 0 0) [] := World.ownsRow_nil w B 5 1
theorem OwnB.of_cells {w : World} {B n : Nat} {v : Value} {l : List UInt8} (h : w.ownsRow B 5 1 v n (cb l)) : OwnB w B v l := by
  have h1 := h.1
  have hn : l.length = n := by unfold cb at h1; simpa using h1
  unfold OwnB
  rw [hn]
  exact h
theorem OwnB.form {w : World} {B : Nat} {v : Value} {l : List UInt8} (h : OwnB w B v l) (hl : l ≠ []) : ∃ g c, v = .slice (some ⟨g, 0, none⟩) l.length c := by
  rcases h.2 with ⟨rfl, h0⟩ | ⟨g, cap, cur, rfl, _⟩
  · exact absurd (List.length_eq_zero_iff.1 h0) hl
  · exact ⟨_, _, rfl⟩

end Go.Proofs.YtfnkmgipjemkdaaDoor
