/- A symbol as an argument. -/
import Derived.Test.YtlocnkobancjmaaGreatDoorG18
import Derived.Lib.SmallJoins
namespace Go.Proofs.YtlocnkobancjmaaGreatDoor
open Go Go.RowKit Go.ChangeShapes Go.WideShapes Go.Deep
set_option linter.unusedVariables false
section
variable {H : Type} {enc : TypeId × Value → H} {w : World} {spare : Nat → Bool} {held : Bool}
set_option maxRecDepth 100000 in
theorem open_sym {rc : Reach} {b0 : Nat} {v : Value} {d : DataW H} {p : List MemPlace} (hv : Value.okWide Tryz.prog w rc b0 24 v) (h : DataW.Trod enc Tryz.prog w 0 spare held 24 v d p) :
 ∃ x y : ByteArray, v = .agg #[.string x, .string y] := by
 obtain ⟨v0, v1, y0, y1, n, rfl, _, _, h0, h1⟩ := Go.Joins.open_agg2 Tryz.underlying24 (by kernel_rfl) (by kernel_rfl) hv h
 obtain ⟨x, e0, _, _⟩ := DataW.trod_string Tryz.underlying9 (show DataW.trod enc Tryz.prog w 0 spare held n 9 [v0] = some y0 from h0)
 obtain ⟨y, e1, _, _⟩ := DataW.trod_string Tryz.underlying9 (show DataW.trod enc Tryz.prog w 0 spare held n 9 [v1] = some y1 from h1)
 injection e0 with e0
 injection e1 with e1
 subst e0 e1
 exact ⟨x, y, rfl⟩
end
end Go.Proofs.YtlocnkobancjmaaGreatDoor
