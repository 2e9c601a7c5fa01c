/- Raw trees as arguments: what memory reads as a tree's datum is a tree. -/
import Derived.Test.YtflnffgohbbhiaaGreatDoorG18
import Derived.Deep.Fields
import Derived.Deep.Slices
import Derived.ChangeSame
import Derived.ChangeShapes
import Derived.Carry
import Derived.OpenShut
namespace Go.Proofs.YtflnffgohbbhiaaGreatDoor
open Go Go.RowKit Go.ChangeShapes Go.WideShapes Go.Deep
set_option linter.unusedVariables false

def Has (w : World) (b : Nat) : Prop := b < w.heap.size
theorem In.has (w : World) : In (Has w) w := fun _ h => h
theorem RawsAt.of {w : World} {S : Nat → Prop} {b : Nat} : ∀ (l : List Rw) (o : Nat), (∀ i (hi : i < l.length), ∃ cs, RawAt w S l[i] cs ∧ ∀ j u, cs[j]? = some u → w.cell? ⟨b, o + i * 4 + j, none⟩ = some u) → RawsAt w S b o l
 | [], o, _ => by unfold RawsAt; trivial
 | r :: rs, o, h => by
  unfold RawsAt
  refine ⟨?_, RawsAt.of rs (o + 4) fun i hi => ?_⟩
  · obtain ⟨cs, h1, h2⟩ := h 0 (by simp)
    exact ⟨cs, h1, fun j u hj => by have := h2 j u hj; rwa [Nat.zero_mul, Nat.add_zero] at this⟩
  · obtain ⟨cs, h1, h2⟩ := h (i + 1) (by simpa using hi)
    exact ⟨cs, h1, fun j u hj => by rw [show o + 4 + i * 4 + j = o + (i + 1) * 4 + j from by omega]; exact h2 j u hj⟩

section
variable {H : Type} {enc : TypeId × Value → H} {w : World} {spare : Nat → Bool} {held : Bool}
end
end Go.Proofs.YtflnffgohbbhiaaGreatDoor
