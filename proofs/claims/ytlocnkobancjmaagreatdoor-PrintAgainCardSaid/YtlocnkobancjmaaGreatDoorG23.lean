/- The maker of objects: a cons of two parts. -/
import Derived.Test.YtlocnkobancjmaaGreatDoorG19
import Derived.Test.YtlocnkobancjmaaGreatDoorG22
import Derived.Maps.AppendAt
namespace Go.Proofs.YtlocnkobancjmaaGreatDoor
open Go Go.RowKit
set_option linter.unusedVariables false

def flatC (xs : List (Ob × Value)) : List Value := xs.flatMap fun x => cellsO x.1 x.2
theorem flatC_snoc (xs : List (Ob × Value)) (o : Ob) (p : Value) : flatC (xs ++ [(o, p)]) = flatC xs ++ cellsO o p := by simp [flatC]
def fsts (xs : List (Ob × Value)) : List Ob := xs.map (·.1)
theorem own_lt {w : World} {base : Nat} {e : TypeId} {size n : Nat} {v : Value} {xs : List Value} (h : w.ownsRow base e size v n xs) : ∀ g, v.ownBlock = some g → base ≤ g ∧ g < w.heap.size := by
 intro g hg
 rcases h.2 with ⟨rfl, _⟩ | ⟨g', cap, cur, rfl, hb, hh, _⟩
 · simp [Value.ownBlock] at hg
 · have e : g' = g := by simpa [Value.ownBlock] using hg
   subst e
   exact ⟨hb, by
    rcases Nat.lt_or_ge g' w.heap.size with h | h
    · exact h
    · rw [Array.getElem?_eq_none h] at hh; cases hh⟩
theorem own_keep {w w' : World} {base : Nat} {e : TypeId} {size n : Nat} {v : Value} {xs : List Value} (h : w.ownsRow base e size v n xs) (hk : ∀ g, v.ownBlock = some g → w'.heap[g]? = w.heap[g]?) : w'.ownsRow base e size v n xs := by
 refine ⟨h.1, ?_⟩
 rcases h.2 with h0 | ⟨g', cap, cur, rfl, hb, hh, h1⟩
 · exact .inl h0
 · exact .inr ⟨g', cap, cur, rfl, hb, (hk g' rfl).trans hh, h1⟩
theorem obsAt_row {w : World} {S : Nat → Prop} {g : Nat} : ∀ (xs : List (Ob × Value)) (o : Nat), (∀ x ∈ xs, Pair w S x.1 x.2) → (∀ j u, (flatC xs)[j]? = some u → w.cell? ⟨g, o + j, none⟩ = some u) → ObsAt w S g o (fsts xs)
 | [], o, _, _ => by show ObsAt w S g o []; unfold ObsAt; trivial
 | (a, p) :: xs, o, hp, hc => by
  show ObsAt w S g o (a :: fsts xs)
  unfold ObsAt
  refine ⟨⟨p, hp (a, p) (by simp), fun j u hj => hc j u ?_⟩, obsAt_row xs (o + 7) (fun x hx => hp x (by simp [hx])) (fun j u hj => ?_)⟩
  · have hlt : j < (cellsO a p).length := by
     rcases Nat.lt_or_ge j (cellsO a p).length with h | h
     · exact h
     · rw [List.getElem?_eq_none h] at hj; cases hj
    show (cellsO a p ++ flatC xs)[j]? = some u
    rw [List.getElem?_append_left hlt]
    exact hj
  · rw [show o + 7 + j = o + (7 + j) from by omega]
    refine hc (7 + j) u ?_
    show (cellsO a p ++ flatC xs)[7 + j]? = some u
    rw [List.getElem?_append_right (by rw [cellsO_length]; omega), cellsO_length, show 7 + j - 7 = j by omega]
    exact hj
end Go.Proofs.YtlocnkobancjmaaGreatDoor
