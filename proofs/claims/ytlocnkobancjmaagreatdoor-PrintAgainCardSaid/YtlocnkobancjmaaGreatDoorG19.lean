/- The reference's Compare: objects of different kinds. -/
import Derived.Test.YtlocnkobancjmaaGreatDoorG18
import Derived.StillTailTactics
namespace Go.Proofs.YtlocnkobancjmaaGreatDoor
open Go Go.RowKit
set_option linter.unusedVariables false





mutual
def Rw.cnt : Rw → Nat
 | .mk _ _ _ l => 1 + Rw.cnts l
def Rw.cnts : List Rw → Nat
 | [] => 0
 | r :: rs => r.cnt + Rw.cnts rs
end
mutual
def Rw.ok : Rw → Prop
 | .mk _ _ s l => s.size ≤ 12 ∧ l.length ≤ 6 ∧ Rw.oks l
def Rw.oks : List Rw → Prop
 | [] => True
 | r :: rs => r.ok ∧ Rw.oks rs
end
def NoB (b : Nat) : Prop := False
theorem NoB.in (w : World) : In NoB w := fun _ h => h.elim
def Ob.tx : Ob → Prop
 | .num _ => True
 | .str s => s.length ≤ 12
 | .sym _ n => n.length ≤ 8
 | .cons a d => a.tx ∧ d.tx
structure OkO (m : Nat) (o : Ob) : Prop where
 bd : o.bd 10
 nodes : o.nodes ≤ m
 tx : o.tx
def RetX (w : World) (m : Nat) (e : Ending) (w' : World) : Prop := ∃ o p, e = .returned (vO o p) ∧ Pair w' (Upto w w' NoB) o p ∧ Below w.heap.size w w' ∧ OkO m o

end Go.Proofs.YtlocnkobancjmaaGreatDoor
