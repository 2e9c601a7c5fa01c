/- The reference's Equal: two conses. -/
import Derived.Test.YtlocnkobancjmaaGreatDoorG11
import Derived.StillTailTactics
namespace Go.Proofs.YtlocnkobancjmaaGreatDoor
open Go Go.RowKit
set_option linter.unusedVariables false

def eqS (s1 s2 s3 s4 s5 t1 t2 t3 t4 t5 : ByteArray) : Bool := s1.toList == t1.toList && s2.toList == t2.toList && (s3.toList == t3.toList && s4.toList == t4.toList) && s5.toList == t5.toList
theorem beq_BA (l m : List UInt8) : ((BA l).toList == (BA m).toList) = decide (l = m) := by
 rw [Lib.toList_data, Lib.toList_data]
 by_cases h : l = m
 · subst h; simp
 · rw [decide_eq_false h, beq_eq_false_iff_ne]
   intro e
   apply h
   unfold BA at e
   simpa using e


inductive Rw where
 | mk (k n : Int) (s : ByteArray) (l : List Rw)

def I64 (n : Int) : Prop := -9223372036854775808 ≤ n ∧ n ≤ 9223372036854775807
def RetI (w : World) (n : Int) (e : Ending) (w' : World) : Prop := e = .returned (.int .i64 n) ∧ Below w.heap.size w w'

end Go.Proofs.YtlocnkobancjmaaGreatDoor
