/- The reference's over: long division of digits. -/
import Derived.Test.YtfnkmgipjemkdaaDoorRef5
import Derived.Test.YtfnkmgipjemkdaaDoorDiv
namespace Go.Proofs.YtfnkmgipjemkdaaDoor
open Go Go.RowKit
set_option linter.unusedVariables false

/-- The state of the quotient's row and of the rest, between rounds. -/
def OW (n m a g p R : Nat) (A : Option Addr) (B : Nat) (w wr : World) : Prop :=
  ∃ qs, OInv n m qs a p R ∧ Row wr g 3 .i64 qs ∧ Reads wr wr.heap.size .i64 A (digs R) ∧ Below B w wr
def OX (n m a g p R : Nat) (A : Option Addr) (B : Nat) (w wr : World) : Prop :=
  ∃ qs, OIn n m qs a p R ∧ Row wr g 3 .i64 qs ∧ Reads wr wr.heap.size .i64 A (digs R) ∧ Below B w wr

theorem own_cons {w : World} {B p : Nat} {v : Value} {ns xs : List Nat} (h : w.ownsRow B 3 1 v (1 + xs.length) (.int .i64 (dg ns p) :: xs.map fun d : Nat => Value.int .i64 (d : Int))) : Own w B v (ns.getD p 0 :: xs) := by
  unfold Own
  rw [List.length_cons, Nat.add_comm]
  exact h
theorem cons_dig {n p R : Nat} : AllDig ((digs n).getD p 0 :: digs R) := by
  intro d hd
  rcases List.mem_cons.1 hd with e | e
  · rw [e]; exact (allDig_digs n).getD p
  · exact allDig_digs R d e
theorem cons_val (d R : Nat) : ofD (d :: digs R) = d + 10 * R := by rw [ofD, ofD_digs]
theorem ten_len {X m b : Nat} (hb : LenIs m b) (h : X < 10 * m) : (digs X).length ≤ b + 1 := by
  apply digs_length_le
  have := lt_pow_digs m
  rw [show (digs m).length = b from hb] at this
  rw [Nat.pow_succ]
  omega

end Go.Proofs.YtfnkmgipjemkdaaDoor
