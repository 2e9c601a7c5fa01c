/- Small words for the statements' walks. -/
import Derived.Test.YtclniebhgfodfaaDoorProducts
namespace Go.Proofs.YtclniebhgfodfaaDoor
open Go Go.RowKit
set_option linter.unusedVariables false

theorem chain {w W W' : World} (hB : Below w.heap.size w W) (hb : Below W.heap.size W W') : Below w.heap.size w W' := hB.trans (hb.mono hB.size)
theorem val_BA (x : Int) : val (LA (BA (text x))) = x := by rw [LA_BA, val_text]
theorem bytes_eq {s t : ByteArray} (h : LA s = LA t) : s = t := by rw [← BA_LA s, ← BA_LA t, h]
theorem BA_val {s : ByteArray} (h : valid (LA s) = true) : BA (text (val (LA s))) = s := by rw [text_val h, BA_LA]
theorem val_inj {s t : ByteArray} (hs : valid (LA s) = true) (ht : valid (LA t) = true) (h : val (LA s) = val (LA t)) : s = t := by rw [← BA_val hs, ← BA_val ht, h]
theorem val_size (s : ByteArray) : (val (LA s)).natAbs < 10 ^ (s.size + 1) := by rw [val_natAbs]; exact mag_bd s
theorem size_BA {x : Int} {k : Nat} (h : x.natAbs < 10 ^ k) : (BA (text x)).size ≤ k + 2 := len_BA h
theorem natAbs_add_lt {x y : Int} {k : Nat} (hx : x.natAbs < 10 ^ k) (hy : y.natAbs < 10 ^ k) : (x + y).natAbs < 10 ^ (k + 1) := by
  have := Int.natAbs_add_le x y
  rw [Nat.pow_succ]
  omega
theorem natAbs_mul_lt {x y : Int} {k l : Nat} (hx : x.natAbs < 10 ^ k) (hy : y.natAbs < 10 ^ l) : (x * y).natAbs < 10 ^ (k + l) := by
  rw [Int.natAbs_mul, Nat.pow_add]
  exact Nat.mul_lt_mul'' hx hy
theorem natAbs_le_pow {x : Int} {k l : Nat} (hx : x.natAbs < 10 ^ k) (h : k ≤ l) : x.natAbs < 10 ^ l := Nat.lt_of_lt_of_le hx (Nat.pow_le_pow_right (by decide) h)
theorem val_62 {s : ByteArray} (h : s.size ≤ 60) : (val (LA s)).natAbs < 10 ^ 61 := natAbs_le_pow (val_size s) (by omega)
/-- The text of a number of fewer than k digits, under a name. -/
theorem named (x : Int) (k : Nat) (h : x.natAbs < 10 ^ k) : ∃ s : ByteArray, Hid (BA (text x) = s) ∧ Hid (val (LA s) = x) ∧ s.size ≤ k + 2 ∧ Hid (valid (LA s) = true) :=
  ⟨_, rfl, val_BA x, size_BA h, by show valid (LA (BA (text x))) = true; rw [LA_BA]; exact valid_text x⟩

end Go.Proofs.YtclniebhgfodfaaDoor
