/- Plain mathematics behind the statements on quotients, divisors and fractions. -/
import Derived.Test.YtclniebhgfodfaaDoorChain
namespace Go.Proofs.YtclniebhgfodfaaDoor
open Go Go.RowKit
set_option linter.unusedVariables false

theorem mag_zero_iff {s : ByteArray} (hv : valid (LA s) = true) : mag (LA s) = 0 ↔ LA s = [48] := by
  constructor
  · intro h
    have h1 := text_val hv
    have h2 : val (LA s) = 0 := by have := val_natAbs (LA s); omega
    rw [h2] at h1
    rw [← h1]; rfl
  · intro h; rw [h]; decide
theorem mag_invalid {s : ByteArray} (hv : valid (LA s) = false) : mag (LA s) = 0 := by unfold mag body; rw [hv]; rfl
theorem toList48 {s : ByteArray} (h : LA s = [48]) : (s.toList == [48]) = true := by rw [Lib.toList_data, beq_iff_eq]; exact h
theorem toList48n {s : ByteArray} (h : LA s ≠ [48]) : (s.toList == [48]) = false := by rw [Lib.toList_data, beq_eq_false_iff_ne]; exact h

theorem nat_div_add (n m : Nat) : ((n : Nat) : Int) = ((n / m : Nat) : Int) * (m : Int) + ((n % m : Nat) : Int) := by
  have := Nat.div_add_mod n m
  rw [Nat.mul_comm] at this
  exact_mod_cast this.symm

theorem dquo_drem (b : Bool) (n : Nat) (b' : Bool) (m : Nat) (hm : m ≠ 0) : dquo b n b' m * zval b' m + drem b n b' m = zval b n := by
  have h := nat_div_add n m
  have hlt : n % m < m := Nat.mod_lt _ (Nat.pos_of_ne_zero hm)
  have hs : ((m - n % m : Nat) : Int) = (m : Int) - ((n % m : Nat) : Int) := by omega
  unfold dquo drem divUp
  generalize n / m = q at *
  generalize hr : n % m = r at *
  by_cases hr0 : r = 0
  · subst hr0
    cases b <;> cases b' <;> simp [zval] at h ⊢ <;> rw [h] <;> simp [Int.neg_mul, Int.mul_neg]
  · have hb : (r != 0) = true := by simpa using hr0
    cases b <;> cases b' <;> simp only [hb, zval, bne_self_eq_false, Bool.false_and, Bool.true_and, if_true, if_false, Bool.false_eq_true, Bool.not_false, Bool.bne_true, Bool.bne_false] <;> (try rw [hs]) <;> rw [h] <;> simp [Int.neg_mul, Int.mul_neg, Int.add_mul] <;> omega

/-- The remainder is 0, or lies between 0 and the divisor. -/
theorem drem_between (b : Bool) (n : Nat) (b' : Bool) (m : Nat) (hm : m ≠ 0) (hb : b = true → n ≠ 0) (hb' : b' = true → m ≠ 0) :
    drem b n b' m = 0 ∨ (0 < zval b' m ∧ 0 < drem b n b' m ∧ drem b n b' m < zval b' m) ∨ (zval b' m < 0 ∧ drem b n b' m < 0 ∧ zval b' m < drem b n b' m) := by
  have hlt : n % m < m := Nat.mod_lt _ (Nat.pos_of_ne_zero hm)
  have hs : ((m - n % m : Nat) : Int) = (m : Int) - ((n % m : Nat) : Int) := by omega
  unfold drem divUp
  generalize n % m = r at *
  by_cases hr0 : r = 0
  · subst hr0
    left
    cases b <;> cases b' <;> simp [zval]
  · have hbr : (r != 0) = true := by simpa using hr0
    right
    cases b <;> cases b'
    · left; simp [zval]; omega
    · right
      simp only [hbr, zval, Bool.and_self, if_true, Bool.false_bne]
      rw [hs]
      omega
    · left
      simp only [hbr, zval, Bool.and_self, if_true, if_false, Bool.true_bne, Bool.not_false, Bool.false_eq_true]
      rw [hs]
      omega
    · right; simp [zval]; omega
theorem zval_natAbs (b : Bool) (n : Nat) : (zval b n).natAbs = n := by unfold zval; split <;> omega
theorem drem_natAbs (b : Bool) (n : Nat) (b' : Bool) (m : Nat) (hm : m ≠ 0) : (drem b n b' m).natAbs ≤ m := by
  have hlt : n % m < m := Nat.mod_lt _ (Nat.pos_of_ne_zero hm)
  unfold drem
  split <;> unfold zval <;> split <;> omega
theorem dquo_natAbs (b : Bool) (n : Nat) (b' : Bool) (m : Nat) : (dquo b n b' m).natAbs ≤ n + 1 := by
  have h := Nat.div_le_self n m
  unfold dquo
  generalize n / m = q at *
  split
  · omega
  · unfold zval; split <;> omega

theorem drem_divides {b b' : Bool} {n m : Nat} (h : n % m = 0) : drem b n b' m = 0 := by
  unfold drem divUp
  rw [h]
  cases b <;> cases b' <;> simp [zval]

end Go.Proofs.YtclniebhgfodfaaDoor
