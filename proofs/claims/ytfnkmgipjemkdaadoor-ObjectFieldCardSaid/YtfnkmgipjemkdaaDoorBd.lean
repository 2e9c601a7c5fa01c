/- How large numbers get; equality as an order; the order without the pairs. No program is named here. -/
import Derived.Test.YtfnkmgipjemkdaaDoorM30
namespace Go.Proofs.YtfnkmgipjemkdaaDoor
open Go Go.RowKit
set_option linter.unusedVariables false

/-- Numerator and denominator have at most k digits. -/
def Bd (k : Nat) (q : Rat) : Prop := q.num.natAbs < 10 ^ k ∧ q.den < 10 ^ k
theorem bd_nt {k : Nat} {q : Rat} (h : Bd k q) : (nt q).size ≤ k + 2 := by unfold nt; rw [BA_size]; exact text_length h.1
theorem bd_dt {k : Nat} {q : Rat} (h : Bd k q) : (dt q).size ≤ k + 2 := by unfold dt; rw [BA_size]; exact text_length h.2
theorem pow_le {j k : Nat} (h : j ≤ k) : 10 ^ j ≤ 10 ^ k := Nat.pow_le_pow_right (by omega) h
theorem Bd.more {j k : Nat} {q : Rat} (h : Bd j q) (hk : j ≤ k) : Bd k q := ⟨Nat.lt_of_lt_of_le h.1 (pow_le hk), Nat.lt_of_lt_of_le h.2 (pow_le hk)⟩
theorem bd_divInt {k : Nat} {n d : Int} (hn : n.natAbs < 10 ^ k) (hd : d.natAbs < 10 ^ k) (hk : 0 < k) : Bd k (Rat.divInt n d) := by
  by_cases h0 : d = 0
  · subst h0
    rw [Rat.divInt_zero]
    exact ⟨Nat.pow_pos (by omega), Nat.lt_of_lt_of_le (show 1 < 10 ^ 1 by decide) (pow_le hk)⟩
  · constructor
    · rw [Rat.num_divInt]
      refine Nat.lt_of_le_of_lt (Int.natAbs_ediv_le_natAbs _ _) ?_
      rw [Int.natAbs_mul, Int.natAbs_sign_of_ne_zero h0, Nat.one_mul]
      exact hn
    · rw [Rat.den_divInt, if_neg h0]
      exact Nat.lt_of_le_of_lt (Nat.div_le_self _ _) hd
theorem bd_quo {k : Nat} {l m : List UInt8} (hl : l.length ≤ k) (hm : m.length ≤ k) (hk : 0 < k) : Bd k (quo l m) := by
  unfold quo
  refine bd_divInt ?_ ?_ hk
  · rw [val_natAbs]; exact Nat.lt_of_lt_of_le (mag_lt l) (pow_le (by omega))
  · rw [val_natAbs]; exact Nat.lt_of_lt_of_le (mag_lt m) (pow_le (by omega))
theorem lt_pow_mul {a b j k : Nat} (ha : a < 10 ^ j) (hb : b < 10 ^ k) : a * b < 10 ^ (j + k) := by
  rw [Nat.pow_add]
  exact Nat.mul_lt_mul'' ha hb
theorem bd_mul {j k : Nat} {x y : Rat} (hx : Bd j x) (hy : Bd k y) (hk : 0 < j + k) : Bd (j + k) (x * y) := by
  rw [← q_mul]
  refine bd_divInt ?_ ?_ hk
  · rw [Int.natAbs_mul]; exact lt_pow_mul hx.1 hy.1
  · rw [Int.natAbs_mul]; exact lt_pow_mul hx.2 hy.2
theorem bd_add {j k : Nat} {x y : Rat} (hx : Bd j x) (hy : Bd k y) : Bd (j + k + 1) (x + y) := by
  rw [← q_add]
  have h1 := lt_pow_mul hx.1 hy.2
  have h2 := lt_pow_mul hy.1 hx.2
  have h3 := lt_pow_mul hx.2 hy.2
  rw [Nat.add_comm k j] at h2
  have hp : 10 ^ (j + k + 1) = 10 ^ (j + k) * 10 := Nat.pow_succ ..
  refine bd_divInt ?_ ?_ (by omega)
  · refine Nat.lt_of_le_of_lt (Int.natAbs_add_le _ _) ?_
    rw [Int.natAbs_mul, Int.natAbs_mul, Int.natAbs_natCast, Int.natAbs_natCast, hp]
    omega
  · rw [Int.natAbs_mul, Int.natAbs_natCast, Int.natAbs_natCast, hp]
    omega
theorem bd_neg {k : Nat} {x : Rat} (hx : Bd k x) (hk : 0 < k) : Bd k (-x) := by
  rw [← q_neg]
  exact bd_divInt (by rw [Int.natAbs_neg]; exact hx.1) (by rw [Int.natAbs_natCast]; exact hx.2) hk
theorem bd_inv {k : Nat} {x : Rat} (hx : Bd k x) (hk : 0 < k) : Bd k x⁻¹ := by
  rw [← q_inv]
  exact bd_divInt hx.2 hx.1 hk
theorem bd_int {k : Nat} {n : Int} (hn : n.natAbs < 10 ^ k) (hk : 0 < k) : Bd k (n : Rat) := by
  rw [← q_int]
  exact bd_divInt hn (Nat.lt_of_lt_of_le (show 1 < 10 ^ 1 by decide) (pow_le hk)) hk

/-- All numbers in an object have at most k digits. -/
def Ob.bd (k : Nat) : Ob → Prop
  | .num q => Bd k q
  | .cons a d => a.bd k ∧ d.bd k
  | _ => True
theorem Ob.bd_more {j k : Nat} (hk : j ≤ k) : ∀ {o : Ob}, o.bd j → o.bd k
  | .num _, h => h.more hk
  | .str _, _ => trivial
  | .sym _ _, _ => trivial
  | .cons _ _, h => ⟨Ob.bd_more hk h.1, Ob.bd_more hk h.2⟩

/-- Equality as an order. -/
def eqI (a b : Ob) : Int := if a = b then 0 else 1
/-- The order that the program goes through: equality, or the order of objects. -/
def ordX (x : Bool) (a b : Ob) : Int := if x then eqI a b else ordO a b
theorem ordX_cons (x : Bool) (a d a' d' : Ob) : ordX x (.cons a d) (.cons a' d') = next (ordX x a a') (ordX x d d') := by
  unfold ordX
  cases x
  · rfl
  · simp only [if_true]
    unfold eqI next
    by_cases h1 : a = a'
    · subst h1; simp
    · simp [h1]
theorem ordX_range (x : Bool) (a b : Ob) : ordX x a b = -1 ∨ ordX x a b = 0 ∨ ordX x a b = 1 := by
  unfold ordX
  cases x
  · exact ordO_range a b
  · simp only [if_true]
    unfold eqI
    split
    · exact .inr (.inl rfl)
    · exact .inr (.inr rfl)
theorem ordX_zero (x : Bool) (a b : Ob) : ordX x a b = 0 ↔ a = b := by
  unfold ordX
  cases x
  · exact ordO_zero a b
  · simp only [if_true]
    unfold eqI
    split
    · rename_i h; exact ⟨fun _ => h, fun _ => rfl⟩
    · rename_i h; exact ⟨fun e => by omega, fun e => absurd e h⟩
def Ob.isCons : Ob → Bool
  | .cons _ _ => true
  | _ => false
/-- The order without the pairs. -/
def owp (x : Bool) (a b : Ob) : Int := if a.isCons && b.isCons then 0 else ordX x a b
end Go.Proofs.YtfnkmgipjemkdaaDoor
