/- Fractions: a text over a text stands for a rational number; Reduce and the reference's Reduce return its lowest terms. -/
import Derived.Test.YtfnkmgipjemkdaaDoorRefC
import Derived.Lib.SlicesS
namespace Go.Proofs.YtfnkmgipjemkdaaDoor
open Go Go.RowKit
set_option linter.unusedVariables false

/-- The first text over the second as a rational number, 0 where the second stands for 0. -/
def quo (l m : List UInt8) : Rat := Rat.divInt (val l) (val m)

theorem sign_val_eq (l : List UInt8) (h : mag l ≠ 0) : (val l).sign = if neg l then -1 else 1 := by
  unfold val
  cases neg l
  · simp only [Bool.false_eq_true, if_false]; exact Int.sign_eq_one_of_pos (by omega)
  · simp only [if_true]; exact Int.sign_eq_neg_one_of_neg (by omega)

theorem zval_div (b : Bool) (n g : Nat) (hg : g ∣ n) : zval b (n / g) = zval b n / (g : Int) := by
  unfold zval
  cases b
  · simp
  · simp only [if_true]
    rw [Int.neg_ediv_of_dvd (by exact_mod_cast hg)]
    simp

theorem red_num {l m : List UInt8} (h : mag m ≠ 0) : zval (neg l != neg m) (mag l / Nat.gcd (mag l) (mag m)) = (quo l m).num := by
  unfold quo
  rw [Rat.num_divInt, sign_val_eq m h, zval_div _ _ _ (Nat.gcd_dvd_left _ _)]
  unfold Int.gcd
  rw [val_natAbs, val_natAbs, Nat.gcd_comm (mag m)]
  rw [val_eq l]
  congr 1
  unfold zval
  cases neg l <;> cases neg m <;> simp

theorem red_den {l m : List UInt8} (h : mag m ≠ 0) : zval false (mag m / Nat.gcd (mag l) (mag m)) = ((quo l m).den : Int) := by
  unfold quo
  have h0 : val m ≠ 0 := by rw [← Int.natAbs_ne_zero, val_natAbs]; exact h
  rw [Rat.den_divInt, if_neg h0]
  unfold Int.gcd
  rw [val_natAbs, val_natAbs, Nat.gcd_comm (mag m)]
  unfold zval
  simp

theorem quo_zero {l m : List UInt8} (h : mag m = 0) : quo l m = 0 := by
  unfold quo
  have h0 : val m = 0 := by rw [← Int.natAbs_eq_zero, val_natAbs]; exact h
  rw [h0, Rat.divInt_zero]

/-- The call returned the texts of numerator and denominator of q. -/
def RetQ (w : World) (q : Rat) (e : Ending) (w' : World) : Prop := RetSS w q.num (q.den : Int) e w'

theorem reduce_q (s t : ByteArray) (w : World) (hs : s.size ≤ 400000000) (ht : t.size ≤ 400000000) :
    Calls Tryd.prog 22 #[.string s, .string t] w (RetQ w (quo (LA s) (LA t))) := by
  unfold RetQ
  by_cases h0 : mag (LA t) = 0
  · rw [quo_zero h0]
    exact reduce_zero s t w hs ht h0
  · rw [← red_num h0, ← red_den h0]
    exact reduce_pos s t w hs ht h0

/-- The texts of a rational number's numerator and denominator. -/
def nt (q : Rat) : ByteArray := BA (text q.num)
def dt (q : Rat) : ByteArray := BA (text (q.den : Int))
theorem val_nt (q : Rat) : val (LA (nt q)) = q.num := by unfold nt; rw [LA_BA, val_text]
theorem val_dt (q : Rat) : val (LA (dt q)) = (q.den : Int) := by unfold dt; rw [LA_BA, val_text]
theorem quo_text (n d : Int) : quo (LA (BA (text n))) (LA (BA (text d))) = Rat.divInt n d := by
  unfold quo; rw [LA_BA, LA_BA, val_text, val_text]
theorem quo_self (q : Rat) : quo (LA (nt q)) (LA (dt q)) = q := by
  unfold quo; rw [val_nt, val_dt]; exact Rat.num_divInt_den q
theorem q_ext {p q : Rat} (hn : nt p = nt q) (hd : dt p = dt q) : p = q := by
  rw [← quo_self p, hn, hd, quo_self]
theorem q_beq (p q : Rat) : ((nt p).toList == (nt q).toList && (dt p).toList == (dt q).toList) = decide (p = q) := by
  by_cases h : p = q
  · subst h; simp
  · rw [decide_eq_false h]
    by_cases h1 : nt p = nt q
    · by_cases h2 : dt p = dt q
      · exact absurd (q_ext h1 h2) h
      · rw [(Lib.bytes_beq_false_iff _ _).2 h2, Bool.and_false]
    · rw [(Lib.bytes_beq_false_iff _ _).2 h1, Bool.false_and]

theorem q_add (x y : Rat) : Rat.divInt (x.num * (y.den : Int) + y.num * (x.den : Int)) ((x.den : Int) * (y.den : Int)) = x + y := by
  rw [Rat.add_def']
  exact Rat.divInt_ofNat _ (x.den * y.den)
theorem q_mul (x y : Rat) : Rat.divInt (x.num * y.num) ((x.den : Int) * (y.den : Int)) = x * y := by
  rw [Rat.mul_def']
  exact Rat.divInt_ofNat _ (x.den * y.den)
theorem q_neg (x : Rat) : Rat.divInt (- x.num) (x.den : Int) = - x := by
  rw [← Rat.neg_divInt, Rat.num_divInt_den]
theorem q_inv (x : Rat) : Rat.divInt (x.den : Int) x.num = x⁻¹ := (Rat.inv_def x).symm
theorem q_int (n : Int) : Rat.divInt n 1 = (n : Rat) := by
  rw [show (1 : Int) = ((1 : Nat) : Int) from rfl, Rat.divInt_ofNat]
  exact Rat.mkRat_self (n : Rat)

/-- The order of two rational numbers. -/
def ordQ (x y : Rat) : Int := if x < y then -1 else if y < x then 1 else 0
theorem ordQ_eq (x y : Rat) : ordI (x.num * (y.den : Int)) (y.num * (x.den : Int)) = ordQ x y := by
  unfold ordI ordQ
  simp only [Rat.lt_iff]
theorem ordQ_anti (x y : Rat) : ordQ y x = - ordQ x y := by
  unfold ordQ
  by_cases h : x < y
  · rw [if_pos h, if_neg (Rat.not_lt.2 (Rat.le_of_lt h)), if_pos h]; rfl
  · by_cases h2 : y < x
    · rw [if_pos h2, if_neg h, if_pos h2]
    · rw [if_neg h2, if_neg h, if_neg h, if_neg h2]; rfl
theorem ordQ_zero (x y : Rat) : ordQ x y = 0 ↔ x = y := by
  unfold ordQ
  constructor
  · intro h
    by_cases h1 : x < y
    · rw [if_pos h1] at h; omega
    · rw [if_neg h1] at h
      by_cases h2 : y < x
      · rw [if_pos h2] at h; omega
      · exact Rat.le_antisymm (Rat.not_lt.1 h2) (Rat.not_lt.1 h1)
  · rintro rfl
    rw [if_neg Rat.lt_irrefl, if_neg Rat.lt_irrefl]
theorem ordQ_le (x y : Rat) : ordQ x y ≤ 0 ↔ x ≤ y := by
  unfold ordQ
  by_cases h1 : x < y
  · rw [if_pos h1]; exact ⟨fun _ => Rat.le_of_lt h1, fun _ => by omega⟩
  · rw [if_neg h1]
    by_cases h2 : y < x
    · rw [if_pos h2]; exact ⟨fun h => by omega, fun h => absurd h2 (Rat.not_lt.2 h)⟩
    · rw [if_neg h2]; exact ⟨fun _ => Rat.not_lt.1 h2, fun _ => by omega⟩
theorem ordQ_trans {x y z : Rat} (h1 : ordQ x y ≤ 0) (h2 : ordQ y z ≤ 0) : ordQ x z ≤ 0 :=
  (ordQ_le x z).2 (Rat.le_trans ((ordQ_le x y).1 h1) ((ordQ_le y z).1 h2))
theorem ordQ_range (x y : Rat) : ordQ x y = -1 ∨ ordQ x y = 0 ∨ ordQ x y = 1 := by
  unfold ordQ
  split
  · exact .inl rfl
  · split
    · exact .inr (.inr rfl)
    · exact .inr (.inl rfl)

/-- The laws of a field, in the words of the statements. -/
theorem fld_inv {x : Rat} (h : x ≠ 0) : x * x⁻¹ = 1 := Rat.mul_inv_cancel x h
theorem fld_neg (x : Rat) : x + -x = 0 := Rat.add_neg_cancel x
theorem fld_dist (x y z : Rat) : x * (y + z) = x * y + x * z := Rat.mul_add x y z
theorem fld_assoc (x y z : Rat) : (x + y) + z = x + (y + z) := Rat.add_assoc x y z
theorem fld_less (x y z : Rat) : (ordQ (x + z) (y + z) < 0) ↔ (ordQ x y < 0) := by
  unfold ordQ
  simp only [Rat.add_lt_add_right]

end Go.Proofs.YtfnkmgipjemkdaaDoor

/- Objects without memory: their order, their equality, how many nodes they have. No program is named here. -/
namespace Go.Proofs.YtfnkmgipjemkdaaDoor
open Go Go.RowKit
set_option linter.unusedVariables false

/-- An object: a number, a string, a symbol (its package and its name), a cons. -/
inductive Ob where
  | num (q : Rat)
  | str (s : List UInt8)
  | sym (p n : List UInt8)
  | cons (a d : Ob)
deriving DecidableEq

/-- Bytewise order. -/
def ordB (a b : List UInt8) : Int := Lib.compareBytes a b

theorem ordB_anti : ∀ a b : List UInt8, ordB b a = - ordB a b
  | [], [] => rfl
  | [], _ :: _ => rfl
  | _ :: _, [] => rfl
  | x :: a, y :: b => by
    have ih := ordB_anti a b
    unfold ordB at ih ⊢
    unfold Lib.compareBytes
    by_cases h : x < y
    · have h2 : ¬ y < x := UInt8.not_lt.2 (UInt8.le_of_lt h)
      rw [if_neg h2, if_pos h, if_pos h]; rfl
    · by_cases h2 : y < x
      · rw [if_pos h2, if_neg h, if_pos h2]
      · rw [if_neg h2, if_neg h, if_neg h, if_neg h2]; exact ih
theorem ordB_zero : ∀ a b : List UInt8, ordB a b = 0 ↔ a = b
  | [], [] => by simp [ordB, Lib.compareBytes]
  | [], _ :: _ => by simp [ordB, Lib.compareBytes]
  | _ :: _, [] => by simp [ordB, Lib.compareBytes]
  | x :: a, y :: b => by
    have ih := ordB_zero a b
    unfold ordB at ih ⊢
    unfold Lib.compareBytes
    by_cases h : x < y
    · rw [if_pos h]
      constructor
      · intro e; omega
      · intro e; injection e with e1 e2; subst e1; exact absurd h (UInt8.lt_irrefl x)
    · rw [if_neg h]
      by_cases h2 : y < x
      · rw [if_pos h2]
        constructor
        · intro e; omega
        · intro e; injection e with e1 e2; subst e1; exact absurd h2 (UInt8.lt_irrefl x)
      · rw [if_neg h2, ih]
        have e : x = y := UInt8.le_antisymm (UInt8.not_lt.1 h2) (UInt8.not_lt.1 h)
        subst e
        simp
theorem ordB_range : ∀ a b : List UInt8, ordB a b = -1 ∨ ordB a b = 0 ∨ ordB a b = 1
  | [], [] => .inr (.inl rfl)
  | [], _ :: _ => .inl rfl
  | _ :: _, [] => .inr (.inr rfl)
  | x :: a, y :: b => by
    have ih := ordB_range a b
    unfold ordB at ih ⊢
    unfold Lib.compareBytes
    split
    · exact .inl rfl
    · split
      · exact .inr (.inr rfl)
      · exact ih
theorem ordB_trans : ∀ a b c : List UInt8, ordB a b ≤ 0 → ordB b c ≤ 0 → ordB a c ≤ 0
  | [], _, [] => fun _ _ => by simp [ordB, Lib.compareBytes]
  | [], _, _ :: _ => fun _ _ => by simp [ordB, Lib.compareBytes]
  | _ :: _, [], _ => fun h _ => by simp [ordB, Lib.compareBytes] at h
  | _ :: _, _ :: _, [] => fun _ h => by simp [ordB, Lib.compareBytes] at h
  | x :: a, y :: b, z :: c => by
    have ih := ordB_trans a b c
    unfold ordB at ih ⊢
    unfold Lib.compareBytes
    intro h1 h2
    by_cases xy : x < y
    · by_cases yz : y < z
      · rw [if_pos (UInt8.lt_trans xy yz)]; omega
      · rw [if_neg yz] at h2
        by_cases zy : z < y
        · rw [if_pos zy] at h2; omega
        · have e : y = z := UInt8.le_antisymm (UInt8.not_lt.1 zy) (UInt8.not_lt.1 yz)
          subst e
          rw [if_pos xy]; omega
    · rw [if_neg xy] at h1
      by_cases yx : y < x
      · rw [if_pos yx] at h1; omega
      · have e : x = y := UInt8.le_antisymm (UInt8.not_lt.1 yx) (UInt8.not_lt.1 xy)
        subst e
        rw [if_neg xy] at h1
        by_cases xz : x < z
        · rw [if_pos xz]; omega
        · rw [if_neg xz] at h2 ⊢
          by_cases zx : z < x
          · rw [if_pos zx] at h2; omega
          · rw [if_neg zx] at h2 ⊢
            exact ih h1 h2

/-- Go's < on strings. -/
theorem less_eq : ∀ a b : List UInt8, Op.bytesLess a b = decide (ordB a b = -1)
  | [], [] => by simp [Op.bytesLess, ordB, Lib.compareBytes]
  | [], _ :: _ => by simp [Op.bytesLess, ordB, Lib.compareBytes]
  | _ :: _, [] => by simp [Op.bytesLess, ordB, Lib.compareBytes]
  | x :: a, y :: b => by
    have ih := less_eq a b
    unfold ordB at ih ⊢
    unfold Op.bytesLess Lib.compareBytes
    rw [ih]
    by_cases h : x < y
    · simp [h]
    · by_cases h2 : y < x
      · have : (x == y) = false := by rw [beq_eq_false_iff_ne]; rintro rfl; exact absurd h2 (UInt8.lt_irrefl x)
        simp [h, h2, this]
      · have e : x = y := UInt8.le_antisymm (UInt8.not_lt.1 h2) (UInt8.not_lt.1 h)
        subst e
        simp [h]

/-- First one order, then another. -/
def next (c d : Int) : Int := if c = 0 then d else c

def ordS (p n p' n' : List UInt8) : Int := next (ordB n n') (ordB p p')

def Ob.rank : Ob → Int
  | .num _ => 1
  | .str _ => 2
  | .sym _ _ => 3
  | .cons _ _ => 4

/-- The order of objects. -/
def ordO : Ob → Ob → Int
  | .num x, .num y => ordQ x y
  | .str s, .str t => ordB s t
  | .sym p n, .sym p' n' => ordS p n p' n'
  | .cons a d, .cons a' d' => next (ordO a a') (ordO d d')
  | x, y => if x.rank < y.rank then -1 else 1

theorem next_anti {c d c' d' : Int} (h1 : c' = -c) (h2 : d' = -d) : next c' d' = - next c d := by
  unfold next; subst h1 h2
  by_cases h : c = 0
  · rw [if_pos h, if_pos (by omega)]
  · rw [if_neg h, if_neg (by omega)]
theorem next_zero {c d : Int} : next c d = 0 ↔ c = 0 ∧ d = 0 := by
  unfold next
  by_cases h : c = 0
  · rw [if_pos h]; simp [h]
  · rw [if_neg h]; simp [h]
theorem next_le {c d : Int} : next c d ≤ 0 ↔ c < 0 ∨ (c = 0 ∧ d ≤ 0) := by
  unfold next
  by_cases h : c = 0
  · rw [if_pos h]; subst h; omega
  · rw [if_neg h]; omega
theorem next_range {c d : Int} (h1 : c = -1 ∨ c = 0 ∨ c = 1) (h2 : d = -1 ∨ d = 0 ∨ d = 1) : next c d = -1 ∨ next c d = 0 ∨ next c d = 1 := by
  unfold next
  split
  · exact h2
  · exact h1
/-- Two orders, one after the other, are transitive where both are. -/
theorem next_trans {c1 c2 c3 d1 d2 d3 : Int}
    (hc : c1 ≤ 0 → c2 ≤ 0 → c3 ≤ 0) (hl : c1 < 0 → c2 ≤ 0 → c3 < 0) (hr : c1 ≤ 0 → c2 < 0 → c3 < 0) (he : c1 = 0 → c2 = 0 → c3 = 0)
    (hd : d1 ≤ 0 → d2 ≤ 0 → d3 ≤ 0) (h1 : next c1 d1 ≤ 0) (h2 : next c2 d2 ≤ 0) : next c3 d3 ≤ 0 := by
  rw [next_le] at h1 h2 ⊢
  rcases h1 with h1 | ⟨h1, h1'⟩ <;> rcases h2 with h2 | ⟨h2, h2'⟩
  · exact .inl (hl h1 (by omega))
  · exact .inl (hl h1 (by omega))
  · exact .inl (hr (by omega) h2)
  · exact .inr ⟨he h1 h2, hd h1' h2'⟩

/-- What an order of things must keep. -/
structure Orders {α : Type} (f : α → α → Int) : Prop where
  anti : ∀ a b, f b a = - f a b
  zero : ∀ a b, f a b = 0 ↔ a = b
  trans : ∀ a b c, f a b ≤ 0 → f b c ≤ 0 → f a c ≤ 0
section
variable {α : Type} {f : α → α → Int}
theorem Orders.ltl (h : Orders f) (a b c : α) (h1 : f a b < 0) (h2 : f b c ≤ 0) : f a c < 0 := by
  have h3 := h.trans a b c (by omega) h2
  rcases Int.lt_or_eq_of_le h3 with h4 | h4
  · exact h4
  · have e := (h.zero a c).1 h4
    subst e
    have := h.anti a b
    omega
theorem Orders.ltr (h : Orders f) (a b c : α) (h1 : f a b ≤ 0) (h2 : f b c < 0) : f a c < 0 := by
  have h3 := h.trans a b c h1 (by omega)
  rcases Int.lt_or_eq_of_le h3 with h4 | h4
  · exact h4
  · have e := (h.zero a c).1 h4
    subst e
    have := h.anti a b
    omega
theorem Orders.eq (h : Orders f) (a b c : α) (h1 : f a b = 0) (h2 : f b c = 0) : f a c = 0 :=
  (h.zero a c).2 (((h.zero a b).1 h1).trans ((h.zero b c).1 h2))
end
theorem orders_B : Orders ordB := ⟨ordB_anti, ordB_zero, ordB_trans⟩
theorem orders_Q : Orders ordQ := ⟨ordQ_anti, ordQ_zero, fun _ _ _ => ordQ_trans⟩

theorem ordO_anti : ∀ a b : Ob, ordO b a = - ordO a b
  | .num x, .num y => ordQ_anti x y
  | .str s, .str t => ordB_anti s t
  | .sym p n, .sym p' n' => next_anti (ordB_anti n n') (ordB_anti p p')
  | .cons a d, .cons a' d' => next_anti (ordO_anti a a') (ordO_anti d d')
  | .num _, .str _ => rfl
  | .num _, .sym _ _ => rfl
  | .num _, .cons _ _ => rfl
  | .str _, .num _ => rfl
  | .str _, .sym _ _ => rfl
  | .str _, .cons _ _ => rfl
  | .sym _ _, .num _ => rfl
  | .sym _ _, .str _ => rfl
  | .sym _ _, .cons _ _ => rfl
  | .cons _ _, .num _ => rfl
  | .cons _ _, .str _ => rfl
  | .cons _ _, .sym _ _ => rfl
theorem ordO_zero : ∀ a b : Ob, ordO a b = 0 ↔ a = b
  | .num x, .num y => by simp only [ordO, Ob.num.injEq]; exact ordQ_zero x y
  | .str s, .str t => by simp only [ordO, Ob.str.injEq]; exact ordB_zero s t
  | .sym p n, .sym p' n' => by simp only [ordO, ordS, next_zero, Ob.sym.injEq, ordB_zero]; exact And.comm
  | .cons a d, .cons a' d' => by simp only [ordO, next_zero, Ob.cons.injEq, ordO_zero a a', ordO_zero d d']
  | .num _, .str _ => by simp [ordO, Ob.rank]
  | .num _, .sym _ _ => by simp [ordO, Ob.rank]
  | .num _, .cons _ _ => by simp [ordO, Ob.rank]
  | .str _, .num _ => by simp [ordO, Ob.rank]
  | .str _, .sym _ _ => by simp [ordO, Ob.rank]
  | .str _, .cons _ _ => by simp [ordO, Ob.rank]
  | .sym _ _, .num _ => by simp [ordO, Ob.rank]
  | .sym _ _, .str _ => by simp [ordO, Ob.rank]
  | .sym _ _, .cons _ _ => by simp [ordO, Ob.rank]
  | .cons _ _, .num _ => by simp [ordO, Ob.rank]
  | .cons _ _, .str _ => by simp [ordO, Ob.rank]
  | .cons _ _, .sym _ _ => by simp [ordO, Ob.rank]
theorem ordO_rank : ∀ a b : Ob, ordO a b ≤ 0 → a.rank ≤ b.rank := by
  intro a b h
  cases a <;> cases b <;> simp [ordO, Ob.rank] at h ⊢
theorem ordO_less {a b : Ob} (h : a.rank < b.rank) : ordO a b = -1 := by
  cases a <;> cases b <;> simp [ordO, Ob.rank] at h ⊢
theorem ordO_more {a b : Ob} (h : b.rank < a.rank) : ordO a b = 1 := by
  cases a <;> cases b <;> simp [ordO, Ob.rank] at h ⊢
theorem ordO_trans : ∀ a b c : Ob, ordO a b ≤ 0 → ordO b c ≤ 0 → ordO a c ≤ 0 := by
  intro a
  induction a with
  | num x =>
    intro b c h1 h2
    have r1 := ordO_rank _ _ h1
    have r2 := ordO_rank _ _ h2
    by_cases e : Ob.rank (.num x) = c.rank
    · cases b <;> cases c <;> simp [Ob.rank] at e r1 r2
      exact ordQ_trans h1 h2
    · rw [ordO_less (by omega)]; omega
  | str s =>
    intro b c h1 h2
    have r1 := ordO_rank _ _ h1
    have r2 := ordO_rank _ _ h2
    by_cases e : Ob.rank (.str s) = c.rank
    · cases b <;> cases c <;> simp [Ob.rank] at e r1 r2
      exact ordB_trans _ _ _ h1 h2
    · rw [ordO_less (by omega)]; omega
  | sym p n =>
    intro b c h1 h2
    have r1 := ordO_rank _ _ h1
    have r2 := ordO_rank _ _ h2
    by_cases e : Ob.rank (.sym p n) = c.rank
    · cases b <;> cases c <;> simp [Ob.rank] at e r1 r2
      exact next_trans (orders_B.trans _ _ _) (orders_B.ltl _ _ _) (orders_B.ltr _ _ _) (orders_B.eq _ _ _) (orders_B.trans _ _ _) h1 h2
    · rw [ordO_less (by omega)]; omega
  | cons a d iha ihd =>
    intro b c h1 h2
    have r1 := ordO_rank _ _ h1
    have r2 := ordO_rank _ _ h2
    by_cases e : Ob.rank (.cons a d) = c.rank
    · cases b with
      | cons a' d' =>
        cases c with
        | cons a'' d'' =>
          have back : ∀ x y : Ob, ordO y x = - ordO x y := ordO_anti
          have hlt : ordO a a' < 0 → ordO a' a'' ≤ 0 → ordO a a'' < 0 := by
            intro g1 g2
            have g3 := iha a' a'' (by omega) g2
            rcases Int.lt_or_eq_of_le g3 with g4 | g4
            · exact g4
            · have e := (ordO_zero _ _).1 g4
              subst e
              have := ordO_anti a a'
              omega
          have hrt : ordO a a' ≤ 0 → ordO a' a'' < 0 → ordO a a'' < 0 := by
            intro g1 g2
            have g3 := iha a' a'' g1 (by omega)
            rcases Int.lt_or_eq_of_le g3 with g4 | g4
            · exact g4
            · have e := (ordO_zero _ _).1 g4
              subst e
              have := ordO_anti a a'
              omega
          exact next_trans (iha _ _) hlt hrt (fun g1 g2 => (ordO_zero _ _).2 (((ordO_zero _ _).1 g1).trans ((ordO_zero _ _).1 g2))) (ihd _ _) h1 h2
        | _ => simp [Ob.rank] at e
      | _ => simp [Ob.rank] at r1
    · rw [ordO_less (by omega)]; omega
theorem orders_O : Orders ordO := ⟨ordO_anti, ordO_zero, ordO_trans⟩
theorem ordO_range : ∀ a b : Ob, ordO a b = -1 ∨ ordO a b = 0 ∨ ordO a b = 1
  | .num x, .num y => ordQ_range x y
  | .str s, .str t => ordB_range s t
  | .sym p n, .sym p' n' => next_range (ordB_range n n') (ordB_range p p')
  | .cons a d, .cons a' d' => next_range (ordO_range a a') (ordO_range d d')
  | .num _, .str _ => .inl rfl
  | .num _, .sym _ _ => .inl rfl
  | .num _, .cons _ _ => .inl rfl
  | .str _, .num _ => .inr (.inr rfl)
  | .str _, .sym _ _ => .inl rfl
  | .str _, .cons _ _ => .inl rfl
  | .sym _ _, .num _ => .inr (.inr rfl)
  | .sym _ _, .str _ => .inr (.inr rfl)
  | .sym _ _, .cons _ _ => .inl rfl
  | .cons _ _, .num _ => .inr (.inr rfl)
  | .cons _ _, .str _ => .inr (.inr rfl)
  | .cons _ _, .sym _ _ => .inr (.inr rfl)

/-- Nodes, the items of a proper list, numbers for what is none. -/
def Ob.nodes : Ob → Nat
  | .cons a d => 1 + a.nodes + d.nodes
  | _ => 1
theorem Ob.nodes_pos (a : Ob) : 1 ≤ a.nodes := by cases a <;> simp only [Ob.nodes] <;> omega
def lispB : List UInt8 := [108, 105, 115, 112]
def Ob.nil : Ob := .sym lispB [110, 105, 108]
def Ob.t : Ob := .sym lispB [116]
def Ob.list (l : List Ob) : Ob := l.foldr .cons .nil
def Ob.items : Ob → Option (List Ob)
  | .cons a d => d.items.map (a :: ·)
  | x => if x = .nil then some [] else none
theorem Ob.items_list (l : List Ob) : (Ob.list l).items = some l := by
  induction l with
  | nil => rfl
  | cons a l ih =>
    show (Ob.items (.cons a (Ob.list l))) = _
    simp only [Ob.items, ih, Option.map_some]
def Ob.fix : Ob → Rat
  | .num q => q
  | _ => 0

end Go.Proofs.YtfnkmgipjemkdaaDoor
