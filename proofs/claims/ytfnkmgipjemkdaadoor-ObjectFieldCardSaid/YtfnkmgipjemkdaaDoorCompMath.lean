/- The order of texts of digits, and the library's numerals in the words of this proof. -/
import Derived.Test.YtfnkmgipjemkdaaDoorTop
import Derived.Lib.Bytealg
import Derived.Lib.ItoaNum
namespace Go.Proofs.YtfnkmgipjemkdaaDoor
open Go Go.RowKit
set_option linter.unusedVariables false

theorem toDigs_cons (c : UInt8) (l : List UInt8) : toDigs (c :: l) = toDigs l ++ [c.toNat - 48] := by
  unfold toDigs; simp
theorem ofD_toDigs_cons (c : UInt8) (l : List UInt8) : ofD (toDigs (c :: l)) = ofD (toDigs l) + 10 ^ l.length * (c.toNat - 48) := by
  rw [toDigs_cons, ofD_append, toDigs_length]
  simp [ofD]
theorem ofD_toDigs_lt {l : List UInt8} (h : l.all isDig = true) : ofD (toDigs l) < 10 ^ l.length := by
  have := ofD_lt (allDig_toDigs h)
  rwa [toDigs_length] at this

theorem compare_digits : ∀ (x y : List UInt8), x.all isDig = true → y.all isDig = true → x.length = y.length → Lib.compareBytes x y = ordN (ofD (toDigs x)) (ofD (toDigs y))
  | [], [], _, _, _ => by simp [Lib.compareBytes, ordN, toDigs]
  | [], _ :: _, _, _, h => by simp at h
  | _ :: _, [], _, _, h => by simp at h
  | c :: x, d :: y, hx, hy, h => by
    rw [List.all_cons, Bool.and_eq_true] at hx hy
    have hl : x.length = y.length := by simpa using h
    have ih := compare_digits x y hx.2 hy.2 hl
    have hxl := ofD_toDigs_lt hx.2
    have hyl := ofD_toDigs_lt hy.2
    have hc := (isDig_iff c).1 hx.1
    have hd := (isDig_iff d).1 hy.1
    rw [ofD_toDigs_cons, ofD_toDigs_cons, Lib.compareBytes]
    rw [← hl] at hyl ⊢
    by_cases h1 : c < d
    · rw [if_pos h1]
      have h2 : c.toNat < d.toNat := h1
      have h3 := Nat.mul_le_mul_left (10 ^ x.length) (show c.toNat - 48 + 1 ≤ d.toNat - 48 by omega)
      rw [Nat.mul_add, Nat.mul_one] at h3
      rw [ordN_lt (by omega)]
    · rw [if_neg h1]
      by_cases h2 : d < c
      · rw [if_pos h2]
        have h2' : d.toNat < c.toNat := h2
        have h3 := Nat.mul_le_mul_left (10 ^ x.length) (show d.toNat - 48 + 1 ≤ c.toNat - 48 by omega)
        rw [Nat.mul_add, Nat.mul_one] at h3
        rw [ordN_gt (by omega)]
      · rw [if_neg h2, ih]
        have h1' : ¬ c.toNat < d.toNat := h1
        have h2' : ¬ d.toNat < c.toNat := h2
        have e : c.toNat = d.toNat := by omega
        rw [e]
        generalize 10 ^ x.length * (d.toNat - 48) = k
        rcases Nat.lt_trichotomy (ofD (toDigs x)) (ofD (toDigs y)) with g | g | g
        · rw [ordN_lt g, ordN_lt (by omega)]
        · rw [ordN_eq g, ordN_eq (by omega)]
        · rw [ordN_gt g, ordN_gt (by omega)]

theorem body_len (l : List UInt8) : (body l).length = if mag l = 0 then 1 else (digs (mag l)).length := by
  rw [← magText_mag l]
  unfold magText
  split
  · rfl
  · rw [List.length_reverse, List.length_map]
theorem mag_lt_of_len {l l' : List UInt8} (h : (body l).length < (body l').length) : mag l < mag l' := by
  rw [body_len, body_len] at h
  by_cases h0 : mag l = 0
  · rw [if_pos h0] at h
    by_cases h1 : mag l' = 0
    · rw [if_pos h1] at h; omega
    · omega
  · rw [if_neg h0] at h
    by_cases h1 : mag l' = 0
    · rw [if_pos h1] at h
      have := List.length_pos_iff.2 (digs_ne_nil h0)
      omega
    · rw [if_neg h1] at h
      exact lt_of_digs_length_lt h
theorem compare_bodies {l l' : List UInt8} (h : (body l).length = (body l').length) : Lib.compareBytes (body l) (body l') = ordN (mag l) (mag l') :=
  compare_digits _ _ (body_all l) (body_all l') h

theorem decDigits_eq (n : Nat) : Lib.decDigits n = magText n := by
  induction n using Nat.strongRecOn with
  | ind n ih =>
    rw [Lib.decDigits]
    by_cases h : n < 10
    · rw [dif_pos h]
      unfold magText
      by_cases h0 : n = 0
      · subst h0; rfl
      · rw [if_neg h0, digs_pos h0, Nat.div_eq_of_lt h, digs_zero, Nat.mod_eq_of_lt h]
        unfold byteOf
        rw [Nat.add_comm]
        rfl
    · rw [dif_neg h, ih (n / 10) (by omega)]
      unfold magText
      rw [if_neg (by omega), if_neg (by omega)]
      rw [digs_pos (n := n) (by omega), List.map_cons, List.reverse_cons]
      unfold byteOf
      rw [Nat.add_comm (n % 10)]
theorem itoa_eq (n : Int) : Lib.itoa n = text n := by
  unfold Lib.itoa text signText
  rw [decDigits_eq, decDigits_eq]
  by_cases h : n < 0
  · have : (n.natAbs != 0) = true := by rw [bne_iff_ne]; omega
    simp [h, this]
  · simp [h]
    congr 1
    omega

/-- The order of two numbers with signs. -/
theorem ordI_lt {a b : Int} (h : a < b) : ordI a b = -1 := if_pos h
theorem ordI_gt {a b : Int} (h : b < a) : ordI a b = 1 := by unfold ordI; rw [if_neg (by omega), if_pos h]
theorem ordI_eq {a b : Int} (h : a = b) : ordI a b = 0 := by unfold ordI; rw [if_neg (by omega), if_neg (by omega)]
theorem ord_tf {n m : Nat} (hn : n ≠ 0) : ordI (zval true n) (zval false m) = -1 := ordI_lt (by unfold zval; simp; omega)
theorem ord_ft {n m : Nat} (hm : m ≠ 0) : ordI (zval false n) (zval true m) = 1 := ordI_gt (by unfold zval; simp; omega)
theorem ord_ff (n m : Nat) : ordI (zval false n) (zval false m) = ordN n m := by
  rcases Nat.lt_trichotomy n m with g | g | g
  · rw [ordN_lt g, ordI_lt (by unfold zval; simpa using g)]
  · rw [ordN_eq g, ordI_eq (by rw [g])]
  · rw [ordN_gt g, ordI_gt (by unfold zval; simpa using g)]
theorem ord_tt (n m : Nat) : ordI (zval true n) (zval true m) = ordN m n := by
  rcases Nat.lt_trichotomy m n with g | g | g
  · rw [ordN_lt g, ordI_lt (by unfold zval; simp; omega)]
  · rw [ordN_eq g, ordI_eq (by rw [g])]
  · rw [ordN_gt g, ordI_gt (by unfold zval; simp; omega)]
theorem neg_mag {l : List UInt8} (h : neg l = true) : mag l ≠ 0 := by
  intro h0
  have h1 := text_val (l := l) (by unfold neg at h; rw [Bool.and_eq_true] at h; exact h.1)
  unfold val at h1
  rw [h0, h] at h1
  rw [← h1] at h
  exact absurd h (by decide)

end Go.Proofs.YtfnkmgipjemkdaaDoor
