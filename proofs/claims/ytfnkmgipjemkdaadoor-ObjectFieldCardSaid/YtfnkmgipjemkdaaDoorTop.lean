/- number.Negate, Add, Subtract, Multiply, Gcd. -/
import Derived.Test.YtfnkmgipjemkdaaDoorPlus
import Derived.Test.YtfnkmgipjemkdaaDoorMul
import Derived.Test.YtfnkmgipjemkdaaDoorGcd
namespace Go.Proofs.YtfnkmgipjemkdaaDoor
open Go Go.RowKit
set_option linter.unusedVariables false

def zval (b : Bool) (n : Nat) : Int := if b then -(n : Int) else n
theorem val_eq (l : List UInt8) : val l = zval (neg l) (mag l) := rfl
theorem zval_plus (b b' : Bool) (n m : Nat) : zval (zsign b n b' m) (zmag b n b' m) = zval b n + zval b' m := by
  unfold zsign zmag zval
  cases b <;> cases b' <;> simp only [if_false, if_true, Bool.false_eq_true, Bool.true_eq_false] <;> (try split) <;> (try simp only [if_true, if_false, Bool.false_eq_true]) <;> omega
theorem zval_not (b : Bool) (n : Nat) : zval (!b) n = - zval b n := by
  unfold zval; cases b <;> simp
theorem zval_mul (b b' : Bool) (n m : Nat) : zval (b != b') (n * m) = zval b n * zval b' m := by
  unfold zval
  cases b <;> cases b' <;> simp [Int.neg_mul, Int.mul_neg]

/-- The call returned the text of x. -/
def RetS (w : World) (x : Int) (e : Ending) (w' : World) : Prop := e = .returned (.string (BA (text x))) ∧ Below w.heap.size w w'

theorem magLen (s : ByteArray) : (digs (mag (LA s))).length ≤ s.size + 1 := by
  have h := digs_length_le (mag_lt (LA s))
  rw [LA_length] at h
  omega
theorem mag_bd (s : ByteArray) : mag (LA s) < 10 ^ (s.size + 1) :=
  Nat.lt_of_lt_of_le (lt_pow_digs _) (Nat.pow_le_pow_right (by decide) (magLen s))
theorem zmag_lt {b b' : Bool} {n m k : Nat} (hn : n < 10 ^ k) (hm : m < 10 ^ k) : zmag b n b' m < 10 ^ (k + 1) := by
  rw [Nat.pow_succ]
  unfold zmag
  split
  · omega
  · split <;> omega

theorem text_any (b : Bool) (A : Option Addr) (n c : Nat) (w : World) (h9 : (digs n).length ≤ 1000000000) (h : Reads w w.heap.size .u8 A (digs n)) :
    Calls Tryd.prog 39 #[.agg #[.bool b, .slice A (digs n).length c]] w (RetS w (zval b n)) := by
  have e : text (zval b n) = signText b n := (signText_eq b n).symm
  unfold RetS
  rw [e]
  by_cases hn : n = 0
  · subst hn; exact text_zero b A c w
  · exact text_pos b A n _ c w rfl hn h9 h

set_option maxHeartbeats 1000000 in
set_option maxRecDepth 100000 in
theorem negate_any (s : ByteArray) (w : World) (hs : s.size ≤ 400000000) :
    Calls Tryd.prog 28 #[.string s] w (RetS w (- val (LA s))) := by
  go_enter Tryd.func28, Tryd.ntmps28
  go_wp2_with fail
  refine (parse_any s _ (by omega)).mono ?_
  rintro e w1 ⟨A1, c1, rfl, hc1, hR1, hb1⟩
  go_wp2_with fail
  refine (negated_any _ A1 _ c1 _ hc1 hR1).mono ?_
  rintro e w2 ⟨A2, c2, rfl, hc2, hR2, hb2⟩
  have hl := magLen s
  go_wp2_with fail
  refine (text_any _ A2 _ c2 _ (by omega) hR2).mono ?_
  rintro e w3 ⟨rfl, hb3⟩
  go_wp2
  go_ret
  exact ⟨by rw [val_eq, ← zval_not]; rfl, (hb1.trans (hb2.mono hb1.size)).trans (hb3.mono (Nat.le_trans hb1.size hb2.size))⟩

set_option maxHeartbeats 1000000 in
set_option maxRecDepth 100000 in
theorem add_any (s t : ByteArray) (w : World) (hs : s.size ≤ 400000000) (ht : t.size ≤ 400000000) :
    Calls Tryd.prog 27 #[.string s, .string t] w (RetS w (val (LA s) + val (LA t))) := by
  have hl := magLen s
  have hl2 := magLen t
  go_enter Tryd.func27, Tryd.ntmps27
  go_wp2_with fail
  refine (parse_any s _ (by omega)).mono ?_
  rintro e w1 ⟨A1, c1, rfl, hc1, hR1, hb1⟩
  go_wp2_with fail
  refine (parse_any t _ (by omega)).mono ?_
  rintro e w2 ⟨A2, c2, rfl, hc2, hR2, hb2⟩
  replace hR1 := (hR1.below hb2).more hb2.size
  go_wp2_with fail
  refine (plus_any _ _ A1 A2 _ _ c1 c2 _ hR1 hR2 (by omega) (by omega)).mono ?_
  rintro e w3 ⟨A3, c3, rfl, hc3, hR3, hb3⟩
  have hz : (digs (zmag (neg (LA s)) (mag (LA s)) (neg (LA t)) (mag (LA t)))).length ≤ max (s.size + 1) (t.size + 1) + 1 :=
    digs_length_le (zmag_lt (Nat.lt_of_lt_of_le (mag_bd s) (Nat.pow_le_pow_right (by decide) (by omega))) (Nat.lt_of_lt_of_le (mag_bd t) (Nat.pow_le_pow_right (by decide) (by omega))))
  have h12 := hb1.size
  have h23 := hb2.size
  have h34 := hb3.size
  go_wp2_with fail
  refine (text_any _ A3 _ c3 _ (by omega) hR3).mono ?_
  rintro e w4 ⟨rfl, hb4⟩
  go_wp2
  go_ret
  exact ⟨by rw [val_eq, val_eq, ← zval_plus]; rfl, ((hb1.trans (hb2.mono (by omega))).trans (hb3.mono (by omega))).trans (hb4.mono (by omega))⟩

theorem fld1 (b v : Value) (w : World) : (Instr.field 59 (.agg #[b, v]) 1).run Tryd.prog w = .ok v w := by kernel_rfl

set_option maxHeartbeats 1000000 in
set_option maxRecDepth 100000 in
theorem gcd_any (s t : ByteArray) (w : World) (hs : s.size ≤ 400000000) (ht : t.size ≤ 400000000) :
    Calls Tryd.prog 66 #[.string s, .string t] w (RetS w (Nat.gcd (mag (LA s)) (mag (LA t)) : Nat)) := by
  have hl := magLen s
  have hl2 := magLen t
  have hfld := fld1
  go_enter Tryd.func66, Tryd.ntmps66
  go_wp2_with fail
  refine (parse_any s _ (by omega)).mono ?_
  rintro e w1 ⟨A1, c1, rfl, hc1, hR1, hb1⟩
  go_wp2_with fail
  refine (parse_any t _ (by omega)).mono ?_
  rintro e w2 ⟨A2, c2, rfl, hc2, hR2, hb2⟩
  replace hR1 := (hR1.below hb2).more hb2.size
  go_wp2_with fail
  refine (gcdNat_any A1 A2 _ _ _ _ c1 c2 _ rfl rfl hR1 hR2 hc1 hc2 (by omega) (by omega)).mono ?_
  rintro e w3 ⟨A3, c3, rfl, hc3, hR3, hb3⟩
  have hz : (digs (Nat.gcd (mag (LA s)) (mag (LA t)))).length ≤ max (digs (mag (LA s))).length (digs (mag (LA t))).length := by
    by_cases h0 : mag (LA s) = 0
    · rw [h0, Nat.gcd_zero_left]; omega
    · have := digs_length_mono (Nat.gcd_le_left (n := mag (LA t)) (Nat.pos_of_ne_zero h0)); omega
  have h12 := hb1.size
  have h23 := hb2.size
  have h34 := hb3.size
  go_wp2_with fail
  refine (text_any false A3 _ c3 _ (by omega) hR3).mono ?_
  rintro e w4 ⟨rfl, hb4⟩
  go_wp2
  go_ret
  exact ⟨rfl, ((hb1.trans (hb2.mono (by omega))).trans (hb3.mono (by omega))).trans (hb4.mono (by omega))⟩

end Go.Proofs.YtfnkmgipjemkdaaDoor
