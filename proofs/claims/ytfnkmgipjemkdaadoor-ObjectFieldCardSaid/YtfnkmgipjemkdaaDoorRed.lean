/- number.Reduce. -/
import Derived.Test.YtfnkmgipjemkdaaDoorM26
namespace Go.Proofs.YtfnkmgipjemkdaaDoor
open Go Go.RowKit
set_option linter.unusedVariables false

set_option maxHeartbeats 2000000 in
set_option maxRecDepth 100000 in
theorem reduce_zero (s t : ByteArray) (w : World) (hs : s.size ≤ 400000000) (ht : t.size ≤ 400000000) (h0 : mag (LA t) = 0) :
    Calls Tryd.prog 22 #[.string s, .string t] w (RetSS w 0 1) := by
  have hz : (mag (LA t) == 0) = true := by rw [h0]; rfl
  have H0 := Lib.hid h0
  clear h0
  go_enter Tryd.func22, Tryd.ntmps22
  go_wp2_with fail
  refine (parse_any s _ (by omega)).mono ?_
  rintro e w1 ⟨A1, c1, rfl, hc1, hR1, hb1⟩
  go_wp2_with fail
  refine (parse_any t _ (by omega)).mono ?_
  rintro e w2 ⟨A2, c2, rfl, hc2, hR2, hb2⟩
  go_wp2_with fail
  have hT := Two.new w2 (.bool (neg (LA s))) (.slice A1 (digs (mag (LA s))).length c1) (.bool (neg (LA t))) (.slice A2 (digs (mag (LA t))).length c2)
  generalize (w2.alloc (.cells #[.bool (neg (LA s)), .slice A1 (digs (mag (LA s))).length c1] 59)).alloc (.cells #[.bool (neg (LA t)), .slice A2 (digs (mag (LA t))).length c2] 59) = W at hT ⊢
  clear hR1 hR2
  refine (isZero_any _ A2 _ c2 _).mono ?_
  rintro e w3 ⟨rfl, hb3⟩
  obtain ⟨k0, k1, k2⟩ := hT.below hb3
  go_wp2
  go_ret2
  exact ⟨rfl, (hb1.trans (hb2.mono hb1.size)).trans (k2.mono (Nat.le_trans hb1.size hb2.size))⟩

theorem gcd_len (n m : Nat) (hm : m ≠ 0) : (digs (Nat.gcd n m)).length ≤ (digs m).length := digs_length_mono (Nat.gcd_le_right n (Nat.pos_of_ne_zero hm))

set_option maxHeartbeats 4000000 in
set_option maxRecDepth 100000 in
theorem reduce_pos (s t : ByteArray) (w : World) (hs : s.size ≤ 400000000) (ht : t.size ≤ 400000000) (h0 : mag (LA t) ≠ 0) :
    Calls Tryd.prog 22 #[.string s, .string t] w (RetSS w (zval (neg (LA s) != neg (LA t)) (mag (LA s) / Nat.gcd (mag (LA s)) (mag (LA t)))) (zval false (mag (LA t) / Nat.gcd (mag (LA s)) (mag (LA t))))) := by
  have hl := magLen s
  have hl2 := magLen t
  have hz : (mag (LA t) == 0) = false := by rw [beq_eq_false_iff_ne]; exact h0
  have hg0 : Nat.gcd (mag (LA s)) (mag (LA t)) ≠ 0 := fun h => h0 (Nat.gcd_eq_zero_iff.1 h).2
  have hgl := gcd_len (mag (LA s)) (mag (LA t)) h0
  have hl3 : (digs (mag (LA s) / Nat.gcd (mag (LA s)) (mag (LA t)))).length ≤ (digs (mag (LA s))).length := digs_length_mono (Nat.div_le_self _ _)
  have hl4 : (digs (mag (LA t) / Nat.gcd (mag (LA s)) (mag (LA t)))).length ≤ (digs (mag (LA t))).length := digs_length_mono (Nat.div_le_self _ _)
  go_enter Tryd.func22, Tryd.ntmps22
  go_wp2_with fail
  refine (parse_any s _ (by omega)).mono ?_
  rintro e w1 ⟨A1, c1, rfl, hc1, hR1, hb1⟩
  go_wp2_with fail
  refine (parse_any t _ (by omega)).mono ?_
  rintro e w2 ⟨A2, c2, rfl, hc2, hR2, hb2⟩
  replace hR1 := (hR1.below hb2).more hb2.size
  go_wp2_with fail
  have hT := Two.new w2 (.bool (neg (LA s))) (.slice A1 (digs (mag (LA s))).length c1) (.bool (neg (LA t))) (.slice A2 (digs (mag (LA t))).length c2)
  generalize (w2.alloc (.cells #[.bool (neg (LA s)), .slice A1 (digs (mag (LA s))).length c1] 59)).alloc (.cells #[.bool (neg (LA t)), .slice A2 (digs (mag (LA t))).length c2] 59) = W at hT ⊢
  have hTs := hT.size
  have hr : Reads W W.heap.size .u8 A1 (digs (mag (LA s))) := (hR1.below hT.bel).more (by omega)
  have hr' : Reads W W.heap.size .u8 A2 (digs (mag (LA t))) := (hR2.below hT.bel).more (by omega)
  clear hR1 hR2
  refine (isZero_any _ A2 _ c2 _).mono ?_
  rintro e w3 ⟨rfl, hb3⟩
  obtain ⟨k0, k1, k2⟩ := hT.below hb3
  have hs3 := hb3.size
  replace hr := (hr.below hb3).more hb3.size
  replace hr' := (hr'.below hb3).more hb3.size
  have j0 := k0.cell0
  have j1 := k0.cell1
  have j2 := k1.cell0
  have j3 := k1.cell1
  go_wp2_with fail
  refine (gcdNat_any A1 A2 _ _ _ _ c1 c2 _ rfl rfl hr hr' hc1 hc2 (by omega) (by omega)).mono ?_
  rintro e w4 ⟨A3, c3, rfl, hc3, hR3, hb4⟩
  have hs4 := hb4.size
  have p0 := k0.below hb4 (by omega)
  have p1 := k1.below hb4 (by omega)
  have p2 := k2.trans (hb4.mono (by omega))
  replace hr := (hr.below hb4).more hb4.size
  replace hr' := (hr'.below hb4).more hb4.size
  clear j0 j1 j2 j3
  have j0 := p0.cell0
  have j1 := p0.cell1
  have j2 := p1.cell0
  have j3 := p1.cell1
  go_wp2_with fail
  refine (divNat_any A1 A3 _ _ _ _ c1 c3 _ rfl rfl hr hR3 hc1 (by omega) hg0).mono ?_
  rintro e w5 ⟨A4, c4, A5, c5, rfl, hc4, hc5, hR4, hR5, hb5⟩
  have hs5 := hb5.size
  have q0 := p0.below hb5 (by omega)
  have q1 := p1.below hb5 (by omega)
  have q2 := p2.trans (hb5.mono (by omega))
  replace hr' := (hr'.below hb5).more hb5.size
  replace hR3 := (hR3.below hb5).more hb5.size
  clear j0 j1 j2 j3 hR5 hr
  have j0 := q0.cell0
  have j1 := q0.cell1
  have j2 := q1.cell0
  have j3 := q1.cell1
  go_wp2_with fail
  refine (divNat_any A2 A3 _ _ _ _ c2 c3 _ rfl rfl hr' hR3 hc2 (by omega) hg0).mono ?_
  rintro e w6 ⟨A6, c6, A7, c7, rfl, hc6, hc7, hR6, hR7, hb6⟩
  have hs6 := hb6.size
  have t0 := q0.below hb6 (by omega)
  have t1 := q1.below hb6 (by omega)
  have t2 := q2.trans (hb6.mono (by omega))
  replace hR4 := (hR4.below hb6).more hb6.size
  clear j0 j1 j2 j3 hR7 hr' hR3
  have j0 := t0.cell0
  have j1 := t0.cell1
  have j2 := t1.cell0
  have j3 := t1.cell1
  go_wp2_with fail
  refine (text_any _ A4 _ c4 _ (by omega) hR4).mono ?_
  rintro e w7 ⟨rfl, hb7⟩
  have hs7 := hb7.size
  replace hR6 := (hR6.below hb7).more hb7.size
  go_wp2_with fail
  refine (text_any _ A6 _ c6 _ (by omega) hR6).mono ?_
  rintro e w8 ⟨rfl, hb8⟩
  go_wp2
  go_ret2
  exact ⟨rfl, (hb1.trans (hb2.mono hb1.size)).trans (((t2.trans (hb7.mono (by omega))).trans (hb8.mono (by omega))).mono (Nat.le_trans hb1.size hb2.size))⟩

end Go.Proofs.YtfnkmgipjemkdaaDoor
