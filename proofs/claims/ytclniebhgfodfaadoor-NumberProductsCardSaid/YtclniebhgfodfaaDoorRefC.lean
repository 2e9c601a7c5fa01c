/- The reference's Reduce, Compare, Digits. -/
import Derived.Test.YtclniebhgfodfaaDoorRefB
import Derived.Test.YtclniebhgfodfaaDoorRed
namespace Go.Proofs.YtclniebhgfodfaaDoor
open Go Go.RowKit
set_option linter.unusedVariables false

theorem mag_BA (x : Int) : mag (LA (BA (text x))) = x.natAbs := by rw [LA_BA, ← val_natAbs, val_text]
theorem len_BA {x : Int} {k : Nat} (h : x.natAbs < 10 ^ k) : (BA (text x)).size ≤ k + 2 := by rw [BA_size]; exact text_length h

set_option maxHeartbeats 1000000 in
theorem reduceR_zero (s t : ByteArray) (w : World) (hs : s.size ≤ 300000000) (ht : t.size ≤ 300000000) (h0 : mag (LA t) = 0) :
    Calls Tryd.prog 38 #[.string s, .string t] w (RetSS w 0 1) := by
  have hz : (((digs (mag (LA t))).length : Int) == 0) = true := by rw [h0]; rfl
  replace h0 := Lib.hid h0
  go_enter Tryd.func38, Tryd.ntmps38
  go_wp2_with fail
  refine (digitsR t _ (by omega)).mono ?_
  rintro e w2 ⟨A2, c2, rfl, hc2, hR2, hb2⟩
  go_wp2
  go_ret2
  exact ⟨rfl, hb2⟩

set_option maxHeartbeats 2000000 in
theorem reduceR_pos (s t : ByteArray) (w : World) (hs : s.size ≤ 300000000) (ht : t.size ≤ 300000000) (h0 : mag (LA t) ≠ 0) :
    Calls Tryd.prog 38 #[.string s, .string t] w (RetSS w (zval (neg (LA s) != neg (LA t)) (mag (LA s) / Nat.gcd (mag (LA s)) (mag (LA t)))) (zval false (mag (LA t) / Nat.gcd (mag (LA s)) (mag (LA t))))) := by
  have hl := magLen s
  have hl2 := magLen t
  have hp := len_pos_of h0
  have hz : (((digs (mag (LA t))).length : Int) == 0) = false := by rw [beq_eq_false_iff_ne]; omega
  have hg0 : Nat.gcd (mag (LA s)) (mag (LA t)) ≠ 0 := fun h => h0 (Nat.gcd_eq_zero_iff.1 h).2
  have hgl := gcd_len (mag (LA s)) (mag (LA t)) h0
  have hgs : (BA (text ((Nat.gcd (mag (LA s)) (mag (LA t)) : Nat) : Int))).size ≤ 400000000 := by
    have h1 := len_BA (x := ((Nat.gcd (mag (LA s)) (mag (LA t)) : Nat) : Int)) (k := t.size + 1) (by
      rw [Int.natAbs_natCast]
      exact Nat.lt_of_le_of_lt (Nat.gcd_le_right _ (Nat.pos_of_ne_zero h0)) (mag_bd t))
    omega
  have hgm : Hid (mag (LA (BA (text ((Nat.gcd (mag (LA s)) (mag (LA t)) : Nat) : Int)))) = Nat.gcd (mag (LA s)) (mag (LA t))) := by show _ = _; rw [mag_BA, Int.natAbs_natCast]
  have hl3 : (digs (mag (LA s) / Nat.gcd (mag (LA s)) (mag (LA t)))).length ≤ (digs (mag (LA s))).length := digs_length_mono (Nat.div_le_self _ _)
  have hl4 : (digs (mag (LA t) / Nat.gcd (mag (LA s)) (mag (LA t)))).length ≤ (digs (mag (LA t))).length := digs_length_mono (Nat.div_le_self _ _)
  obtain ⟨x, hx⟩ : ∃ x, BA (text ((Nat.gcd (mag (LA s)) (mag (LA t)) : Nat) : Int)) = x := ⟨_, rfl⟩
  rw [hx] at hgs hgm
  have HX := Lib.hid hx
  clear hx
  go_enter Tryd.func38, Tryd.ntmps38
  go_wp2_with fail
  refine (digitsR t _ (by omega)).mono ?_
  rintro e w1 ⟨A2, c2, rfl, hc2, hR2, hb1⟩
  have h12 := hb1.size
  go_wp2_with fail
  refine (digitsR s _ (by omega)).mono ?_
  rintro e w2 ⟨A1, c1, rfl, hc1, hR1, hb2⟩
  have h23 := hb2.size
  replace hR2 := (hR2.below hb2).more hb2.size
  go_wp2_with fail
  refine (gcdR s t _ (by omega) (by omega)).mono ?_
  rintro e w3 ⟨rfl, hb3⟩
  have h34 := hb3.size
  replace hR2 := (hR2.below hb3).more hb3.size
  replace hR1 := (hR1.below hb3).more hb3.size
  rw [HX.out]
  go_wp2_with fail
  refine (digitsR x _ (by omega)).mono ?_
  rintro e w4 ⟨A3, c3, rfl, hc3, hR3, hb4⟩
  have h45 := hb4.size
  replace hR2 := (hR2.below hb4).more hb4.size
  replace hR1 := (hR1.below hb4).more hb4.size
  rw [hgm.out] at hc3 hR3 ⊢
  go_wp2_with fail
  refine (overR A1 A3 _ _ _ _ c1 c3 _ rfl rfl hR1 hR3 (by omega) (by omega) hg0).mono ?_
  rintro e w5 ⟨A4, c4, A5, c5, rfl, hc4, hc5, hR4, hR5, hb5⟩
  have h56 := hb5.size
  replace hR2 := (hR2.below hb5).more hb5.size
  replace hR3 := (hR3.below hb5).more hb5.size
  clear hR5 hR1
  go_wp2_with fail
  refine (overR A2 A3 _ _ _ _ c2 c3 _ rfl rfl hR2 hR3 (by omega) (by omega) hg0).mono ?_
  rintro e w6 ⟨A6, c6, A7, c7, rfl, hc6, hc7, hR6, hR7, hb6⟩
  have h67 := hb6.size
  replace hR4 := (hR4.below hb6).more hb6.size
  clear hR7 hR2 hR3
  go_wp2_with fail
  refine (textRD (neg (LA s) != neg (LA t)) A4 _ c4 _ hR4 hc4 (by omega)).mono ?_
  rintro e w7 ⟨rfl, hb7⟩
  have h78 := hb7.size
  replace hR6 := (hR6.below hb7).more hb7.size
  go_wp2_with fail
  refine (textRD false A6 _ c6 _ hR6 hc6 (by omega)).mono ?_
  rintro e w8 ⟨rfl, hb8⟩
  go_wp2
  go_ret2
  exact ⟨rfl, (((((((hb1.trans (hb2.mono (by omega))).trans (hb3.mono (by omega))).trans (hb4.mono (by omega))).trans (hb5.mono (by omega))).trans (hb6.mono (by omega))).trans (hb7.mono (by omega))).trans (hb8.mono (by omega)))⟩

set_option maxHeartbeats 1000000 in
theorem digitsCountR (s : ByteArray) (w : World) (hs : s.size ≤ 400000000) :
    Calls Tryd.prog 20 #[.string s] w fun e w' => e = .returned (.int .i64 ((body (LA s)).length : Nat)) ∧ Below w.heap.size w w' := by
  have hb := body_len (LA s)
  by_cases h0 : mag (LA s) = 0
  · rw [if_pos h0] at hb
    rw [hb]
    have hz : Hid ((digs (mag (LA s))).length = 0) := by show _ = _; rw [h0]; rfl
    clear hb h0
    go_enter Tryd.func20, Tryd.ntmps20
    go_wp2_with fail
    refine (digitsR s _ (by omega)).mono ?_
    rintro e w2 ⟨A2, c2, rfl, hc2, hR2, hb2⟩
    rw [hz.out]
    go_wp2
    go_ret
    exact ⟨rfl, hb2⟩
  · rw [if_neg h0] at hb
    rw [hb]
    have hp := len_pos_of h0
    clear hb h0
    go_enter Tryd.func20, Tryd.ntmps20
    go_wp2_with fail
    refine (digitsR s _ (by omega)).mono ?_
    rintro e w2 ⟨A2, c2, rfl, hc2, hR2, hb2⟩
    go_wp2
    all_goals (go_ret; first | exact ⟨rfl, hb2⟩ | exact ⟨ret_int (by omega), hb2⟩)

set_option maxHeartbeats 2000000 in
theorem compareR (s t : ByteArray) (w : World) (hs : s.size ≤ 400000000) (ht : t.size ≤ 400000000) :
    Calls Tryd.prog 24 #[.string s, .string t] w fun e w' => e = .returned (.int .i64 (ordI (val (LA s)) (val (LA t)))) ∧ Below w.heap.size w w' := by
  have hl := magLen s
  have hl2 := magLen t
  rw [val_eq, val_eq]
  have nx := @neg_mag (LA s)
  have ny := @neg_mag (LA t)
  cases hb : neg (LA s) <;> cases hb' : neg (LA t) <;> rw [hb] at nx <;> rw [hb'] at ny <;> have Hb := Lib.hid hb <;> have Hb' := Lib.hid hb' <;> clear hb hb' <;> (go_enter Tryd.func24, Tryd.ntmps24)
  · rw [ord_ff]
    clear nx ny
    go_wp2_with fail
    refine (digitsR s _ (by omega)).mono ?_
    rintro e w1 ⟨A1, c1, rfl, hc1, hR1, hb1⟩
    rw [Hb.out]
    have h12 := hb1.size
    go_wp2_with fail
    refine (digitsR t _ (by omega)).mono ?_
    rintro e w2 ⟨A2, c2, rfl, hc2, hR2, hb2⟩
    rw [Hb'.out]
    replace hR1 := (hR1.below hb2).more hb2.size
    go_wp2_with fail
    refine (orderR A1 A2 (mag (LA s)) (mag (LA t)) _ _ c1 c2 _ _ rfl rfl hR1 hR2 (by omega) (by omega)).mono ?_
    rintro e w3 ⟨rfl, nq, rfl⟩
    go_wp2
    go_ret
    exact ⟨rfl, below_drewN (hb1.trans (hb2.mono (by omega))) nq⟩
  · rw [ord_ft (ny rfl)]
    clear nx ny
    go_wp2_with fail
    refine (digitsR s _ (by omega)).mono ?_
    rintro e w1 ⟨A1, c1, rfl, hc1, hR1, hb1⟩
    rw [Hb.out]
    have h12 := hb1.size
    go_wp2_with fail
    refine (digitsR t _ (by omega)).mono ?_
    rintro e w2 ⟨A2, c2, rfl, hc2, hR2, hb2⟩
    rw [Hb'.out]
    replace hR1 := (hR1.below hb2).more hb2.size
    go_wp2
    go_ret
    exact ⟨rfl, hb1.trans (hb2.mono (by omega))⟩
  · rw [ord_tf (nx rfl)]
    clear nx ny
    go_wp2_with fail
    refine (digitsR s _ (by omega)).mono ?_
    rintro e w1 ⟨A1, c1, rfl, hc1, hR1, hb1⟩
    rw [Hb.out]
    have h12 := hb1.size
    go_wp2_with fail
    refine (digitsR t _ (by omega)).mono ?_
    rintro e w2 ⟨A2, c2, rfl, hc2, hR2, hb2⟩
    rw [Hb'.out]
    replace hR1 := (hR1.below hb2).more hb2.size
    go_wp2
    go_ret
    exact ⟨rfl, hb1.trans (hb2.mono (by omega))⟩
  · rw [ord_tt]
    clear nx ny
    go_wp2_with fail
    refine (digitsR s _ (by omega)).mono ?_
    rintro e w1 ⟨A1, c1, rfl, hc1, hR1, hb1⟩
    rw [Hb.out]
    have h12 := hb1.size
    go_wp2_with fail
    refine (digitsR t _ (by omega)).mono ?_
    rintro e w2 ⟨A2, c2, rfl, hc2, hR2, hb2⟩
    rw [Hb'.out]
    replace hR1 := (hR1.below hb2).more hb2.size
    go_wp2_with fail
    refine (orderR A2 A1 (mag (LA t)) (mag (LA s)) _ _ c2 c1 _ _ rfl rfl hR2 hR1 (by omega) (by omega)).mono ?_
    rintro e w3 ⟨rfl, nq, rfl⟩
    go_wp2
    go_ret
    exact ⟨rfl, below_drewN (hb1.trans (hb2.mono (by omega))) nq⟩

end Go.Proofs.YtclniebhgfodfaaDoor
