/- The reference's Divide and Gcd. -/
import Derived.Test.YtclniebhgfodfaaDoorRefA
namespace Go.Proofs.YtclniebhgfodfaaDoor
open Go Go.RowKit
set_option linter.unusedVariables false

set_option maxHeartbeats 1000000 in
theorem divideR_zero (s t : ByteArray) (w : World) (hs : s.size ≤ 400000000) (ht : t.size ≤ 400000000) (h0 : mag (LA t) = 0) :
    Calls Tryd.prog 34 #[.string s, .string t] w (RetSS w 0 (val (LA s))) := by
  have hl := magLen s
  have hz : (((digs (mag (LA t))).length : Int) == 0) = true := by rw [h0]; rfl
  replace h0 := Lib.hid h0
  go_enter Tryd.func34, Tryd.ntmps34
  go_wp2_with fail
  refine (digitsR s _ (by omega)).mono ?_
  rintro e w1 ⟨A1, c1, rfl, hc1, hR1, hb1⟩
  go_wp2_with fail
  refine (digitsR t _ (by omega)).mono ?_
  rintro e w2 ⟨A2, c2, rfl, hc2, hR2, hb2⟩
  replace hR1 := (hR1.below hb2).more hb2.size
  have h12 := hb1.size
  have h23 := hb2.size
  go_wp2_with fail
  refine (textRD (neg (LA s)) A1 _ c1 _ hR1 hc1 (by omega)).mono ?_
  rintro e w3 ⟨rfl, hb3⟩
  go_wp2
  go_ret2
  exact ⟨rfl, (hb1.trans (hb2.mono (by omega))).trans (hb3.mono (by omega))⟩

theorem len_pos_of {n : Nat} (h : n ≠ 0) : 0 < (digs n).length := List.length_pos_iff.2 (digs_ne_nil h)

set_option maxHeartbeats 2000000 in
theorem divideR_same (s t : ByteArray) (w : World) (hs : s.size ≤ 400000000) (ht : t.size ≤ 400000000) (h0 : mag (LA t) ≠ 0) (hq : neg (LA s) = neg (LA t)) :
    Calls Tryd.prog 34 #[.string s, .string t] w (RetSS w (dquo (neg (LA s)) (mag (LA s)) (neg (LA t)) (mag (LA t))) (drem (neg (LA s)) (mag (LA s)) (neg (LA t)) (mag (LA t)))) := by
  have hl := magLen s
  have hl2 := magLen t
  have hp := len_pos_of h0
  have hz : (((digs (mag (LA t))).length : Int) == 0) = false := by rw [beq_eq_false_iff_ne]; omega
  have hbb : (neg (LA s) == neg (LA t)) = true := by rw [hq]; simp
  have hdq : Hid (dquo (neg (LA s)) (mag (LA s)) (neg (LA t)) (mag (LA t)) = zval false (mag (LA s) / mag (LA t))) := by show _ = _; unfold dquo divUp; rw [hq]; simp
  have hdr : Hid (drem (neg (LA s)) (mag (LA s)) (neg (LA t)) (mag (LA t)) = zval (neg (LA t)) (mag (LA s) % mag (LA t))) := by show _ = _; unfold drem divUp; rw [hq]; simp
  have hlq : (digs (mag (LA s) / mag (LA t))).length ≤ (digs (mag (LA s))).length := digs_length_mono (Nat.div_le_self _ _)
  have hlr : (digs (mag (LA s) % mag (LA t))).length ≤ (digs (mag (LA s))).length := digs_length_mono (Nat.mod_le _ _)
  rw [hdq.out, hdr.out]
  clear hq
  go_enter Tryd.func34, Tryd.ntmps34
  go_wp2_with fail
  refine (digitsR s _ (by omega)).mono ?_
  rintro e w1 ⟨A1, c1, rfl, hc1, hR1, hb1⟩
  go_wp2_with fail
  refine (digitsR t _ (by omega)).mono ?_
  rintro e w2 ⟨A2, c2, rfl, hc2, hR2, hb2⟩
  replace hR1 := (hR1.below hb2).more hb2.size
  have h12 := hb1.size
  have h23 := hb2.size
  go_wp2_with fail
  refine (overR A1 A2 _ _ _ _ c1 c2 _ rfl rfl hR1 hR2 (by omega) (by omega) h0).mono ?_
  rintro e w3 ⟨A3, c3, A4, c4, rfl, hc3, hc4, hR3, hR4, hb3⟩
  have h34 := hb3.size
  go_wp2_with fail
  refine (textRD false A3 _ c3 _ hR3 hc3 (by omega)).mono ?_
  rintro e w4 ⟨rfl, hb4⟩
  have h45 := hb4.size
  replace hR4 := (hR4.below hb4).more hb4.size
  go_wp2_with fail
  refine (textRD (neg (LA t)) A4 _ c4 _ hR4 hc4 (by omega)).mono ?_
  rintro e w5 ⟨rfl, hb5⟩
  go_wp2
  go_ret2
  exact ⟨rfl, (((hb1.trans (hb2.mono (by omega))).trans (hb3.mono (by omega))).trans (hb4.mono (by omega))).trans (hb5.mono (by omega))⟩

set_option maxHeartbeats 2000000 in
theorem divideR_exact (s t : ByteArray) (w : World) (hs : s.size ≤ 400000000) (ht : t.size ≤ 400000000) (h0 : mag (LA t) ≠ 0) (hq : neg (LA s) ≠ neg (LA t)) (hr : mag (LA s) % mag (LA t) = 0) :
    Calls Tryd.prog 34 #[.string s, .string t] w (RetSS w (dquo (neg (LA s)) (mag (LA s)) (neg (LA t)) (mag (LA t))) (drem (neg (LA s)) (mag (LA s)) (neg (LA t)) (mag (LA t)))) := by
  have hl := magLen s
  have hl2 := magLen t
  have hp := len_pos_of h0
  have hz : (((digs (mag (LA t))).length : Int) == 0) = false := by rw [beq_eq_false_iff_ne]; omega
  have hbb : (neg (LA s) == neg (LA t)) = false := by rw [beq_eq_false_iff_ne]; exact hq
  have hnn : (neg (LA s) != neg (LA t)) = true := by rw [bne, hbb]; rfl
  have hdq : Hid (dquo (neg (LA s)) (mag (LA s)) (neg (LA t)) (mag (LA t)) = zval true (mag (LA s) / mag (LA t))) := by show _ = _; unfold dquo divUp; rw [hr, hnn]; rfl
  have hdr : Hid (drem (neg (LA s)) (mag (LA s)) (neg (LA t)) (mag (LA t)) = zval (neg (LA t)) (mag (LA s) % mag (LA t))) := by show _ = _; unfold drem divUp; rw [hr, hnn]; unfold zval; cases neg (LA s) <;> cases neg (LA t) <;> rfl
  have hlq : (digs (mag (LA s) / mag (LA t))).length ≤ (digs (mag (LA s))).length := digs_length_mono (Nat.div_le_self _ _)
  have hlr : (digs (mag (LA s) % mag (LA t))).length ≤ (digs (mag (LA s))).length := digs_length_mono (Nat.mod_le _ _)
  have hlz : (digs (mag (LA s) % mag (LA t))).length ≤ 0 := by rw [hr]; exact Nat.le_refl _
  have hrd : decide (0 < (digs (mag (LA s) % mag (LA t))).length) = false := decide_eq_false (by omega)
  rw [hdq.out, hdr.out]
  clear hq hnn hr
  go_enter Tryd.func34, Tryd.ntmps34
  go_wp2_with fail
  refine (digitsR s _ (by omega)).mono ?_
  rintro e w1 ⟨A1, c1, rfl, hc1, hR1, hb1⟩
  go_wp2_with fail
  refine (digitsR t _ (by omega)).mono ?_
  rintro e w2 ⟨A2, c2, rfl, hc2, hR2, hb2⟩
  replace hR1 := (hR1.below hb2).more hb2.size
  have h12 := hb1.size
  have h23 := hb2.size
  go_wp2_with fail
  refine (overR A1 A2 _ _ _ _ c1 c2 _ rfl rfl hR1 hR2 (by omega) (by omega) h0).mono ?_
  rintro e w3 ⟨A3, c3, A4, c4, rfl, hc3, hc4, hR3, hR4, hb3⟩
  have h34 := hb3.size
  go_wp2_with fail
  refine (textRD true A3 _ c3 _ hR3 hc3 (by omega)).mono ?_
  rintro e w4 ⟨rfl, hb4⟩
  have h45 := hb4.size
  replace hR4 := (hR4.below hb4).more hb4.size
  go_wp2_with fail
  refine (textRD (neg (LA t)) A4 _ c4 _ hR4 hc4 (by omega)).mono ?_
  rintro e w5 ⟨rfl, hb5⟩
  go_wp2
  go_ret2
  exact ⟨rfl, (((hb1.trans (hb2.mono (by omega))).trans (hb3.mono (by omega))).trans (hb4.mono (by omega))).trans (hb5.mono (by omega))⟩

set_option maxHeartbeats 2000000 in
theorem divideR_up (s t : ByteArray) (w : World) (hs : s.size ≤ 400000000) (ht : t.size ≤ 400000000) (h0 : mag (LA t) ≠ 0) (hq : neg (LA s) ≠ neg (LA t)) (hr : mag (LA s) % mag (LA t) ≠ 0) :
    Calls Tryd.prog 34 #[.string s, .string t] w (RetSS w (dquo (neg (LA s)) (mag (LA s)) (neg (LA t)) (mag (LA t))) (drem (neg (LA s)) (mag (LA s)) (neg (LA t)) (mag (LA t)))) := by
  have hl := magLen s
  have hl2 := magLen t
  have hp := len_pos_of h0
  have hpr := len_pos_of hr
  have hz : (((digs (mag (LA t))).length : Int) == 0) = false := by rw [beq_eq_false_iff_ne]; omega
  have hbb : (neg (LA s) == neg (LA t)) = false := by rw [beq_eq_false_iff_ne]; exact hq
  have hnn : (neg (LA s) != neg (LA t)) = true := by rw [bne, hbb]; rfl
  have hdq : Hid (dquo (neg (LA s)) (mag (LA s)) (neg (LA t)) (mag (LA t)) = zval true (mag (LA s) / mag (LA t) + 1)) := by show _ = _; unfold dquo divUp; rw [hnn, show (mag (LA s) % mag (LA t) != 0) = true from by simpa using hr]; rfl
  have hdr : Hid (drem (neg (LA s)) (mag (LA s)) (neg (LA t)) (mag (LA t)) = zval (neg (LA t)) (mag (LA t) - mag (LA s) % mag (LA t))) := by show _ = _; unfold drem divUp; rw [hnn, show (mag (LA s) % mag (LA t) != 0) = true from by simpa using hr]; rfl
  have hlq : (digs (mag (LA s) / mag (LA t))).length ≤ (digs (mag (LA s))).length := digs_length_mono (Nat.div_le_self _ _)
  have hlr : (digs (mag (LA s) % mag (LA t))).length ≤ (digs (mag (LA s))).length := digs_length_mono (Nat.mod_le _ _)
  have hl4 : (digs (mag (LA t) - mag (LA s) % mag (LA t))).length ≤ (digs (mag (LA t))).length := digs_length_mono (Nat.sub_le _ _)
  have hlt : mag (LA s) % mag (LA t) < mag (LA t) := Nat.mod_lt _ (Nat.pos_of_ne_zero h0)
  have hrd : decide (0 < (digs (mag (LA s) % mag (LA t))).length) = true := decide_eq_true hpr
  rw [hdq.out, hdr.out]
  clear hq hnn hr
  go_enter Tryd.func34, Tryd.ntmps34
  go_wp2_with fail
  refine (digitsR s _ (by omega)).mono ?_
  rintro e w1 ⟨A1, c1, rfl, hc1, hR1, hb1⟩
  go_wp2_with fail
  refine (digitsR t _ (by omega)).mono ?_
  rintro e w2 ⟨A2, c2, rfl, hc2, hR2, hb2⟩
  replace hR1 := (hR1.below hb2).more hb2.size
  have h12 := hb1.size
  have h23 := hb2.size
  go_wp2_with fail
  refine (overR A1 A2 _ _ _ _ c1 c2 _ rfl rfl hR1 hR2 (by omega) (by omega) h0).mono ?_
  rintro e w3 ⟨A3, c3, A4, c4, rfl, hc3, hc4, hR3, hR4, hb3⟩
  have h34 := hb3.size
  replace hR2 := (hR2.below hb3).more hb3.size
  have hone : Reads (w3.alloc (.cells #[.int .i64 1] 3)) (w3.alloc (.cells #[.int .i64 1] 3)).heap.size .i64 (some ⟨w3.heap.size, 0, none⟩) (digs 1) := (Row.new w3 3 .i64 [1]).reads (by simp)
  have hsa : (w3.alloc (.cells #[.int .i64 1] 3)).heap.size = w3.heap.size + 1 := by simp
  have g3 := ((hR3.alloc (Nat.le_refl _) (.cells #[.int .i64 1] 3)).more (show w3.heap.size ≤ (w3.alloc (.cells #[.int .i64 1] 3)).heap.size by omega))
  have g4 := ((hR4.alloc (Nat.le_refl _) (.cells #[.int .i64 1] 3)).more (show w3.heap.size ≤ (w3.alloc (.cells #[.int .i64 1] 3)).heap.size by omega))
  have g2 := ((hR2.alloc (Nat.le_refl _) (.cells #[.int .i64 1] 3)).more (show w3.heap.size ≤ (w3.alloc (.cells #[.int .i64 1] 3)).heap.size by omega))
  have hbA : Below w3.heap.size w3 (w3.alloc (.cells #[.int .i64 1] 3)) := (Below.refl _ _).alloc (Nat.le_refl _) _
  replace hsa := Lib.hid hsa
  go_wp2_with fail
  refine (plusR A3 (some ⟨w3.heap.size, 0, none⟩) (mag (LA s) / mag (LA t)) 1 _ 1 c3 1 _ rfl rfl g3 hone (by omega) (by omega)).mono ?_
  rintro e w4 ⟨A5, c5, zs, rfl, hc5, hlz, hdz, hvz, hR5, hb4⟩
  replace hsa := hsa.out
  have h45 := hb4.size
  have h46 : w3.heap.size ≤ w4.heap.size := by omega
  replace g4 := (g4.below hb4).more hb4.size
  replace g2 := (g2.below hb4).more hb4.size
  have hb34 := hbA.trans (hb4.mono (by omega))
  replace hvz := Lib.hid hvz
  clear hsa h45 hb4 hbA g3 hone hR2 hR3 hR4
  go_wp2_with fail
  refine (minusR A2 A4 _ _ _ _ c2 c4 _ rfl rfl g2 g4 (by omega) (by omega) (by omega)).mono ?_
  rintro e w5 ⟨A6, c6, rfl, hc6, hR6, hb5, _⟩
  have h56 := hb5.size
  replace hR5 := (hR5.below hb5).more hb5.size
  go_wp2_with fail
  refine (textRL true A5 zs c5 _ hdz hR5 hc5 (by omega)).mono ?_
  rintro e w6 ⟨rfl, hb6⟩
  have h67 := hb6.size
  replace hR6 := (hR6.below hb6).more hb6.size
  rw [hvz.out]
  go_wp2_with fail
  refine (textRD (neg (LA t)) A6 _ c6 _ hR6 hc6 (by omega)).mono ?_
  rintro e w7 ⟨rfl, hb7⟩
  go_wp2
  go_ret2
  exact ⟨rfl, (((((hb1.trans (hb2.mono (by omega))).trans (hb3.mono (by omega))).trans (hb34.mono (by omega))).trans (hb5.mono (by omega))).trans (hb6.mono (by omega))).trans (hb7.mono (by omega))⟩

theorem divideR (s t : ByteArray) (w : World) (hs : s.size ≤ 400000000) (ht : t.size ≤ 400000000) (h0 : mag (LA t) ≠ 0) :
    Calls Tryd.prog 34 #[.string s, .string t] w (RetSS w (dquo (neg (LA s)) (mag (LA s)) (neg (LA t)) (mag (LA t))) (drem (neg (LA s)) (mag (LA s)) (neg (LA t)) (mag (LA t)))) := by
  by_cases hq : neg (LA s) = neg (LA t)
  · exact divideR_same s t w hs ht h0 hq
  · by_cases hr : mag (LA s) % mag (LA t) = 0
    · exact divideR_exact s t w hs ht h0 hq hr
    · exact divideR_up s t w hs ht h0 hq hr

/-- Two numbers on the way to the greatest common divisor G. -/
def GcdR (G x k : Nat) (A A' : Option Addr) (B : Nat) (w wr : World) : Prop :=
  Nat.gcd x k = G ∧ Reads wr wr.heap.size .i64 A (digs x) ∧ Reads wr wr.heap.size .i64 A' (digs k) ∧ Below B w wr

set_option maxHeartbeats 2000000 in
theorem gcdR (s t : ByteArray) (w : World) (hs : s.size ≤ 400000000) (ht : t.size ≤ 400000000) :
    Calls Tryd.prog 36 #[.string s, .string t] w (RetS w (Nat.gcd (mag (LA s)) (mag (LA t)) : Nat)) := by
  have hl := magLen s
  have hl2 := magLen t
  go_enter Tryd.func36, Tryd.ntmps36
  go_wp2_with fail
  refine (digitsR s _ (by omega)).mono ?_
  rintro e w1 ⟨A1, c1, rfl, hc1, hR1, hb1⟩
  go_wp2_with fail
  refine (digitsR t _ (by omega)).mono ?_
  rintro e w2 ⟨A2, c2, rfl, hc2, hR2, hb2⟩
  replace hR1 := (hR1.below hb2).more hb2.size
  have h12 := hb1.size
  have h23 := hb2.size
  have h0 : Hid (GcdR (Nat.gcd (mag (LA s)) (mag (LA t))) (mag (LA s)) (mag (LA t)) A1 A2 w2.heap.size w2 w2) := ⟨rfl, hR1, hR2, Below.refl _ _⟩
  clear hR1 hR2
  go_wp2
  go_loopg [6, 8] (mag (LA t)) (fun k u v wr => ∃ (x : Nat) (A A' : Option Addr) (c c' : Nat), u = .slice A (digs x).length c ∧ v = .slice A' (digs k).length c' ∧ (digs x).length ≤ c ∧ (digs k).length ≤ c' ∧ (digs x).length ≤ 1000000000 ∧ (digs k).length ≤ 1000000000 ∧ Hid (GcdR (Nat.gcd (mag (LA s)) (mag (LA t))) x k A A' w2.heap.size w2 wr))
  case atStart => exact ⟨mag (LA s), A1, A2, c1, c2, rfl, rfl, hc1, hc2, by omega, by omega, h0⟩
  case round =>
    clear h0
    obtain ⟨x, A, A', c, d, rfl, rfl, hc, hd, h9, h9', h0⟩ := hrel
    obtain ⟨hg, h, h', hbel⟩ := h0.out
    clear h0
    by_cases hk : gk = 0
    · subst hk
      rw [Nat.gcd_zero_right] at hg
      have hx : Hid (x = Nat.gcd (mag (LA s)) (mag (LA t))) := hg
      clear hg
      have h24 := hbel.size
      go_wp2_with fail
      refine (textRD false A x c _ h hc h9).mono ?_
      rintro e w4 ⟨rfl, hb4⟩
      rw [hx.out]
      go_wp2
      go_ret
      exact ⟨rfl, ((hb1.trans (hb2.mono (by omega))).trans (hbel.mono (by omega))).trans (hb4.mono (by omega))⟩
    · have hp := len_pos_of hk
      have hlt : x % gk < gk := Nat.mod_lt _ (by omega)
      have hl3 : (digs (x % gk)).length ≤ (digs gk).length := digs_length_mono (by omega)
      have hg2 : Hid (Nat.gcd gk (x % gk) = Nat.gcd (mag (LA s)) (mag (LA t))) := by
        show _ = _
        rw [← hg, Nat.gcd_comm x gk, Nat.gcd_rec gk x, Nat.gcd_comm]
      clear hg
      go_wp2_with fail
      refine (overR A A' x gk _ _ c d _ rfl rfl h h' h9 h9' hk).mono ?_
      rintro e w3 ⟨A3, c3, A4, c4, rfl, hc3, hc4, hR3, hR4, hb3⟩
      have hn : Hid (GcdR (Nat.gcd (mag (LA s)) (mag (LA t))) gk (x % gk) A' A4 w2.heap.size w2 w3) := ⟨hg2.out, (h'.below hb3).more hb3.size, hR4, hbel.trans (hb3.mono hbel.size)⟩
      clear hR3 hR4 h h' hbel hb3
      go_wp2
      go_roundg (x % gk)
      case measure => omega
      case rel => exact ⟨gk, A', A4, d, c4, rfl, rfl, hd, hc4, h9', by omega, hn⟩

end Go.Proofs.YtclniebhgfodfaaDoor
