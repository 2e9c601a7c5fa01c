/- The reference's Negate, Add, Subtract, Multiply. -/
import Derived.Test.YtclniebhgfodfaaDoorRefT
import Derived.Test.YtclniebhgfodfaaDoorRef6
import Derived.Test.YtclniebhgfodfaaDoorCompMath
import Derived.Test.YtclniebhgfodfaaDoorTop3
namespace Go.Proofs.YtclniebhgfodfaaDoor
open Go Go.RowKit
set_option linter.unusedVariables false

theorem textRL (b : Bool) (A : Option Addr) (zs : List Nat) (c : Nat) (w : World) (hd : AllDig zs) (h : Reads w w.heap.size .i64 A zs) (hc : zs.length ≤ c) (h9 : zs.length ≤ 1000000000) :
    Calls Tryd.prog 48 #[.bool b, .slice A zs.length c] w (RetS w (zval b (ofD zs))) := by
  unfold RetS
  rw [show text (zval b (ofD zs)) = signText b (ofD zs) from (signText_eq b _).symm]
  exact textR b A zs c w hd h hc h9
theorem textRD (b : Bool) (A : Option Addr) (n c : Nat) (w : World) (h : Reads w w.heap.size .i64 A (digs n)) (hc : (digs n).length ≤ c) (h9 : (digs n).length ≤ 1000000000) :
    Calls Tryd.prog 48 #[.bool b, .slice A (digs n).length c] w (RetS w (zval b n)) := by
  have h1 := textRL b A (digs n) c w (allDig_digs n) h hc h9
  rwa [ofD_digs] at h1

set_option maxHeartbeats 1000000 in
theorem negateR (s : ByteArray) (w : World) (hs : s.size ≤ 400000000) :
    Calls Tryd.prog 26 #[.string s] w (RetS w (- val (LA s))) := by
  have hl := magLen s
  go_enter Tryd.func26, Tryd.ntmps26
  go_wp2_with fail
  refine (digitsR s _ (by omega)).mono ?_
  rintro e w1 ⟨A1, c1, rfl, hc1, hR1, hb1⟩
  go_wp2_with fail
  refine (textRD (!neg (LA s)) A1 _ c1 _ hR1 hc1 (by omega)).mono ?_
  rintro e w3 ⟨rfl, hb3⟩
  go_wp2
  go_ret
  exact ⟨by rw [val_eq, ← zval_not]; rfl, hb1.trans (hb3.mono hb1.size)⟩

set_option maxHeartbeats 2000000 in
theorem addR (s t : ByteArray) (w : World) (hs : s.size ≤ 400000000) (ht : t.size ≤ 400000000) :
    Calls Tryd.prog 28 #[.string s, .string t] w (RetS w (val (LA s) + val (LA t))) := by
  have hl := magLen s
  have hl2 := magLen t
  rw [val_eq, val_eq, ← zval_plus]
  by_cases hbb : neg (LA s) = neg (LA t)
  · have hb1 : (neg (LA s) == neg (LA t)) = true := by rw [hbb]; simp
    have hres : Hid (zval (zsign (neg (LA s)) (mag (LA s)) (neg (LA t)) (mag (LA t))) (zmag (neg (LA s)) (mag (LA s)) (neg (LA t)) (mag (LA t))) = zval (neg (LA s)) (mag (LA s) + mag (LA t))) := by
      show _ = _; unfold zsign zmag; rw [if_pos hbb, if_pos hbb]
    rw [hres.out]
    clear hbb
    go_enter Tryd.func28, Tryd.ntmps28
    go_wp2_with fail
    refine (digitsR s _ (by omega)).mono ?_
    rintro e w1 ⟨A1, c1, rfl, hc1, hR1, hb1⟩
    go_wp2_with fail
    refine (digitsR t _ (by omega)).mono ?_
    rintro e w2 ⟨A2, c2, rfl, hc2, hR2, hb2⟩
    replace hR1 := (hR1.below hb2).more hb2.size
    have h12 := hb1.size
    have h23 := hb2.size
    go_wp2_with fail
    refine (plusR A1 A2 _ _ _ _ c1 c2 _ rfl rfl hR1 hR2 (by omega) (by omega)).mono ?_
    rintro e w3 ⟨A3, c3, zs, rfl, hc3, hlz, hdz, hvz, hR3, hb3⟩
    have h34 := hb3.size
    replace hvz := Lib.hid hvz
    go_wp2_with fail
    refine (textRL (neg (LA s)) A3 zs c3 _ hdz hR3 hc3 (by omega)).mono ?_
    rintro e w4 ⟨rfl, hb4⟩
    rw [hvz.out]
    go_wp2
    go_ret
    exact ⟨rfl, ((hb1.trans (hb2.mono (by omega))).trans (hb3.mono (by omega))).trans (hb4.mono (by omega))⟩
  · have hb1 : (neg (LA s) == neg (LA t)) = false := by rw [beq_eq_false_iff_ne]; exact hbb
    by_cases hlt : mag (LA s) < mag (LA t)
    · have ho : ordN (mag (LA s)) (mag (LA t)) = -1 := ordN_lt hlt
      have hres : Hid (zval (zsign (neg (LA s)) (mag (LA s)) (neg (LA t)) (mag (LA t))) (zmag (neg (LA s)) (mag (LA s)) (neg (LA t)) (mag (LA t))) = zval (neg (LA t)) (mag (LA t) - mag (LA s))) := by
        show _ = _; unfold zsign zmag; rw [if_neg hbb, if_neg hbb, if_pos hlt, if_pos hlt]
      rw [hres.out]
      clear hbb
      have hl3 : (digs (mag (LA t) - mag (LA s))).length ≤ (digs (mag (LA t))).length := digs_length_mono (Nat.sub_le _ _)
      go_enter Tryd.func28, Tryd.ntmps28
      go_wp2_with fail
      refine (digitsR s _ (by omega)).mono ?_
      rintro e w1 ⟨A1, c1, rfl, hc1, hR1, hb1⟩
      go_wp2_with fail
      refine (digitsR t _ (by omega)).mono ?_
      rintro e w2 ⟨A2, c2, rfl, hc2, hR2, hb2⟩
      replace hR1 := (hR1.below hb2).more hb2.size
      have h12 := hb1.size
      have h23 := hb2.size
      go_wp2_with fail
      refine (orderR A1 A2 _ _ _ _ c1 c2 w2 _ rfl rfl hR1 hR2 (by omega) (by omega)).mono ?_
      rintro e w5 ⟨rfl, nq, rfl⟩
      go_wp2_with fail
      refine (minusR A2 A1 (mag (LA t)) (mag (LA s)) _ _ c2 c1 (w2.drewN nq) rfl rfl hR2 hR1 (by omega) (by omega) (by omega)).mono ?_
      rintro e w3 ⟨A3, c3, rfl, hc3, hR3, hb3, _⟩
      have h34 : w2.heap.size ≤ w3.heap.size := hb3.size
      replace hb3 := (below_drewN (Below.refl w2.heap.size w2) nq).trans hb3
      go_wp2_with fail
      refine (textRD (neg (LA t)) A3 _ c3 _ hR3 hc3 (by omega)).mono ?_
      rintro e w4 ⟨rfl, hb4⟩
      go_wp2
      go_ret
      exact ⟨rfl, ((hb1.trans (hb2.mono (by omega))).trans (hb3.mono (by omega))).trans (hb4.mono (by omega))⟩
    · have ho : 0 ≤ ordN (mag (LA s)) (mag (LA t)) := by unfold ordN; rw [if_neg hlt]; split <;> omega
      have hres : Hid (zval (zsign (neg (LA s)) (mag (LA s)) (neg (LA t)) (mag (LA t))) (zmag (neg (LA s)) (mag (LA s)) (neg (LA t)) (mag (LA t))) = zval (neg (LA s)) (mag (LA s) - mag (LA t))) := by
        show _ = _; unfold zsign zmag; rw [if_neg hbb, if_neg hbb, if_neg hlt, if_neg hlt]
      rw [hres.out]
      clear hbb
      have hl3 : (digs (mag (LA s) - mag (LA t))).length ≤ (digs (mag (LA s))).length := digs_length_mono (Nat.sub_le _ _)
      go_enter Tryd.func28, Tryd.ntmps28
      go_wp2_with fail
      refine (digitsR s _ (by omega)).mono ?_
      rintro e w1 ⟨A1, c1, rfl, hc1, hR1, hb1⟩
      go_wp2_with fail
      refine (digitsR t _ (by omega)).mono ?_
      rintro e w2 ⟨A2, c2, rfl, hc2, hR2, hb2⟩
      replace hR1 := (hR1.below hb2).more hb2.size
      have h12 := hb1.size
      have h23 := hb2.size
      go_wp2_with fail
      refine (orderR A1 A2 _ _ _ _ c1 c2 w2 _ rfl rfl hR1 hR2 (by omega) (by omega)).mono ?_
      rintro e w5 ⟨rfl, nq, rfl⟩
      go_wp2_with fail
      refine (minusR A1 A2 (mag (LA s)) (mag (LA t)) _ _ c1 c2 (w2.drewN nq) rfl rfl hR1 hR2 (by omega) (by omega) (by omega)).mono ?_
      rintro e w3 ⟨A3, c3, rfl, hc3, hR3, hb3, _⟩
      have h34 : w2.heap.size ≤ w3.heap.size := hb3.size
      replace hb3 := (below_drewN (Below.refl w2.heap.size w2) nq).trans hb3
      go_wp2_with fail
      refine (textRD (neg (LA s)) A3 _ c3 _ hR3 hc3 (by omega)).mono ?_
      rintro e w4 ⟨rfl, hb4⟩
      go_wp2
      go_ret
      exact ⟨rfl, ((hb1.trans (hb2.mono (by omega))).trans (hb3.mono (by omega))).trans (hb4.mono (by omega))⟩

set_option maxHeartbeats 1000000 in
theorem subtractR (s t : ByteArray) (w : World) (hs : s.size ≤ 300000000) (ht : t.size ≤ 300000000) :
    Calls Tryd.prog 30 #[.string s, .string t] w (RetS w (val (LA s) - val (LA t))) := by
  go_enter Tryd.func30, Tryd.ntmps30
  go_wp2_with fail
  refine (negateR t _ (by omega)).mono ?_
  rintro e w1 ⟨rfl, hb1⟩
  have hx : (BA (text (-val (LA t)))).size ≤ 400000000 := by
    rw [BA_size]
    have h1 := text_length (x := -val (LA t)) (k := t.size + 1) (by rw [Int.natAbs_neg, val_natAbs]; exact mag_bd t)
    omega
  have hv : Hid (val (LA (BA (text (-val (LA t))))) = -val (LA t)) := by show _ = _; rw [LA_BA, val_text]
  obtain ⟨x, hxe⟩ : ∃ x, BA (text (-val (LA t))) = x := ⟨_, rfl⟩
  rw [hxe] at hx hv ⊢
  clear hxe
  go_wp2_with fail
  refine (addR s x _ (by omega) hx).mono ?_
  rintro e w2 ⟨rfl, hb2⟩
  rw [hv.out]
  go_wp2
  go_ret
  exact ⟨by rw [Int.sub_eq_add_neg]; rfl, hb1.trans (hb2.mono hb1.size)⟩

set_option maxHeartbeats 1000000 in
theorem multiplyR (s t : ByteArray) (w : World) (hs : s.size ≤ 400000000) (ht : t.size ≤ 400000000) :
    Calls Tryd.prog 32 #[.string s, .string t] w (RetS w (val (LA s) * val (LA t))) := by
  have hl := magLen s
  have hl2 := magLen t
  have hml := mul_digits (mag_bd s) (mag_bd t)
  have hval := Lib.hid (zval_mul (neg (LA s)) (neg (LA t)) (mag (LA s)) (mag (LA t)))
  go_enter Tryd.func32, Tryd.ntmps32
  go_wp2_with fail
  refine (digitsR s _ (by omega)).mono ?_
  rintro e w1 ⟨A1, c1, rfl, hc1, hR1, hb1⟩
  go_wp2_with fail
  refine (digitsR t _ (by omega)).mono ?_
  rintro e w2 ⟨A2, c2, rfl, hc2, hR2, hb2⟩
  replace hR1 := (hR1.below hb2).more hb2.size
  have h12 := hb1.size
  have h23 := hb2.size
  go_wp2_with fail
  refine (timesR A1 A2 _ _ _ _ c1 c2 _ rfl rfl hR1 hR2 (by omega) (by omega)).mono ?_
  rintro e w3 ⟨A3, c3, rfl, hc3, hR3, hb3⟩
  have h34 := hb3.size
  go_wp2_with fail
  refine (textRD (neg (LA s) != neg (LA t)) A3 _ c3 _ hR3 hc3 (by omega)).mono ?_
  rintro e w4 ⟨rfl, hb4⟩
  go_wp2
  go_ret
  exact ⟨by rw [val_eq, val_eq, ← hval.out]; rfl, ((hb1.trans (hb2.mono (by omega))).trans (hb3.mono (by omega))).trans (hb4.mono (by omega))⟩

end Go.Proofs.YtclniebhgfodfaaDoor
