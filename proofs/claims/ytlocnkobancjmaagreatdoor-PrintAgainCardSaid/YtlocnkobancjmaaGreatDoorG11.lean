import Derived.Test.YtlocnkobancjmaaGreatDoorAl
import Derived.Test.YtlocnkobancjmaaGreatDoorG9
import Derived.Test.YtlocnkobancjmaaGreatDoorG10
import Derived.Lib.Bytealg
import Derived.Lib.ItoaNum
import Derived.Test.YtlocnkobancjmaaGreatDoorG7
import Derived.Test.YtlocnkobancjmaaGreatDoorG8
import Derived.Lib.SlicesS
import Derived.KernelRfl
namespace Go.Proofs.YtlocnkobancjmaaGreatDoor
open Go Go.RowKit
set_option linter.unusedVariables false
set_option maxHeartbeats 32000000
set_option maxRecDepth 100000
def zval (b : Bool) (n : Nat) : Int := if b then -(n : Int) else n
theorem val_eq (l : List UInt8) : val l = zval (neg l) (mag l) := rfl
theorem zval_not (b : Bool) (n : Nat) : zval (!b) n = - zval b n := by
 unfold zval; cases b <;> simp
theorem zval_mul (b b' : Bool) (n m : Nat) : zval (b != b') (n * m) = zval b n * zval b' m := by
 unfold zval
 cases b <;> cases b' <;> simp [Int.neg_mul, Int.mul_neg]
def RetS (w : World) (x : Int) (e : Ending) (w' : World) : Prop := e = .returned (.string (BA (text x))) ∧ Below w.heap.size w w'

theorem magLen (s : ByteArray) : (digs (mag (LA s))).length ≤ s.size + 1 := by
 have h := digs_length_le (mag_lt (LA s))
 rw [LA_length] at h
 omega
theorem mag_bd (s : ByteArray) : mag (LA s) < 10 ^ (s.size + 1) :=
 Nat.lt_of_lt_of_le (lt_pow_digs _) (Nat.pow_le_pow_right (by decide) (magLen s))
theorem text_any (b : Bool) (A : Option Addr) (n c : Nat) (w : World) (h9 : (digs n).length ≤ 1000000000) (h : Reads w w.heap.size .u8 A (digs n)) :
 Calls Tryz.prog 250 #[.agg #[.bool b, .slice A (digs n).length c]] w (RetS w (zval b n)) := by
 have e : text (zval b n) = signText b n := (signText_eq b n).symm
 unfold RetS
 rw [e]
 by_cases hn : n = 0
 · subst hn; exact text_zero b A c w
 · exact text_pos b A n _ c w rfl hn h9 h

theorem negate_any (s : ByteArray) (w : World) (hs : s.size ≤ 400000000) :
 Calls Tryz.prog 275 #[.string s] w (RetS w (- val (LA s))) := by
 go_enter Tryz.func275, Tryz.ntmps275
 go_wp2_with fail
 refine (parse_any s _ (by omega)).mono ?_
 rintro e w1 ⟨A1, c1, rfl, hc1, hR1, hb1⟩
 go_wp2_with fail
 refine (negated_any _ A1 _ c1 _ hc1 hR1).mono ?_
 rintro e w2 ⟨A2, c2, rfl, hc2, hR2, hb2⟩
 have hl := magLen s
 go_wp2_with fail
 refine (text_any _ A2 _ c2 _ (by omega) hR2).mono ?_
 rintro e w3 ⟨rfl, hb3⟩
 go_wp2
 go_ret
 exact ⟨by rw [val_eq, ← zval_not]; rfl, (hb1.trans (hb2.mono hb1.size)).trans (hb3.mono (Nat.le_trans hb1.size hb2.size))⟩

theorem fld1 (b v : Value) (w : World) : (Instr.field 276 (.agg #[b, v]) 1).run Tryz.prog w = .ok v w := by kernel_rfl

theorem gcd_any (s t : ByteArray) (w : World) (hs : s.size ≤ 400000000) (ht : t.size ≤ 400000000) :
 Calls Tryz.prog 254 #[.string s, .string t] w (RetS w (Nat.gcd (mag (LA s)) (mag (LA t)) : Nat)) := by
 have hl := magLen s
 have hl2 := magLen t
 have hfld := fld1
 go_enter Tryz.func254, Tryz.ntmps254
 go_wp2_with fail
 refine (parse_any s _ (by omega)).mono ?_
 rintro e w1 ⟨A1, c1, rfl, hc1, hR1, hb1⟩
 go_wp2_with fail
 refine (parse_any t _ (by omega)).mono ?_
 rintro e w2 ⟨A2, c2, rfl, hc2, hR2, hb2⟩
 replace hR1 := (hR1.below hb2).more hb2.size
 go_wp2_with fail
 refine (gcdNat_any A1 A2 _ _ _ _ c1 c2 _ rfl rfl hR1 hR2 hc1 hc2 (by omega) (by omega)).mono ?_
 rintro e w3 ⟨A3, c3, rfl, hc3, hR3, hb3⟩
 have hz : (digs (Nat.gcd (mag (LA s)) (mag (LA t)))).length ≤ max (digs (mag (LA s))).length (digs (mag (LA t))).length := by
  by_cases h0 : mag (LA s) = 0
  · rw [h0, Nat.gcd_zero_left]; omega
  · have := digs_length_mono (Nat.gcd_le_left (n := mag (LA t)) (Nat.pos_of_ne_zero h0)); omega
 have h12 := hb1.size
 have h23 := hb2.size
 have h34 := hb3.size
 go_wp2_with fail
 refine (text_any false A3 _ c3 _ (by omega) hR3).mono ?_
 rintro e w4 ⟨rfl, hb4⟩
 go_wp2
 go_ret
 exact ⟨rfl, ((hb1.trans (hb2.mono (by omega))).trans (hb3.mono (by omega))).trans (hb4.mono (by omega))⟩
theorem toDigs_cons (c : UInt8) (l : List UInt8) : toDigs (c :: l) = toDigs l ++ [c.toNat - 48] := by
 unfold toDigs; simp
theorem ofD_toDigs_cons (c : UInt8) (l : List UInt8) : ofD (toDigs (c :: l)) = ofD (toDigs l) + 10 ^ l.length * (c.toNat - 48) := by
 rw [toDigs_cons, ofD_append, toDigs_length]
 simp [ofD]
theorem ofD_toDigs_lt {l : List UInt8} (h : l.all isDig = true) : ofD (toDigs l) < 10 ^ l.length := by
 have := ofD_lt (allDig_toDigs h)
 rwa [toDigs_length] at this

theorem compare_digits : ∀ (x y : List UInt8), x.all isDig = true → y.all isDig = true → x.length = y.length → Lib.compareBytes x y = ordN (ofD (toDigs x)) (ofD (toDigs y))
 | [], [], _, _, _ => by simp [Lib.compareBytes, ordN, toDigs]
 | [], _ :: _, _, _, h => by simp at h
 | _ :: _, [], _, _, h => by simp at h
 | c :: x, d :: y, hx, hy, h => by
  rw [List.all_cons, Bool.and_eq_true] at hx hy
  have hl : x.length = y.length := by simpa using h
  have ih := compare_digits x y hx.2 hy.2 hl
  have hxl := ofD_toDigs_lt hx.2
  have hyl := ofD_toDigs_lt hy.2
  have hc := (isDig_iff c).1 hx.1
  have hd := (isDig_iff d).1 hy.1
  rw [ofD_toDigs_cons, ofD_toDigs_cons, Lib.compareBytes]
  rw [← hl] at hyl ⊢
  by_cases h1 : c < d
  · rw [if_pos h1]
    have h2 : c.toNat < d.toNat := h1
    have h3 := Nat.mul_le_mul_left (10 ^ x.length) (show c.toNat - 48 + 1 ≤ d.toNat - 48 by omega)
    rw [Nat.mul_add, Nat.mul_one] at h3
    rw [ordN_lt (by omega)]
  · rw [if_neg h1]
    by_cases h2 : d < c
    · rw [if_pos h2]
      have h2' : d.toNat < c.toNat := h2
      have h3 := Nat.mul_le_mul_left (10 ^ x.length) (show d.toNat - 48 + 1 ≤ c.toNat - 48 by omega)
      rw [Nat.mul_add, Nat.mul_one] at h3
      rw [ordN_gt (by omega)]
    · rw [if_neg h2, ih]
      have h1' : ¬ c.toNat < d.toNat := h1
      have h2' : ¬ d.toNat < c.toNat := h2
      have e : c.toNat = d.toNat := by omega
      rw [e]
      generalize 10 ^ x.length * (d.toNat - 48) = k
      rcases Nat.lt_trichotomy (ofD (toDigs x)) (ofD (toDigs y)) with g | g | g
      · rw [ordN_lt g, ordN_lt (by omega)]
      · rw [ordN_eq g, ordN_eq (by omega)]
      · rw [ordN_gt g, ordN_gt (by omega)]

theorem body_len (l : List UInt8) : (body l).length = if mag l = 0 then 1 else (digs (mag l)).length := by
 rw [← magText_mag l]
 unfold magText
 split
 · rfl
 · rw [List.length_reverse, List.length_map]
theorem mag_lt_of_len {l l' : List UInt8} (h : (body l).length < (body l').length) : mag l < mag l' := by
 rw [body_len, body_len] at h
 by_cases h0 : mag l = 0
 · rw [if_pos h0] at h
   by_cases h1 : mag l' = 0
   · rw [if_pos h1] at h; omega
   · omega
 · rw [if_neg h0] at h
   by_cases h1 : mag l' = 0
   · rw [if_pos h1] at h
     have := List.length_pos_iff.2 (digs_ne_nil h0)
     omega
   · rw [if_neg h1] at h
     exact lt_of_digs_length_lt h
theorem compare_bodies {l l' : List UInt8} (h : (body l).length = (body l').length) : Lib.compareBytes (body l) (body l') = ordN (mag l) (mag l') :=
 compare_digits _ _ (body_all l) (body_all l') h

theorem ordI_lt {a b : Int} (h : a < b) : ordI a b = -1 := if_pos h
theorem ordI_gt {a b : Int} (h : b < a) : ordI a b = 1 := by unfold ordI; rw [if_neg (by omega), if_pos h]
theorem ordI_eq {a b : Int} (h : a = b) : ordI a b = 0 := by unfold ordI; rw [if_neg (by omega), if_neg (by omega)]
theorem ord_tf {n m : Nat} (hn : n ≠ 0) : ordI (zval true n) (zval false m) = -1 := ordI_lt (by unfold zval; simp; omega)
theorem ord_ft {n m : Nat} (hm : m ≠ 0) : ordI (zval false n) (zval true m) = 1 := ordI_gt (by unfold zval; simp; omega)
theorem ord_ff (n m : Nat) : ordI (zval false n) (zval false m) = ordN n m := by
 rcases Nat.lt_trichotomy n m with g | g | g
 · rw [ordN_lt g, ordI_lt (by unfold zval; simpa using g)]
 · rw [ordN_eq g, ordI_eq (by rw [g])]
 · rw [ordN_gt g, ordI_gt (by unfold zval; simpa using g)]
theorem ord_tt (n m : Nat) : ordI (zval true n) (zval true m) = ordN m n := by
 rcases Nat.lt_trichotomy m n with g | g | g
 · rw [ordN_lt g, ordI_lt (by unfold zval; simp; omega)]
 · rw [ordN_eq g, ordI_eq (by rw [g])]
 · rw [ordN_gt g, ordI_gt (by unfold zval; simp; omega)]
theorem neg_mag {l : List UInt8} (h : neg l = true) : mag l ≠ 0 := by
 intro h0
 have h1 := text_val (l := l) (by unfold neg at h; rw [Bool.and_eq_true] at h; exact h.1)
 unfold val at h1
 rw [h0, h] at h1
 rw [← h1] at h
 exact absurd h (by decide)
structure Two (w W : World) (u v u' v' : Value) : Prop where
 b0 : BoxIs W w.heap.size u v
 b1 : BoxIs W (w.heap.size + 1) u' v'
 bel : Below w.heap.size w W
 size : W.heap.size = w.heap.size + 2
theorem Two.new (w : World) (u v u' v' : Value) : Two w ((w.alloc (.cells #[u, v] 276)).alloc (.cells #[u', v'] 276)) u v u' v' := by
 have s1 : (w.alloc (.cells #[u, v] 276)).heap.size = w.heap.size + 1 := by simp
 refine ⟨(BoxIs.new w u v).alloc _, ?_, ((Below.refl _ _).alloc (Nat.le_refl _) _).alloc (by simp) _, by simp⟩
 have h := BoxIs.new (w.alloc (.cells #[u, v] 276)) u' v'
 rw [s1] at h
 exact h
theorem Two.below {w W W' : World} {u v u' v' : Value} (h : Two w W u v u' v') (hb : Below W.heap.size W W') :
 BoxIs W' w.heap.size u v ∧ BoxIs W' (w.heap.size + 1) u' v' ∧ Below w.heap.size w W' := by
 have := h.size
 exact ⟨h.b0.below hb (by omega), h.b1.below hb (by omega), h.bel.trans (hb.mono (by omega))⟩

theorem mul_digits {n m k l : Nat} (hn : n < 10 ^ k) (hm : m < 10 ^ l) : (digs (n * m)).length ≤ k + l := by
 apply digs_length_le
 rw [Nat.pow_add]
 exact Nat.mul_lt_mul'' hn hm

theorem multiply_any (s t : ByteArray) (w : World) (hs : s.size ≤ 400000000) (ht : t.size ≤ 400000000) :
 Calls Tryz.prog 290 #[.string s, .string t] w (RetS w (val (LA s) * val (LA t))) := by
 have hl := magLen s
 have hl2 := magLen t
 have hml := mul_digits (mag_bd s) (mag_bd t)
 have hval := qh9 (zval_mul (neg (LA s)) (neg (LA t)) (mag (LA s)) (mag (LA t)))
 go_enter Tryz.func290, Tryz.ntmps290
 go_wp2_with fail
 refine (parse_any s _ (by omega)).mono ?_
 rintro e w1 ⟨A1, c1, rfl, hc1, hR1, hb1⟩
 go_wp2_with fail
 refine (parse_any t _ (by omega)).mono ?_
 rintro e w2 ⟨A2, c2, rfl, hc2, hR2, hb2⟩
 replace hR1 := (hR1.below hb2).more hb2.size
 go_wp2
 have hT := Two.new w2 (.bool (neg (LA s))) (.slice A1 (digs (mag (LA s))).length c1) (.bool (neg (LA t))) (.slice A2 (digs (mag (LA t))).length c2)
 generalize (w2.alloc (.cells #[.bool (neg (LA s)), .slice A1 (digs (mag (LA s))).length c1] 276)).alloc (.cells #[.bool (neg (LA t)), .slice A2 (digs (mag (LA t))).length c2] 276) = W at hT ⊢
 have hr : Reads W.drew W.drew.heap.size .u8 A1 (digs (mag (LA s))) := ((hR1.below hT.bel).more (by have := hT.size; omega) : Reads W W.heap.size .u8 A1 (digs (mag (LA s))))
 have hr' : Reads W.drew W.drew.heap.size .u8 A2 (digs (mag (LA t))) := ((hR2.below hT.bel).more (by have := hT.size; omega) : Reads W W.heap.size .u8 A2 (digs (mag (LA t))))
 have e0 := hT.b0.cell0
 have e1 := hT.b0.cell1
 have e2 := hT.b1.cell0
 have e3 := hT.b1.cell1
 clear hR1 hR2
 go_region_held3 (fun W' => W'.cell? ⟨w2.heap.size, 0, none⟩ = some (.bool (neg (LA s))) ∧ W'.cell? ⟨w2.heap.size, 1, none⟩ = some (.slice A1 (digs (mag (LA s))).length c1) ∧ W'.cell? ⟨w2.heap.size + 1, 0, none⟩ = some (.bool (neg (LA t))) ∧ W'.cell? ⟨w2.heap.size + 1, 1, none⟩ = some (.slice A2 (digs (mag (LA t))).length c2)) (go_keep)
  (first | (go_at_call 301; refine (mulNat_any A1 A2 _ _ _ _ c1 c2 _ rfl rfl hr hr' (by omega) (by omega)).mono ?_; rintro e w3 ⟨A3, c3, rfl, hc3, hR3, hb3⟩; obtain ⟨k0, k1, k2⟩ := hT.below ((Below.refl _ W).drew.trans hb3); have j0 := k0.cell0; have j1 := k0.cell1; have j2 := k1.cell0; have j3 := k1.cell1) | (go_at_call 250; refine (text_any _ A3 _ c3 _ (by omega) hR3).mono ?_; rintro e w4 ⟨rfl, hb4⟩; obtain ⟨m0, m1, m2⟩ := hT.below (((Below.refl _ W).drew.trans hb3).trans (hb4.mono (by have := hb3.size; simpa using this))); have i0 := m0.cell0; have i1 := m0.cell1; have i2 := m1.cell0; have i3 := m1.cell1))
 go_wp2
 go_ret
 exact ⟨by rw [val_eq, val_eq, ← hval.out]; rfl, (hb1.trans (hb2.mono hb1.size)).trans (m2.mono (Nat.le_trans hb1.size hb2.size))⟩
def RetSS (w : World) (x y : Int) (e : Ending) (w' : World) : Prop := e = .returned (.tuple #[.string (BA (text x)), .string (BA (text y))]) ∧ Below w.heap.size w w'
theorem textRL (b : Bool) (A : Option Addr) (zs : List Nat) (c : Nat) (w : World) (hd : AllDig zs) (h : Reads w w.heap.size .i64 A zs) (hc : zs.length ≤ c) (h9 : zs.length ≤ 1000000000) :
 Calls Tryz.prog 155 #[.bool b, .slice A zs.length c] w (RetS w (zval b (ofD zs))) := by
 unfold RetS
 rw [show text (zval b (ofD zs)) = signText b (ofD zs) from (signText_eq b _).symm]
 exact textR b A zs c w hd h hc h9
theorem textRD (b : Bool) (A : Option Addr) (n c : Nat) (w : World) (h : Reads w w.heap.size .i64 A (digs n)) (hc : (digs n).length ≤ c) (h9 : (digs n).length ≤ 1000000000) :
 Calls Tryz.prog 155 #[.bool b, .slice A (digs n).length c] w (RetS w (zval b n)) := by
 have h1 := textRL b A (digs n) c w (allDig_digs n) h hc h9
 rwa [ofD_digs] at h1
theorem len_pos_of {n : Nat} (h : n ≠ 0) : 0 < (digs n).length := List.length_pos_iff.2 (digs_ne_nil h)
def GcdR (G x k : Nat) (A A' : Option Addr) (B : Nat) (w wr : World) : Prop :=
 Nat.gcd x k = G ∧ Reads wr wr.heap.size .i64 A (digs x) ∧ Reads wr wr.heap.size .i64 A' (digs k) ∧ Below B w wr

theorem gcdR (s t : ByteArray) (w : World) (hs : s.size ≤ 400000000) (ht : t.size ≤ 400000000) :
 Calls Tryz.prog 153 #[.string s, .string t] w (RetS w (Nat.gcd (mag (LA s)) (mag (LA t)) : Nat)) := by
 have hl := magLen s
 have hl2 := magLen t
 go_enter Tryz.func153, Tryz.ntmps153
 go_wp2_with fail
 refine (digitsR s _ (by omega)).mono ?_
 rintro e w1 ⟨A1, c1, rfl, hc1, hR1, hb1⟩
 go_wp2_with fail
 refine (digitsR t _ (by omega)).mono ?_
 rintro e w2 ⟨A2, c2, rfl, hc2, hR2, hb2⟩
 replace hR1 := (hR1.below hb2).more hb2.size
 have h12 := hb1.size
 have h23 := hb2.size
 have h0 : Hid (GcdR (Nat.gcd (mag (LA s)) (mag (LA t))) (mag (LA s)) (mag (LA t)) A1 A2 w2.heap.size w2 w2) := ⟨rfl, hR1, hR2, Below.refl _ _⟩
 clear hR1 hR2
 go_wp2
 go_loopg [6, 8] (mag (LA t)) (fun k u v wr => ∃ (x : Nat) (A A' : Option Addr) (c c' : Nat), u = .slice A (digs x).length c ∧ v = .slice A' (digs k).length c' ∧ (digs x).length ≤ c ∧ (digs k).length ≤ c' ∧ (digs x).length ≤ 1000000000 ∧ (digs k).length ≤ 1000000000 ∧ Hid (GcdR (Nat.gcd (mag (LA s)) (mag (LA t))) x k A A' w2.heap.size w2 wr))
 case atStart => exact ⟨mag (LA s), A1, A2, c1, c2, rfl, rfl, hc1, hc2, by omega, by omega, h0⟩
 case round =>
  clear h0
  obtain ⟨x, A, A', c, d, rfl, rfl, hc, hd, h9, h9', h0⟩ := hrel
  obtain ⟨hg, h, h', hbel⟩ := h0.out
  clear h0
  by_cases hk : gk = 0
  · subst hk
    rw [Nat.gcd_zero_right] at hg
    have hx : Hid (x = Nat.gcd (mag (LA s)) (mag (LA t))) := hg
    clear hg
    have h24 := hbel.size
    go_wp2_with fail
    refine (textRD false A x c _ h hc h9).mono ?_
    rintro e w4 ⟨rfl, hb4⟩
    rw [hx.out]
    go_wp2
    go_ret
    exact ⟨rfl, ((hb1.trans (hb2.mono (by omega))).trans (hbel.mono (by omega))).trans (hb4.mono (by omega))⟩
  · have hp := len_pos_of hk
    have hlt : x % gk < gk := Nat.mod_lt _ (by omega)
    have hl3 : (digs (x % gk)).length ≤ (digs gk).length := digs_length_mono (by omega)
    have hg2 : Hid (Nat.gcd gk (x % gk) = Nat.gcd (mag (LA s)) (mag (LA t))) := by
     show _ = _
     rw [← hg, Nat.gcd_comm x gk, Nat.gcd_rec gk x, Nat.gcd_comm]
    clear hg
    go_wp2_with fail
    refine (overR A A' x gk _ _ c d _ rfl rfl h h' h9 h9' hk).mono ?_
    rintro e w3 ⟨A3, c3, A4, c4, rfl, hc3, hc4, hR3, hR4, hb3⟩
    have hn : Hid (GcdR (Nat.gcd (mag (LA s)) (mag (LA t))) gk (x % gk) A' A4 w2.heap.size w2 w3) := ⟨hg2.out, (h'.below hb3).more hb3.size, hR4, hbel.trans (hb3.mono hbel.size)⟩
    clear hR3 hR4 h h' hbel hb3
    go_wp2
    go_roundg (x % gk)
    case measure => omega
    case rel => exact ⟨gk, A', A4, d, c4, rfl, rfl, hd, hc4, h9', by omega, hn⟩
theorem reduce_zero (s t : ByteArray) (w : World) (hs : s.size ≤ 400000000) (ht : t.size ≤ 400000000) (h0 : mag (LA t) = 0) :
 Calls Tryz.prog 217 #[.string s, .string t] w (RetSS w 0 1) := by
 have hz : (mag (LA t) == 0) = true := by rw [h0]; rfl
 have H0 := qh9 h0
 clear h0
 go_enter Tryz.func217, Tryz.ntmps217
 go_wp2_with fail
 refine (parse_any s _ (by omega)).mono ?_
 rintro e w1 ⟨A1, c1, rfl, hc1, hR1, hb1⟩
 go_wp2_with fail
 refine (parse_any t _ (by omega)).mono ?_
 rintro e w2 ⟨A2, c2, rfl, hc2, hR2, hb2⟩
 go_wp2_with fail
 have hT := Two.new w2 (.bool (neg (LA s))) (.slice A1 (digs (mag (LA s))).length c1) (.bool (neg (LA t))) (.slice A2 (digs (mag (LA t))).length c2)
 generalize (w2.alloc (.cells #[.bool (neg (LA s)), .slice A1 (digs (mag (LA s))).length c1] 276)).alloc (.cells #[.bool (neg (LA t)), .slice A2 (digs (mag (LA t))).length c2] 276) = W at hT ⊢
 clear hR1 hR2
 refine (isZero_any _ A2 _ c2 _).mono ?_
 rintro e w3 ⟨rfl, hb3⟩
 obtain ⟨k0, k1, k2⟩ := hT.below hb3
 go_wp2
 go_ret2
 exact ⟨rfl, (hb1.trans (hb2.mono hb1.size)).trans (k2.mono (Nat.le_trans hb1.size hb2.size))⟩

theorem gcd_len (n m : Nat) (hm : m ≠ 0) : (digs (Nat.gcd n m)).length ≤ (digs m).length := digs_length_mono (Nat.gcd_le_right n (Nat.pos_of_ne_zero hm))

theorem reduce_pos (s t : ByteArray) (w : World) (hs : s.size ≤ 400000000) (ht : t.size ≤ 400000000) (h0 : mag (LA t) ≠ 0) :
 Calls Tryz.prog 217 #[.string s, .string t] w (RetSS w (zval (neg (LA s) != neg (LA t)) (mag (LA s) / Nat.gcd (mag (LA s)) (mag (LA t)))) (zval false (mag (LA t) / Nat.gcd (mag (LA s)) (mag (LA t))))) := by
 have hl := magLen s
 have hl2 := magLen t
 have hz : (mag (LA t) == 0) = false := by rw [beq_eq_false_iff_ne]; exact h0
 have hg0 : Nat.gcd (mag (LA s)) (mag (LA t)) ≠ 0 := fun h => h0 (Nat.gcd_eq_zero_iff.1 h).2
 have hgl := gcd_len (mag (LA s)) (mag (LA t)) h0
 have hl3 : (digs (mag (LA s) / Nat.gcd (mag (LA s)) (mag (LA t)))).length ≤ (digs (mag (LA s))).length := digs_length_mono (Nat.div_le_self _ _)
 have hl4 : (digs (mag (LA t) / Nat.gcd (mag (LA s)) (mag (LA t)))).length ≤ (digs (mag (LA t))).length := digs_length_mono (Nat.div_le_self _ _)
 go_enter Tryz.func217, Tryz.ntmps217
 go_wp2_with fail
 refine (parse_any s _ (by omega)).mono ?_
 rintro e w1 ⟨A1, c1, rfl, hc1, hR1, hb1⟩
 go_wp2_with fail
 refine (parse_any t _ (by omega)).mono ?_
 rintro e w2 ⟨A2, c2, rfl, hc2, hR2, hb2⟩
 replace hR1 := (hR1.below hb2).more hb2.size
 go_wp2_with fail
 have hT := Two.new w2 (.bool (neg (LA s))) (.slice A1 (digs (mag (LA s))).length c1) (.bool (neg (LA t))) (.slice A2 (digs (mag (LA t))).length c2)
 generalize (w2.alloc (.cells #[.bool (neg (LA s)), .slice A1 (digs (mag (LA s))).length c1] 276)).alloc (.cells #[.bool (neg (LA t)), .slice A2 (digs (mag (LA t))).length c2] 276) = W at hT ⊢
 have hTs := hT.size
 have hr : Reads W W.heap.size .u8 A1 (digs (mag (LA s))) := (hR1.below hT.bel).more (by omega)
 have hr' : Reads W W.heap.size .u8 A2 (digs (mag (LA t))) := (hR2.below hT.bel).more (by omega)
 clear hR1 hR2
 refine (isZero_any _ A2 _ c2 _).mono ?_
 rintro e w3 ⟨rfl, hb3⟩
 obtain ⟨k0, k1, k2⟩ := hT.below hb3
 have hs3 := hb3.size
 replace hr := (hr.below hb3).more hb3.size
 replace hr' := (hr'.below hb3).more hb3.size
 have j0 := k0.cell0
 have j1 := k0.cell1
 have j2 := k1.cell0
 have j3 := k1.cell1
 go_wp2_with fail
 refine (gcdNat_any A1 A2 _ _ _ _ c1 c2 _ rfl rfl hr hr' hc1 hc2 (by omega) (by omega)).mono ?_
 rintro e w4 ⟨A3, c3, rfl, hc3, hR3, hb4⟩
 have hs4 := hb4.size
 have p0 := k0.below hb4 (by omega)
 have p1 := k1.below hb4 (by omega)
 have p2 := k2.trans (hb4.mono (by omega))
 replace hr := (hr.below hb4).more hb4.size
 replace hr' := (hr'.below hb4).more hb4.size
 clear j0 j1 j2 j3
 have j0 := p0.cell0
 have j1 := p0.cell1
 have j2 := p1.cell0
 have j3 := p1.cell1
 go_wp2_with fail
 refine (divNat_any A1 A3 _ _ _ _ c1 c3 _ rfl rfl hr hR3 hc1 (by omega) hg0).mono ?_
 rintro e w5 ⟨A4, c4, A5, c5, rfl, hc4, hc5, hR4, hR5, hb5⟩
 have hs5 := hb5.size
 have q0 := p0.below hb5 (by omega)
 have q1 := p1.below hb5 (by omega)
 have q2 := p2.trans (hb5.mono (by omega))
 replace hr' := (hr'.below hb5).more hb5.size
 replace hR3 := (hR3.below hb5).more hb5.size
 clear j0 j1 j2 j3 hR5 hr
 have j0 := q0.cell0
 have j1 := q0.cell1
 have j2 := q1.cell0
 have j3 := q1.cell1
 go_wp2_with fail
 refine (divNat_any A2 A3 _ _ _ _ c2 c3 _ rfl rfl hr' hR3 hc2 (by omega) hg0).mono ?_
 rintro e w6 ⟨A6, c6, A7, c7, rfl, hc6, hc7, hR6, hR7, hb6⟩
 have hs6 := hb6.size
 have t0 := q0.below hb6 (by omega)
 have t1 := q1.below hb6 (by omega)
 have t2 := q2.trans (hb6.mono (by omega))
 replace hR4 := (hR4.below hb6).more hb6.size
 clear j0 j1 j2 j3 hR7 hr' hR3
 have j0 := t0.cell0
 have j1 := t0.cell1
 have j2 := t1.cell0
 have j3 := t1.cell1
 go_wp2_with fail
 refine (text_any _ A4 _ c4 _ (by omega) hR4).mono ?_
 rintro e w7 ⟨rfl, hb7⟩
 have hs7 := hb7.size
 replace hR6 := (hR6.below hb7).more hb7.size
 go_wp2_with fail
 refine (text_any _ A6 _ c6 _ (by omega) hR6).mono ?_
 rintro e w8 ⟨rfl, hb8⟩
 go_wp2
 go_ret2
 exact ⟨rfl, (hb1.trans (hb2.mono hb1.size)).trans (((t2.trans (hb7.mono (by omega))).trans (hb8.mono (by omega))).mono (Nat.le_trans hb1.size hb2.size))⟩
theorem mag_BA (x : Int) : mag (LA (BA (text x))) = x.natAbs := by rw [LA_BA, ← val_natAbs, val_text]
theorem len_BA {x : Int} {k : Nat} (h : x.natAbs < 10 ^ k) : (BA (text x)).size ≤ k + 2 := by rw [BA_size]; exact text_length h

theorem reduceR_zero (s t : ByteArray) (w : World) (hs : s.size ≤ 300000000) (ht : t.size ≤ 300000000) (h0 : mag (LA t) = 0) :
 Calls Tryz.prog 109 #[.string s, .string t] w (RetSS w 0 1) := by
 have hz : (((digs (mag (LA t))).length : Int) == 0) = true := by rw [h0]; rfl
 replace h0 := qh9 h0
 go_enter Tryz.func109, Tryz.ntmps109
 go_wp2_with fail
 refine (digitsR t _ (by omega)).mono ?_
 rintro e w2 ⟨A2, c2, rfl, hc2, hR2, hb2⟩
 go_wp2
 go_ret2
 exact ⟨rfl, hb2⟩

theorem reduceR_pos (s t : ByteArray) (w : World) (hs : s.size ≤ 300000000) (ht : t.size ≤ 300000000) (h0 : mag (LA t) ≠ 0) :
 Calls Tryz.prog 109 #[.string s, .string t] w (RetSS w (zval (neg (LA s) != neg (LA t)) (mag (LA s) / Nat.gcd (mag (LA s)) (mag (LA t)))) (zval false (mag (LA t) / Nat.gcd (mag (LA s)) (mag (LA t))))) := by
 have hl := magLen s
 have hl2 := magLen t
 have hp := len_pos_of h0
 have hz : (((digs (mag (LA t))).length : Int) == 0) = false := by rw [beq_eq_false_iff_ne]; omega
 have hg0 : Nat.gcd (mag (LA s)) (mag (LA t)) ≠ 0 := fun h => h0 (Nat.gcd_eq_zero_iff.1 h).2
 have hgl := gcd_len (mag (LA s)) (mag (LA t)) h0
 have hgs : (BA (text ((Nat.gcd (mag (LA s)) (mag (LA t)) : Nat) : Int))).size ≤ 400000000 := by
  have h1 := len_BA (x := ((Nat.gcd (mag (LA s)) (mag (LA t)) : Nat) : Int)) (k := t.size + 1) (by
   rw [Int.natAbs_natCast]
   exact Nat.lt_of_le_of_lt (Nat.gcd_le_right _ (Nat.pos_of_ne_zero h0)) (mag_bd t))
  omega
 have hgm : Hid (mag (LA (BA (text ((Nat.gcd (mag (LA s)) (mag (LA t)) : Nat) : Int)))) = Nat.gcd (mag (LA s)) (mag (LA t))) := by show _ = _; rw [mag_BA, Int.natAbs_natCast]
 have hl3 : (digs (mag (LA s) / Nat.gcd (mag (LA s)) (mag (LA t)))).length ≤ (digs (mag (LA s))).length := digs_length_mono (Nat.div_le_self _ _)
 have hl4 : (digs (mag (LA t) / Nat.gcd (mag (LA s)) (mag (LA t)))).length ≤ (digs (mag (LA t))).length := digs_length_mono (Nat.div_le_self _ _)
 obtain ⟨x, hx⟩ : ∃ x, BA (text ((Nat.gcd (mag (LA s)) (mag (LA t)) : Nat) : Int)) = x := ⟨_, rfl⟩
 rw [hx] at hgs hgm
 have HX := qh9 hx
 clear hx
 go_enter Tryz.func109, Tryz.ntmps109
 go_wp2_with fail
 refine (digitsR t _ (by omega)).mono ?_
 rintro e w1 ⟨A2, c2, rfl, hc2, hR2, hb1⟩
 have h12 := hb1.size
 go_wp2_with fail
 refine (digitsR s _ (by omega)).mono ?_
 rintro e w2 ⟨A1, c1, rfl, hc1, hR1, hb2⟩
 have h23 := hb2.size
 replace hR2 := (hR2.below hb2).more hb2.size
 go_wp2_with fail
 refine (gcdR s t _ (by omega) (by omega)).mono ?_
 rintro e w3 ⟨rfl, hb3⟩
 have h34 := hb3.size
 replace hR2 := (hR2.below hb3).more hb3.size
 replace hR1 := (hR1.below hb3).more hb3.size
 rw [HX.out]
 go_wp2_with fail
 refine (digitsR x _ (by omega)).mono ?_
 rintro e w4 ⟨A3, c3, rfl, hc3, hR3, hb4⟩
 have h45 := hb4.size
 replace hR2 := (hR2.below hb4).more hb4.size
 replace hR1 := (hR1.below hb4).more hb4.size
 rw [hgm.out] at hc3 hR3 ⊢
 go_wp2_with fail
 refine (overR A1 A3 _ _ _ _ c1 c3 _ rfl rfl hR1 hR3 (by omega) (by omega) hg0).mono ?_
 rintro e w5 ⟨A4, c4, A5, c5, rfl, hc4, hc5, hR4, hR5, hb5⟩
 have h56 := hb5.size
 replace hR2 := (hR2.below hb5).more hb5.size
 replace hR3 := (hR3.below hb5).more hb5.size
 clear hR5 hR1
 go_wp2_with fail
 refine (overR A2 A3 _ _ _ _ c2 c3 _ rfl rfl hR2 hR3 (by omega) (by omega) hg0).mono ?_
 rintro e w6 ⟨A6, c6, A7, c7, rfl, hc6, hc7, hR6, hR7, hb6⟩
 have h67 := hb6.size
 replace hR4 := (hR4.below hb6).more hb6.size
 clear hR7 hR2 hR3
 go_wp2_with fail
 refine (textRD (neg (LA s) != neg (LA t)) A4 _ c4 _ hR4 hc4 (by omega)).mono ?_
 rintro e w7 ⟨rfl, hb7⟩
 have h78 := hb7.size
 replace hR6 := (hR6.below hb7).more hb7.size
 go_wp2_with fail
 refine (textRD false A6 _ c6 _ hR6 hc6 (by omega)).mono ?_
 rintro e w8 ⟨rfl, hb8⟩
 go_wp2
 go_ret2
 exact ⟨rfl, (((((((hb1.trans (hb2.mono (by omega))).trans (hb3.mono (by omega))).trans (hb4.mono (by omega))).trans (hb5.mono (by omega))).trans (hb6.mono (by omega))).trans (hb7.mono (by omega))).trans (hb8.mono (by omega)))⟩
def quo (l m : List UInt8) : Rat := Rat.divInt (val l) (val m)

theorem sign_val_eq (l : List UInt8) (h : mag l ≠ 0) : (val l).sign = if neg l then -1 else 1 := by
 unfold val
 cases neg l
 · simp only [Bool.false_eq_true, if_false]; exact Int.sign_eq_one_of_pos (by omega)
 · simp only [if_true]; exact Int.sign_eq_neg_one_of_neg (by omega)

theorem zval_div (b : Bool) (n g : Nat) (hg : g ∣ n) : zval b (n / g) = zval b n / (g : Int) := by
 unfold zval
 cases b
 · simp
 · simp only [if_true]
   rw [Int.neg_ediv_of_dvd (by exact_mod_cast hg)]
   simp

theorem red_num {l m : List UInt8} (h : mag m ≠ 0) : zval (neg l != neg m) (mag l / Nat.gcd (mag l) (mag m)) = (quo l m).num := by
 unfold quo
 rw [Rat.num_divInt, sign_val_eq m h, zval_div _ _ _ (Nat.gcd_dvd_left _ _)]
 unfold Int.gcd
 rw [val_natAbs, val_natAbs, Nat.gcd_comm (mag m)]
 rw [val_eq l]
 congr 1
 unfold zval
 cases neg l <;> cases neg m <;> simp

theorem red_den {l m : List UInt8} (h : mag m ≠ 0) : zval false (mag m / Nat.gcd (mag l) (mag m)) = ((quo l m).den : Int) := by
 unfold quo
 have h0 : val m ≠ 0 := by rw [← Int.natAbs_ne_zero, val_natAbs]; exact h
 rw [Rat.den_divInt, if_neg h0]
 unfold Int.gcd
 rw [val_natAbs, val_natAbs, Nat.gcd_comm (mag m)]
 unfold zval
 simp

theorem quo_zero {l m : List UInt8} (h : mag m = 0) : quo l m = 0 := by
 unfold quo
 have h0 : val m = 0 := by rw [← Int.natAbs_eq_zero, val_natAbs]; exact h
 rw [h0, Rat.divInt_zero]
def RetQ (w : World) (q : Rat) (e : Ending) (w' : World) : Prop := RetSS w q.num (q.den : Int) e w'

theorem reduceR_q (s t : ByteArray) (w : World) (hs : s.size ≤ 300000000) (ht : t.size ≤ 300000000) :
 Calls Tryz.prog 109 #[.string s, .string t] w (RetQ w (quo (LA s) (LA t))) := by
 unfold RetQ
 by_cases h0 : mag (LA t) = 0
 · rw [quo_zero h0]
   exact reduceR_zero s t w hs ht h0
 · rw [← red_num h0, ← red_den h0]
   exact reduceR_pos s t w hs ht h0
theorem reduce_q (s t : ByteArray) (w : World) (hs : s.size ≤ 400000000) (ht : t.size ≤ 400000000) :
 Calls Tryz.prog 217 #[.string s, .string t] w (RetQ w (quo (LA s) (LA t))) := by
 unfold RetQ
 by_cases h0 : mag (LA t) = 0
 · rw [quo_zero h0]
   exact reduce_zero s t w hs ht h0
 · rw [← red_num h0, ← red_den h0]
   exact reduce_pos s t w hs ht h0
def nt (q : Rat) : ByteArray := BA (text q.num)
def dt (q : Rat) : ByteArray := BA (text (q.den : Int))
theorem val_nt (q : Rat) : val (LA (nt q)) = q.num := by unfold nt; rw [LA_BA, val_text]
theorem val_dt (q : Rat) : val (LA (dt q)) = (q.den : Int) := by unfold dt; rw [LA_BA, val_text]
theorem quo_self (q : Rat) : quo (LA (nt q)) (LA (dt q)) = q := by
 unfold quo; rw [val_nt, val_dt]; exact Rat.num_divInt_den q
theorem q_ext {p q : Rat} (hn : nt p = nt q) (hd : dt p = dt q) : p = q := by
 rw [← quo_self p, hn, hd, quo_self]
theorem q_beq (p q : Rat) : ((nt p).toList == (nt q).toList && (dt p).toList == (dt q).toList) = decide (p = q) := by
 by_cases h : p = q
 · subst h; simp
 · rw [decide_eq_false h]
   by_cases h1 : nt p = nt q
   · by_cases h2 : dt p = dt q
     · exact absurd (q_ext h1 h2) h
     · rw [(Lib.bytes_beq_false_iff _ _).2 h2, Bool.and_false]
   · rw [(Lib.bytes_beq_false_iff _ _).2 h1, Bool.false_and]

def ordQ (x y : Rat) : Int := if x < y then -1 else if y < x then 1 else 0
theorem ordQ_eq (x y : Rat) : ordI (x.num * (y.den : Int)) (y.num * (x.den : Int)) = ordQ x y := by
 unfold ordI ordQ
 simp only [Rat.lt_iff]
theorem ordQ_zero (x y : Rat) : ordQ x y = 0 ↔ x = y := by
 unfold ordQ
 constructor
 · intro h
   by_cases h1 : x < y
   · rw [if_pos h1] at h; omega
   · rw [if_neg h1] at h
     by_cases h2 : y < x
     · rw [if_pos h2] at h; omega
     · exact Rat.le_antisymm (Rat.not_lt.1 h2) (Rat.not_lt.1 h1)
 · rintro rfl
   rw [if_neg Rat.lt_irrefl, if_neg Rat.lt_irrefl]
inductive Ob where
 | num (q : Rat)
 | str (s : List UInt8)
 | sym (p n : List UInt8)
 | cons (a d : Ob)
deriving DecidableEq
def ordB (a b : List UInt8) : Int := Lib.compareBytes a b

theorem ordB_zero : ∀ a b : List UInt8, ordB a b = 0 ↔ a = b
 | [], [] => by simp [ordB, Lib.compareBytes]
 | [], _ :: _ => by simp [ordB, Lib.compareBytes]
 | _ :: _, [] => by simp [ordB, Lib.compareBytes]
 | x :: a, y :: b => by
  have ih := ordB_zero a b
  unfold ordB at ih ⊢
  unfold Lib.compareBytes
  by_cases h : x < y
  · rw [if_pos h]
    constructor
    · intro e; omega
    · intro e; injection e with e1 e2; subst e1; exact absurd h (UInt8.lt_irrefl x)
  · rw [if_neg h]
    by_cases h2 : y < x
    · rw [if_pos h2]
      constructor
      · intro e; omega
      · intro e; injection e with e1 e2; subst e1; exact absurd h2 (UInt8.lt_irrefl x)
    · rw [if_neg h2, ih]
      have e : x = y := UInt8.le_antisymm (UInt8.not_lt.1 h2) (UInt8.not_lt.1 h)
      subst e
      simp
def next (c d : Int) : Int := if c = 0 then d else c

def ordS (p n p' n' : List UInt8) : Int := next (ordB n n') (ordB p p')

def Ob.rank : Ob → Int
 | .num _ => 1
 | .str _ => 2
 | .sym _ _ => 3
 | .cons _ _ => 4
def ordO : Ob → Ob → Int
 | .num x, .num y => ordQ x y
 | .str s, .str t => ordB s t
 | .sym p n, .sym p' n' => ordS p n p' n'
 | .cons a d, .cons a' d' => next (ordO a a') (ordO d d')
 | x, y => if x.rank < y.rank then -1 else 1

theorem next_zero {c d : Int} : next c d = 0 ↔ c = 0 ∧ d = 0 := by
 unfold next
 by_cases h : c = 0
 · rw [if_pos h]; simp [h]
 · rw [if_neg h]; simp [h]
structure Orders {α : Type} (f : α → α → Int) : Prop where
 anti : ∀ a b, f b a = - f a b
 zero : ∀ a b, f a b = 0 ↔ a = b
 trans : ∀ a b c, f a b ≤ 0 → f b c ≤ 0 → f a c ≤ 0
section
variable {α : Type} {f : α → α → Int}
end
theorem ordO_zero : ∀ a b : Ob, ordO a b = 0 ↔ a = b
 | .num x, .num y => by simp only [ordO, Ob.num.injEq]; exact ordQ_zero x y
 | .str s, .str t => by simp only [ordO, Ob.str.injEq]; exact ordB_zero s t
 | .sym p n, .sym p' n' => by simp only [ordO, ordS, next_zero, Ob.sym.injEq, ordB_zero]; exact And.comm
 | .cons a d, .cons a' d' => by simp only [ordO, next_zero, Ob.cons.injEq, ordO_zero a a', ordO_zero d d']
 | .num _, .str _ => by simp [ordO, Ob.rank]
 | .num _, .sym _ _ => by simp [ordO, Ob.rank]
 | .num _, .cons _ _ => by simp [ordO, Ob.rank]
 | .str _, .num _ => by simp [ordO, Ob.rank]
 | .str _, .sym _ _ => by simp [ordO, Ob.rank]
 | .str _, .cons _ _ => by simp [ordO, Ob.rank]
 | .sym _ _, .num _ => by simp [ordO, Ob.rank]
 | .sym _ _, .str _ => by simp [ordO, Ob.rank]
 | .sym _ _, .cons _ _ => by simp [ordO, Ob.rank]
 | .cons _ _, .num _ => by simp [ordO, Ob.rank]
 | .cons _ _, .str _ => by simp [ordO, Ob.rank]
 | .cons _ _, .sym _ _ => by simp [ordO, Ob.rank]
theorem ordO_less {a b : Ob} (h : a.rank < b.rank) : ordO a b = -1 := by
 cases a <;> cases b <;> simp [ordO, Ob.rank] at h ⊢
theorem ordO_more {a b : Ob} (h : b.rank < a.rank) : ordO a b = 1 := by
 cases a <;> cases b <;> simp [ordO, Ob.rank] at h ⊢
def Ob.nodes : Ob → Nat
 | .cons a d => 1 + a.nodes + d.nodes
 | _ => 1
theorem Ob.nodes_pos (a : Ob) : 1 ≤ a.nodes := by cases a <;> simp only [Ob.nodes] <;> omega
def lispB : List UInt8 := [108, 105, 115, 112]
def userB : List UInt8 := [117, 115, 101, 114]
def SyOk (p n : List UInt8) : Prop := (p = lispB ∨ p = userB) ∧ 1 ≤ n.length ∧ n.length ≤ 40
theorem nil_ok : SyOk lispB [110, 105, 108] := ⟨.inl rfl, by decide, by decide⟩
def Ob.nil : Ob := .sym lispB [110, 105, 108]
def Ob.t : Ob := .sym lispB [116]
def Ob.list (l : List Ob) : Ob := l.foldr .cons .nil
def Ob.items : Ob → Option (List Ob)
 | .cons a d => d.items.map (a :: ·)
 | x => if x = .nil then some [] else none
def e0 : Value := .string ⟨#[]⟩
def cellsO : Ob → Value → List Value
 | .num q, p => [.int .i64 1, .string (nt q), .string (dt q), e0, e0, e0, p]
 | .str s, p => [.int .i64 3, e0, e0, e0, e0, .string (BA s), p]
 | .sym a n, p => [.int .i64 2, e0, e0, .string (BA a), .string (BA n), e0, p]
 | .cons _ _, p => [.int .i64 4, e0, e0, e0, e0, e0, p]
def vO (o : Ob) (p : Value) : Value := .agg (cellsO o p).toArray
theorem cellsO_length (o : Ob) (p : Value) : (cellsO o p).length = 7 := by cases o <;> rfl
def Plain (w : World) (b : Nat) : Prop := ∃ cs t, w.heap[b]? = some (.cells cs t (0, 0))
theorem Plain.keep {w w' : World} {b : Nat} (h : Plain w b) (hk : w'.heap[b]? = w.heap[b]?) : Plain w' b := by
 obtain ⟨cs, t, h⟩ := h; exact ⟨cs, t, hk.trans h⟩
def Pair (w : World) (S : Nat → Prop) : Ob → Value → Prop
 | .cons a d, p => ∃ b o c pa pd, p = .slice (some ⟨b, o, none⟩) 2 c ∧ 2 ≤ c ∧ (S b ∧ Plain w b) ∧
  (∀ j u, (cellsO a pa ++ cellsO d pd)[j]? = some u → w.cell? ⟨b, o + j, none⟩ = some u) ∧ Pair w S a pa ∧ Pair w S d pd
 | _, p => p = .slice none 0 0

theorem Pair.keep {w w' : World} {S S' : Nat → Prop} (hS : ∀ b, S b → S' b) (hk : ∀ b, S b → w'.heap[b]? = w.heap[b]?) : ∀ {o : Ob} {p : Value}, Pair w S o p → Pair w' S' o p
 | .num _, _, h => h
 | .str _, _, h => h
 | .sym _ _, _, h => h
 | .cons a d, p, ⟨b, o, c, pa, pd, h1, h2, h3, h4, h5, h6⟩ =>
  ⟨b, o, c, pa, pd, h1, h2, ⟨hS b h3.1, h3.2.keep (hk b h3.1)⟩, fun j u hj => (World.cell?_of_block (a := ⟨b, o + j, none⟩) (hk b h3.1)).trans (h4 j u hj), h5.keep hS hk, h6.keep hS hk⟩
theorem Pair.below {w w' : World} {S : Nat → Prop} {B : Nat} {o : Ob} {p : Value} (h : Pair w S o p) (hS : ∀ b, S b → b < B) (hb : Below B w w') : Pair w' S o p := h.keep (fun _ h => h) fun q hq => hb.block q (hS q hq)
theorem Pair.more {w : World} {S S' : Nat → Prop} {o : Ob} {p : Value} (h : Pair w S o p) (hS : ∀ b, S b → S' b) : Pair w S' o p := h.keep hS fun _ _ => rfl
theorem Pair.setRow {w : World} {S : Nat → Prop} {o : Ob} {p : Value} (h : Pair w S o p) (g : Nat) (hg : ¬ S g) (cs : Array Value) : Pair (w.setRow g cs) S o p :=
 h.keep (fun _ h => h) fun q hq => setRow_other w g q cs (fun e => hg (e ▸ hq))
def Upto (w w' : World) (S : Nat → Prop) (b : Nat) : Prop := S b ∨ (w.heap.size ≤ b ∧ b < w'.heap.size)
def In (S : Nat → Prop) (w : World) : Prop := ∀ b, S b → b < w.heap.size
theorem In.upto {S : Nat → Prop} {w w' : World} (h : In S w) (hs : w.heap.size ≤ w'.heap.size) : In (Upto w w' S) w' := fun b hb => by
 rcases hb with hb | ⟨_, hb⟩
 · exact Nat.lt_of_lt_of_le (h b hb) hs
 · exact hb
theorem In.later {S : Nat → Prop} {w w' : World} (h : In S w) (hs : w.heap.size ≤ w'.heap.size) : In S w' := fun b hb => Nat.lt_of_lt_of_le (h b hb) hs
def RetO (w : World) (S : Nat → Prop) (o : Ob) (e : Ending) (w' : World) : Prop := ∃ p, e = .returned (vO o p) ∧ Pair w' (Upto w w' S) o p ∧ Below w.heap.size w w'
theorem retO {fn : Func} {p : Tmp} {Q : Ending → World → Prop} {tmps : Array Value} {w : World} {g : Nat} {cs : Array Value} {t : TypeId} {fr : Nat × Nat}
 (h : fn.results = #[.cell p 27]) (hp : tmps.getD p undef = .pointer (some ⟨g, 0, none⟩)) (hg : w.heap[g]? = some (.cells cs t fr)) (hs : cs.size = 7)
 (hQ : Q (.returned (.agg cs)) w) : bodyPost Tryz.prog fn Q Exit.ret ⟨tmps, []⟩ w :=
 bodyPost_ret (results_cell_row h tmps w g t cs fr _ hp hg Tryz.underlying27 rfl (by rw [hs]; kernel_rfl)) rfl hQ
theorem storeO {ops : Array Oper} {rest : List Oper} {o : Oper} {a : Act} {w : World} {Q : Exit → Act → World → Prop} (hgd : o.guard = none) (x y : Operand) (ho : o.op = .store 27 x y)
 (g : Nat) (cells : Array Value) (hx : a.eval x = .pointer (some ⟨g, 0, none⟩)) (hy : a.eval y = .agg cells)
 (t : TypeId) (old : Array Value) (hg : w.heap[g]? = some (.cells old t (0, 0))) (hold : old.size = 7) (hc : cells.size = 7) (h1 : cells.all (·.oneCell') = true)
 (h : wpList Tryz.prog ops Q rest (a.put o.dst undef) (w.setRow g cells)) : wpList Tryz.prog ops Q (o :: rest) a w :=
 wpList_store_row hgd 27 x y ho g cells hx hy t old hg (by rw [hc]; kernel_rfl) (hold.trans hc.symm) h1 h
theorem below_setRowO {B g : Nat} {w0 w : World} (hb : Below B w0 w) (hBg : B ≤ g) (cs : Array Value) : Below B w0 (w.setRow g cs) :=
 ⟨hb.os, hb.tape, hb.output, by rw [size_setRow]; exact hb.size, fun k hk => (setRow_other w g k cs (by omega)).trans (hb.block k hk)⟩

theorem heap_new_at {w : World} {o : Obj} {g : Nat} (hg : g = w.heap.size) : (w.alloc o).heap[g]? = some o := by subst hg; exact heap_alloc_new w o
theorem Pair.one {w : World} {S : Nat → Prop} {o : Ob} {p : Value} (h : Pair w S o p) : (cellsO o p).toArray.all (·.oneCell') = true := by
 cases o with
 | cons a d => obtain ⟨b, o, c, pa, pd, rfl, _⟩ := h; simp [cellsO, Value.oneCell', e0]
 | num q => have e : p = .slice none 0 0 := h; subst e; simp [cellsO, Value.oneCell', e0]
 | str s => have e : p = .slice none 0 0 := h; subst e; simp [cellsO, Value.oneCell', e0]
 | sym a n => have e : p = .slice none 0 0 := h; subst e; simp [cellsO, Value.oneCell', e0]
theorem storeV {ops : Array Oper} {rest : List Oper} {o : Oper} {a : Act} {w w1 : World} {S : Nat → Prop} {Q : Exit → Act → World → Prop} (hgd : o.guard = none) (x y : Operand) (ho : o.op = .store 27 x y)
 (g : Nat) (b : Ob) (p : Value) (hx : a.eval x = .pointer (some ⟨g, 0, none⟩)) (hy : a.eval y = vO b p) (hp : Pair w1 S b p)
 (t : TypeId) (old : Array Value) (hg : w.heap[g]? = some (.cells old t (0, 0))) (hold : old.size = 7)
 (h : wpList Tryz.prog ops Q rest (a.put o.dst undef) (w.setRow g (cellsO b p).toArray)) : wpList Tryz.prog ops Q (o :: rest) a w :=
 storeO hgd x y ho g _ hx hy t old hg hold (by simp [cellsO_length]) hp.one h
theorem retV {fn : Func} {q : Tmp} {w0 : World} {S S' : Nat → Prop} {tmps : Array Value} {w : World} {g : Nat} {o : Ob} {p : Value} {t : TypeId} {old : Array Value} {fr : Nat × Nat}
 (h : fn.results = #[.cell q 27]) (hq : tmps.getD q undef = .pointer (some ⟨g, 0, none⟩)) (hg : w.heap[g]? = some (.cells old t fr))
 (hp : Pair w S' o p) (hn : ¬ S' g) (hS : ∀ b, S' b → Upto w0 w S b) (hlt : w0.heap.size ≤ g) (hb : Below w0.heap.size w0 w) :
 bodyPost Tryz.prog fn (RetO w0 S o) Exit.ret ⟨tmps, []⟩ (w.setRow g (cellsO o p).toArray) :=
 retO h hq (setRow_heap _ _ _ _ _ _ hg) (by simp [cellsO_length]) ⟨p, rfl, (hp.setRow g hn _).more (fun b hb => by
  have := hS b hb
  unfold Upto at this ⊢
  rwa [size_setRow]), below_setRowO hb hlt _⟩

theorem cells7 (o : Ob) (p : Value) : ∃ a0 a1 a2 a3 a4 a5, cellsO o p = [a0, a1, a2, a3, a4, a5, p] := by
 cases o <;> exact ⟨_, _, _, _, _, _, rfl⟩
theorem symO (p n : ByteArray) (w : World) (S : Nat → Prop) : Calls Tryz.prog 62 #[.agg #[.string p, .string n]] w (RetO w S (.sym (LA p) (LA n))) := by
 obtain ⟨p, rfl⟩ : ∃ l, p = BA l := ⟨LA p, (BA_LA p).symm⟩
 obtain ⟨n, rfl⟩ : ∃ l, n = BA l := ⟨LA n, (BA_LA n).symm⟩
 go_enter Tryz.func62, Tryz.ntmps62
 go_wp2_with fail
 refine retO rfl rfl (heap_alloc2_new w _ _) rfl ⟨.slice none 0 0, ?_, rfl, ?_⟩
 · rfl
 · exact Below.alloc (Below.alloc (Below.refl _ _) (Nat.le_refl _) _) (by simp) _
theorem consRaw (a0 a1 a2 a3 a4 a5 a6 b0 b1 b2 b3 b4 b5 b6 : Value) (w : World) :
 Calls Tryz.prog 81 #[.agg #[a0, a1, a2, a3, a4, a5, a6], .agg #[b0, b1, b2, b3, b4, b5, b6]] w fun e w' =>
  ∃ g, e = .returned (.agg #[.int .i64 4, e0, e0, e0, e0, e0, .slice (some ⟨g, 0, none⟩) 2 2]) ∧ w.heap.size ≤ g ∧ g < w'.heap.size ∧
   w'.heap[g]? = some (.cells #[a0, a1, a2, a3, a4, a5, a6, b0, b1, b2, b3, b4, b5, b6] 27 (0, 0)) ∧ Below w.heap.size w w' := by
 go_enter Tryz.func81, Tryz.ntmps81
 go_wp2_with fail
 refine retO rfl rfl (g := w.heap.size + 1 + 1) (t := 27) (fr := (0, 0)) ?_ rfl ⟨w.heap.size + 1 + 1 + 1, rfl, by omega, ?_, ?_, ?_⟩
 · rw [Below.heap_alloc _ _ _ (by simp)]
   exact heap_new_at (by simp)
 · simp
 · exact heap_new_at (by simp)
 · exact Below.alloc (Below.alloc (Below.alloc (Below.alloc (Below.refl _ _) (Nat.le_refl _) _) (by simp) _) (by simp; omega) _) (by simp; omega) _
theorem consO (a d : Ob) (pa pd : Value) (w : World) (S : Nat → Prop) (hS : In S w) (ha : Pair w S a pa) (hd : Pair w S d pd) :
 Calls Tryz.prog 81 #[vO a pa, vO d pd] w (RetO w S (.cons a d)) := by
 obtain ⟨a0, a1, a2, a3, a4, a5, ea⟩ := cells7 a pa
 obtain ⟨b0, b1, b2, b3, b4, b5, eb⟩ := cells7 d pd
 unfold vO
 rw [ea, eb]
 refine (consRaw a0 a1 a2 a3 a4 a5 pa b0 b1 b2 b3 b4 b5 pd w).mono ?_
 rintro e w' ⟨g, rfl, hg0, hg, hh, hb⟩
 refine ⟨.slice (some ⟨g, 0, none⟩) 2 2, rfl, ⟨g, 0, 2, pa, pd, rfl, Nat.le_refl _, ⟨.inr ⟨hg0, hg⟩, _, _, hh⟩, ?_, (ha.below hS hb).more fun _ h => .inl h, (hd.below hS hb).more fun _ h => .inl h⟩, hb⟩
 intro j u hj
 rw [ea, eb] at hj
 rw [Nat.zero_add, cell_of_row w' g j _ _ _ hh, ← hj]
 simp
theorem ratO (s t : ByteArray) (w : World) (S : Nat → Prop) (hS : In S w) (hs : s.size ≤ 300000000) (ht : t.size ≤ 300000000) :
 Calls Tryz.prog 64 #[.string s, .string t] w (RetO w S (.num (quo (LA s) (LA t)))) := by
 go_enter Tryz.func64, Tryz.ntmps64
 go_wp2_with fail
 refine (reduceR_q s t _ hs ht).mono ?_
 rintro e w1 ⟨rfl, hb1⟩
 have hg := qh9 ((hb1.block w.heap.size (by simp)).trans (heap_alloc_new w _))
 go_wp2_with (refine storeV (w1 := w1) (S := fun _ => False) rfl (.tmp 4) (.tmp 15) rfl w.heap.size (.num (quo (LA s) (LA t))) (.slice none 0 0) rfl rfl rfl _ _ hg.out rfl ?_)
 exact retV (S' := fun _ => False) rfl rfl hg.out rfl (fun h => h) (fun _ h => h.elim) (Nat.le_refl _) ((Below.alloc (Below.refl _ _) (Nat.le_refl _) _).trans (hb1.mono (by simp)))
theorem lispO (s : ByteArray) (w : World) : Calls Tryz.prog 63 #[.string s] w fun e w' => e = .returned (.agg #[.string (BA lispB), .string s]) ∧ Below w.heap.size w w' := by
 go_enter Tryz.func63, Tryz.ntmps63
 go_wp2_with fail
 refine bodyPost_ret (results_cell_row rfl _ _ w.heap.size _ _ _ _ rfl (heap_alloc_new w _) Tryz.underlying24 rfl (by kernel_rfl)) rfl ⟨rfl, ?_⟩
 exact Below.alloc (Below.refl _ _) (Nat.le_refl _) _
theorem nilO (w : World) (S : Nat → Prop) : Calls Tryz.prog 108 #[] w (RetO w S .nil) := by
 go_enter Tryz.func108, Tryz.ntmps108
 go_wp2_with fail
 refine (lispO _ _).mono ?_
 rintro e w1 ⟨rfl, hb1⟩
 have hg := (hb1.block w.heap.size (by simp)).trans (heap_alloc_new w _)
 go_wp2_with fail
 refine (symO _ _ _ (fun _ => False)).mono ?_
 rintro e w2 ⟨p, rfl, hp, hb2⟩
 have h12 := hb1.size
 simp only [World.size_alloc] at h12
 have h23 := hb2.size
 replace hg := qh9 ((hb2.block w.heap.size (by omega)).trans hg)
 go_wp2_with (refine storeV (w1 := w2) rfl (.tmp 0) (.tmp 2) rfl w.heap.size _ _ rfl rfl hp _ _ hg.out rfl ?_)
 exact retV (o := .nil) rfl rfl hg.out hp (fun h => by
  rcases h with h | ⟨h, _⟩
  · exact h
  · omega) (fun b hb => by
  rcases hb with hb | ⟨h1, h2⟩
  · exact hb.elim
  · exact .inr ⟨by omega, h2⟩) (Nat.le_refl _) (((Below.alloc (Below.refl _ _) (Nat.le_refl _) _).trans (hb1.mono (by simp))).trans (hb2.mono (by omega)))
def blankB (c : UInt8) : Bool := c == 32 || c == 9 || c == 10 || c == 13
def conB (c : UInt8) : Bool := 32 < c && c ≤ 126 && !(c == 40 || c == 41 || c == 39 || c == 34 || c == 59 || c == 124 || c == 58)
def lineL : List UInt8 → List UInt8
 | [] => []
 | c :: l => if c = 10 then c :: l else lineL l
theorem lineL_le : ∀ l, (lineL l).length ≤ l.length
 | [] => Nat.le_refl _
 | c :: l => by
  unfold lineL
  split
  · exact Nat.le_refl _
  · have := lineL_le l; simp only [List.length_cons]; omega
def nestL : Nat → List UInt8 → Option (List UInt8)
 | 0, l => some l
 | _ + 1, [] => none
 | d + 1, c :: l =>
  match l with
  | [] => none
  | e :: l' => if c = 35 ∧ e = 124 then nestL (d + 2) l' else if c = 124 ∧ e = 35 then nestL d l' else nestL (d + 1) (e :: l')
theorem nestL_le : ∀ (l : List UInt8) (d : Nat) (r : List UInt8), nestL d l = some r → r.length ≤ l.length
 | l, 0, r, h => by simp [nestL] at h; rw [h]; exact Nat.le_refl _
 | [], d + 1, r, h => by simp [nestL] at h
 | [c], d + 1, r, h => by simp [nestL] at h
 | c :: e :: l', d + 1, r, h => by
  rw [nestL] at h
  split at h
  · have := nestL_le l' _ _ h; simp only [List.length_cons]; omega
  · split at h
    · have := nestL_le l' _ _ h; simp only [List.length_cons]; omega
    · have := nestL_le (e :: l') _ _ h; simp only [List.length_cons] at this ⊢; omega
def skipF : Nat → List UInt8 → Option (List UInt8)
 | _, [] => some []
 | 0, c :: l => some (c :: l)
 | n + 1, c :: l => if blankB c then skipF n l else if c = 59 then skipF n (lineL l) else
  match l with
  | [] => some [c]
  | e :: l' => if c = 35 ∧ e = 124 then (match nestL 1 l' with | none => none | some r => skipF n r) else some (c :: e :: l')
theorem skipF_more : ∀ (n : Nat) (l : List UInt8), l.length ≤ n → skipF n l = skipF l.length l
 | 0, [], _ => rfl
 | 0, c :: l, h => by simp at h
 | n + 1, [], _ => rfl
 | n + 1, c :: l, h => by
  have hl : l.length ≤ n := by simpa using h
  have k : ∀ r : List UInt8, r.length ≤ l.length → skipF n r = skipF l.length r := fun r hr => by
   rw [skipF_more n r (by omega)]
   by_cases h2 : l.length = n
   · rw [h2, skipF_more n r (by omega)]
   · exact (skipF_more l.length r hr).symm
  show skipF (n + 1) (c :: l) = skipF (l.length + 1) (c :: l)
  unfold skipF
  rw [k l (Nat.le_refl _), k (lineL l) (lineL_le l)]
  cases l with
  | nil => rfl
  | cons e l' =>
   cases hn : nestL 1 l' with
   | none => simp only [hn]
   | some r =>
    have := nestL_le _ _ _ hn
    simp only [hn]
    rw [k r (by simp only [List.length_cons]; omega)]
def skipL (l : List UInt8) : Option (List UInt8) := skipF l.length l
theorem skipL_nil : skipL [] = some [] := rfl
theorem skipL_cons (c : UInt8) (l : List UInt8) : skipL (c :: l) = if blankB c then skipL l else if c = 59 then skipL (lineL l) else
 match l with
 | [] => some [c]
 | e :: l' => if c = 35 ∧ e = 124 then (match nestL 1 l' with | none => none | some r => skipL r) else some (c :: e :: l') := by
 show skipF (l.length + 1) (c :: l) = _
 unfold skipF skipL
 rw [skipF_more l.length (lineL l) (lineL_le l)]
 cases l with
 | nil => rfl
 | cons e l' =>
  cases hn : nestL 1 l' with
  | none => simp only [hn]
  | some r =>
   have := nestL_le _ _ _ hn
   simp only [hn]
   rw [skipF_more (e :: l').length r (by simp only [List.length_cons]; omega)]
theorem skipF_le : ∀ (n : Nat) (l r : List UInt8), skipF n l = some r → r.length ≤ l.length
 | _, [], r, h => by simp [skipF] at h; simp [h]
 | 0, c :: l, r, h => by simp [skipF] at h; simp [← h]
 | n + 1, c :: l, r, h => by
  unfold skipF at h
  simp only [List.length_cons]
  split at h
  · have := skipF_le n _ _ h; omega
  · split at h
    · have := skipF_le n _ _ h; have := lineL_le l; omega
    · split at h
      · simp at h; simp [← h]
      · split at h
        · split at h
          · simp at h
          · rename_i hn; have := skipF_le n _ _ h; have := nestL_le _ _ _ hn; simp only [List.length_cons]; omega
        · simp at h; simp [← h]
theorem skipL_le {l r : List UInt8} (h : skipL l = some r) : r.length ≤ l.length := skipF_le _ _ _ h
inductive Sc (α : Type) where
 | ok (a : α) (r : List UInt8)
 | bad (e p : Int)
def posL (n : Nat) (l : List UInt8) : Int := (n : Int) - (l.length : Int)
def encL (n : Nat) (m : UInt8) : List UInt8 → List UInt8 → Sc (List UInt8)
 | _, [] => .bad 11 n
 | acc, c :: l => if c = m then .ok acc l else if c = 92 then
  (match l with
  | [] => .bad 11 n
  | d :: l' => if d = m ∨ d = 92 then encL n m (acc ++ [d]) l' else .bad 12 (posL n (c :: d :: l')))
  else encL n m (acc ++ [c]) l
theorem encL_le (n : Nat) (m : UInt8) : ∀ (l acc a r : List UInt8), encL n m acc l = .ok a r → r.length < l.length
 | [], acc, a, r, h => by simp [encL] at h
 | [c], acc, a, r, h => by
  rw [encL] at h
  split at h
  · simp at h; simp [← h.2]
  · split at h
    · simp at h
    · simp [encL] at h
 | c :: d :: l', acc, a, r, h => by
  rw [encL] at h
  simp only [List.length_cons]
  split at h
  · simp at h; simp [← h.2]
  · split at h
    · split at h
      · have := encL_le n m l' _ _ _ h; omega
      · simp at h
    · have := encL_le n m (d :: l') _ _ _ h; simp only [List.length_cons] at this; omega
structure Tk where
 k : Int
 p : Int
 pkg : List UInt8
 txt : List UInt8
 den : List UInt8
def wordL (l : List UInt8) : List UInt8 := l.takeWhile conB
def restL (l : List UInt8) : List UInt8 := l.dropWhile conB
def digU (c : UInt8) : Bool := 48 ≤ c && c ≤ 57
def isDigL (l : List UInt8) : Bool := !l.isEmpty && l.all digU
def decL (l : List UInt8) : List UInt8 := match l.dropWhile (· == 48) with
 | [] => [48]
 | r => r
def afterM (l : List UInt8) : List UInt8 := match l with
 | 45 :: r => r
 | _ => l
def isM (l : List UInt8) : Bool := match l with
 | 45 :: _ => true
 | _ => false
def cutL (l : List UInt8) : List UInt8 × List UInt8 := if l.contains 47 then (l.takeWhile (· != 47), (l.dropWhile (· != 47)).tail) else (l, [49])
def numL (w : List UInt8) : Option (Bool × List UInt8 × List UInt8) :=
 if isDigL (cutL (afterM w)).1 && isDigL (cutL (afterM w)).2 then some (isM w, (cutL (afterM w)).1, (cutL (afterM w)).2) else none

section
variable (ok : List UInt8 → Bool) (num : Bool → List UInt8 → List UInt8 → List UInt8 × List UInt8) (size : List UInt8 → Nat)
def symT (p : Int) (pkg name r : List UInt8) : Sc Tk :=
 if 40 < name.length then .bad 2 p else if name = [] then .bad 3 p else if pkg ≠ [] ∧ ok pkg = false then .bad 3 p else .ok ⟨6, p, pkg, name, []⟩ r
def numT (p : Int) (b : Bool) (x y r : List UInt8) : Sc Tk :=
 if decL y = [48] then .bad 12 p else if 100 < size (num b (decL x) (decL y)).1 ∨ 100 < size (num b (decL x) (decL y)).2 then .bad 2 p else .ok ⟨5, p, [], (num b (decL x) (decL y)).1, (num b (decL x) (decL y)).2⟩ r
def nameL (n : Nat) : List UInt8 → Sc (List UInt8)
 | [] => .bad 11 n
 | c :: l => if c = 124 then encL n 124 [] l else if conB c then .ok (wordL (c :: l)) (restL (c :: l)) else .bad 12 (posL n (c :: l))
def wordT (n : Nat) (l : List UInt8) : Sc Tk :=
 match restL l with
 | 58 :: 58 :: r' => (match nameL n r' with | .bad e p => .bad e p | .ok b r => symT ok (posL n l) (wordL l) b r)
 | r => if wordL l = [46] then .ok ⟨3, posL n l, [], [], []⟩ r else
  match numL (wordL l) with
  | some (b, x, y) => numT num size (posL n l) b x y r
  | none => symT ok (posL n l) [] (wordL l) r
def oneL (n : Nat) (c : UInt8) (l : List UInt8) : Sc Tk :=
 if c = 40 then .ok ⟨1, posL n (c :: l), [], [], []⟩ l else if c = 41 then .ok ⟨2, posL n (c :: l), [], [], []⟩ l else if c = 39 then .ok ⟨4, posL n (c :: l), [], [], []⟩ l else
 if c = 34 then (match encL n 34 [] l with | .bad e p => .bad e p | .ok b r => if 200 < b.length then .bad 2 (posL n (c :: l)) else .ok ⟨7, posL n (c :: l), [], b, []⟩ r) else
 if c = 124 then (match encL n 124 [] l with | .bad e p => .bad e p | .ok b r => symT ok (posL n (c :: l)) [] b r) else
 if conB c then wordT ok num size n (c :: l) else .bad 12 (posL n (c :: l))
def toksF (n : Nat) : Nat → List UInt8 → Except (Int × Int) (List Tk)
 | 0, _ => .error (0, 0)
 | f + 1, l => match skipL l with
  | none => .error (11, n)
  | some [] => .ok [⟨0, n, [], [], []⟩]
  | some (c :: l') => match oneL ok num size n c l' with
   | .bad e p => .error (e, p)
   | .ok t r => match toksF n f r with
    | .ok ts => .ok (t :: ts)
    | .error e => .error e
def toksL (n : Nat) (l : List UInt8) : Except (Int × Int) (List Tk) := toksF ok num size n (l.length + 1) l
theorem symT_r {p : Int} {pkg name r : List UInt8} {t : Tk} {r' : List UInt8} (h : symT ok p pkg name r = .ok t r') : r' = r := by
 unfold symT at h
 repeat' split at h
 all_goals simp at h
 exact h.2.symm
theorem numT_r {p : Int} {b : Bool} {x y r : List UInt8} {t : Tk} {r' : List UInt8} (h : numT num size p b x y r = .ok t r') : r' = r := by
 unfold numT at h
 repeat' split at h
 all_goals simp at h
 exact h.2.symm
theorem restL_lt {c : UInt8} {l : List UInt8} (h : conB c = true) : (restL (c :: l)).length ≤ l.length := by
 unfold restL
 rw [List.dropWhile_cons, if_pos h]
 exact (List.dropWhile_sublist _).length_le
theorem nameL_le {n : Nat} {l a r : List UInt8} (h : nameL n l = .ok a r) : r.length ≤ l.length := by
 cases l with
 | nil => simp [nameL] at h
 | cons c l =>
  rw [nameL] at h
  simp only [List.length_cons]
  split at h
  · have := encL_le _ _ _ _ _ _ h; omega
  · split at h
    · rename_i hc
      simp at h
      have := restL_lt (l := l) hc
      rw [← h.2]; omega
    · simp at h
theorem oneL_le {n : Nat} {c : UInt8} {l : List UInt8} {t : Tk} {r : List UInt8} (h : oneL ok num size n c l = .ok t r) : r.length ≤ l.length := by
 unfold oneL at h
 split at h
 · simp at h; rw [h.2]; exact Nat.le_refl _
 split at h
 · simp at h; rw [h.2]; exact Nat.le_refl _
 split at h
 · simp at h; rw [h.2]; exact Nat.le_refl _
 split at h
 · split at h
   · simp at h
   · rename_i he
     have := encL_le _ _ _ _ _ _ he
     split at h
     · simp at h
     · simp at h; rw [← h.2]; omega
 split at h
 · split at h
   · simp at h
   · rename_i he
     have := encL_le _ _ _ _ _ _ he
     rw [symT_r ok h]; omega
 split at h
 · rename_i hc
   have hr := restL_lt (l := l) hc
   unfold wordT at h
   split at h
   · rename_i r' hw
     rw [hw] at hr
     simp only [List.length_cons] at hr
     split at h
     · simp at h
     · rename_i hn
       have := nameL_le hn
       rw [symT_r ok h]; omega
   · split at h
     · simp at h; rw [← h.2]; exact hr
     · split at h
       · rw [numT_r num size h]; exact hr
       · rw [symT_r ok h]; exact hr
 · simp at h
theorem toksF_more (n : Nat) : ∀ (f : Nat) (l : List UInt8), l.length < f → toksF ok num size n f l = toksL ok num size n l
 | 0, l, h => absurd h (by omega)
 | f + 1, l, h => by
  unfold toksL
  rw [toksF, toksF]
  split
  · rfl
  · rfl
  · rename_i c l' hs
    have h1 := skipL_le hs
    simp only [List.length_cons] at h1
    split
    · rfl
    · rename_i t r ho
      have h2 := oneL_le _ _ _ ho
      rw [toksF_more n f r (by omega)]
      by_cases h3 : l.length < f
      · rw [toksF_more n l.length r (by omega)]
      · have : l.length = f := by omega
        rw [this, toksF_more n f r (by omega)]
theorem toksL_eq (n : Nat) (l : List UInt8) : toksL ok num size n l = match skipL l with
 | none => .error (11, (n : Int))
 | some [] => .ok [⟨0, n, [], [], []⟩]
 | some (c :: l') => match oneL ok num size n c l' with
  | .bad e p => .error (e, p)
  | .ok t r => match toksL ok num size n r with
   | .ok ts => .ok (t :: ts)
   | .error e => .error e := by
 show toksF ok num size n (l.length + 1) l = _
 rw [toksF]
 split
 · rfl
 · rfl
 · rename_i c l' hs
   have h1 := skipL_le hs
   simp only [List.length_cons] at h1
   split
   · rfl
   · rename_i t r ho
     have h2 := oneL_le _ _ _ ho
     rw [toksF_more ok num size n l.length r (by omega)]
end
/-- The bytes with a backslash before each mark and each backslash. -/
def escB (m : UInt8) : List UInt8 → List UInt8
 | [] => []
 | c :: l => if c = m ∨ c = 92 then 92 :: c :: escB m l else c :: escB m l
def escL (m : UInt8) (l : List UInt8) : List UInt8 := m :: (escB m l ++ [m])
def simpleL (l : List UInt8) : Bool := !l.isEmpty && l.all conB
/-- The word of a name. -/
def wordS (name : List UInt8) (qual : Bool) : List UInt8 := if simpleL name && (qual || !(name == [46] || (numL name).isSome)) then name else escL 124 name
/-- The first token is a symbol with this text. -/
def headSym (r : Except (Int × Int) (List Tk)) (name : List UInt8) : Bool := match r with
 | .ok (t :: _) => decide (t.k = 6) && (t.txt == name)
 | _ => false
theorem encL_len (n : Nat) (m : UInt8) : ∀ (l acc a r : List UInt8), encL n m acc l = .ok a r → a.length + r.length + 1 ≤ acc.length + l.length
 | [], acc, a, r, h => by simp [encL] at h
 | [c], acc, a, r, h => by
  rw [encL] at h
  split at h
  · simp at h; obtain ⟨rfl, rfl⟩ := h; simp only [List.length_nil, List.length_cons]; omega
  · split at h
    · simp at h
    · simp [encL] at h
 | c :: d :: l', acc, a, r, h => by
  rw [encL] at h
  simp only [List.length_cons]
  split at h
  · simp at h; rw [← h.1, ← h.2]; simp only [List.length_cons]; omega
  · split at h
    · split at h
      · have := encL_len n m l' _ _ _ h; simp only [List.length_append, List.length_cons, List.length_nil] at this; omega
      · simp at h
    · have := encL_len n m (d :: l') _ _ _ h; simp only [List.length_append, List.length_cons, List.length_nil] at this; omega
theorem con_neU {c : UInt8} (h : conB c = true) : blankB c = false ∧ c ≠ 59 ∧ c ≠ 40 ∧ c ≠ 41 ∧ c ≠ 39 ∧ c ≠ 34 ∧ c ≠ 124 ∧ c ≠ 58 := by
 unfold conB at h
 simp only [Bool.and_eq_true, decide_eq_true_eq, Bool.not_eq_true', Bool.or_eq_false_iff, beq_eq_false_iff_ne] at h
 obtain ⟨⟨h1, h2⟩, ⟨⟨⟨⟨⟨⟨h3, h4⟩, h5⟩, h6⟩, h7⟩, h8⟩, h9⟩⟩ := h
 refine ⟨?_, h7, h3, h4, h5, h6, h8, h9⟩
 unfold blankB
 simp only [Bool.or_eq_false_iff, beq_eq_false_iff_ne]
 have h1' : (32 : UInt8).toNat < c.toNat := h1
 have n32 : (32 : UInt8).toNat = 32 := rfl
 refine ⟨⟨⟨?_, ?_⟩, ?_⟩, ?_⟩ <;> (intro e; subst e; revert h1; decide)
/-- What begins with two constituents, or is one, is neither blank nor comment. -/
theorem skipL_con {c : UInt8} {l : List UInt8} (h : conB c = true) (hl : l.head? ≠ some 124) : skipL (c :: l) = some (c :: l) := by
 obtain ⟨hb, h59, _⟩ := con_neU h
 rw [skipL_cons, hb, if_neg (by decide), if_neg h59]
 cases l with
 | nil => rfl
 | cons e l' =>
  simp only
  rw [if_neg]
  rintro ⟨_, rfl⟩
  exact hl rfl
theorem wordL_allU {l : List UInt8} (h : l.all conB = true) : wordL l = l := by
 unfold wordL
 induction l with
 | nil => rfl
 | cons c l ih =>
  simp only [List.all_cons, Bool.and_eq_true] at h
  rw [List.takeWhile_cons, if_pos h.1, ih h.2]
theorem restL_all {l : List UInt8} (h : l.all conB = true) : restL l = [] := by
 unfold restL
 induction l with
 | nil => rfl
 | cons c l ih =>
  simp only [List.all_cons, Bool.and_eq_true] at h
  rw [List.dropWhile_cons, if_pos h.1, ih h.2]
theorem all_wordL (l : List UInt8) : (wordL l).all conB = true := by
 unfold wordL
 induction l with
 | nil => rfl
 | cons c l ih =>
  rw [List.takeWhile_cons]
  cases h : conB c
  · rw [if_neg (by decide)]; rfl
  · rw [if_pos rfl, List.all_cons, h, ih]; rfl
theorem wordL_len (l : List UInt8) : (wordL l).length ≤ l.length := (List.takeWhile_sublist _).length_le
theorem wordL_app {l m : List UInt8} (h : l.all conB = true) (hm : ∀ c r, m = c :: r → conB c = false) : wordL (l ++ m) = l ∧ restL (l ++ m) = m := by
 unfold wordL restL
 induction l with
 | nil =>
  cases m with
  | nil => exact ⟨rfl, rfl⟩
  | cons c r =>
   have := hm c r rfl
   rw [List.nil_append, List.takeWhile_cons, List.dropWhile_cons, this]
   exact ⟨rfl, rfl⟩
 | cons c l ih =>
  simp only [List.all_cons, Bool.and_eq_true] at h
  obtain ⟨i1, i2⟩ := ih h.2
  rw [List.cons_append, List.takeWhile_cons, List.dropWhile_cons, if_pos h.1, if_pos h.1, i1, i2]
  exact ⟨rfl, rfl⟩
section
variable (ok : List UInt8 → Bool) (num : Bool → List UInt8 → List UInt8 → List UInt8 × List UInt8) (size : List UInt8 → Nat)
theorem numT_kU {p : Int} {b : Bool} {x y r : List UInt8} {t : Tk} {r' : List UInt8} (h : numT num size p b x y r = .ok t r') : t.k = 5 := by
 unfold numT at h
 repeat' split at h
 all_goals simp at h
 rw [← h.1]
theorem symT_okU {p : Int} {pkg name r : List UInt8} {t : Tk} {r' : List UInt8} (h : symT ok p pkg name r = .ok t r') : t.k = 6 ∧ t.txt = name ∧ t.pkg = pkg := by
 unfold symT at h
 repeat' split at h
 all_goals simp at h
 rw [← h.1]
 exact ⟨rfl, rfl, rfl⟩
/-- A token that is a symbol with the text of the whole: the text has constituents only, and is no other token. -/
theorem oneL_sym {n : Nat} {c : UInt8} {l name : List UInt8} {t : Tk} {r : List UInt8} (hl : l.length + 1 ≤ name.length) (h : oneL ok num size n c l = .ok t r) (hk : t.k = 6) (ht : t.txt = name) :
 name.all conB = true ∧ name ≠ [46] ∧ numL name = none := by
 unfold oneL at h
 split at h
 · simp at h; rw [← h.1] at hk; simp at hk
 split at h
 · simp at h; rw [← h.1] at hk; simp at hk
 split at h
 · simp at h; rw [← h.1] at hk; simp at hk
 split at h
 · split at h
   · simp at h
   · split at h
     · simp at h
     · simp at h; rw [← h.1] at hk; simp at hk
 split at h
 · split at h
   · simp at h
   · rename_i he
     have h1 := encL_len _ _ _ _ _ _ he
     have h2 := (symT_okU ok h).2.1
     rw [ht] at h2
     rw [← h2] at h1
     simp only [List.length_nil] at h1
     omega
 split at h
 · rename_i hc
   unfold wordT at h
   split at h
   · rename_i r' hw
     have hr := restL_lt (l := l) hc
     rw [hw] at hr
     simp only [List.length_cons] at hr
     split at h
     · simp at h
     · rename_i b' r'' hn
       have h2 := (symT_okU ok h).2.1
       rw [ht] at h2
       have h3 : b'.length ≤ r'.length := by
        cases r' with
        | nil => simp [nameL] at hn
        | cons d r3 =>
         rw [nameL] at hn
         split at hn
         · have := encL_len _ _ _ _ _ _ hn
           simp only [List.length_nil, List.length_cons] at this ⊢
           omega
         · split at hn
           · simp at hn; rw [← hn.1]; exact wordL_len _
           · simp at hn
       rw [← h2] at h3
       omega
   · split at h
     · simp at h; rw [← h.1] at hk; simp at hk
     · rename_i h46
       split at h
       · have := numT_kU num size h
         omega
       · rename_i hnum
         have h2 := (symT_okU ok h).2.1
         rw [ht] at h2
         rw [h2]
         exact ⟨all_wordL _, h46, hnum⟩
 · simp at h
theorem headSym_ok {R : Except (Int × Int) (List Tk)} {name : List UInt8} (h : headSym R name = true) : ∃ t ts, R = .ok (t :: ts) ∧ t.k = 6 ∧ t.txt = name := by
 unfold headSym at h
 split at h
 · rename_i t ts
   simp only [Bool.and_eq_true, decide_eq_true_eq, beq_iff_eq] at h
   exact ⟨t, ts, rfl, h.1, h.2⟩
 · cases h
theorem head_of_all {l : List UInt8} (h : l.all conB = true) : l.head? ≠ some 124 := by
 cases l with
 | nil => intro e; cases e
 | cons c l =>
  simp only [List.all_cons, Bool.and_eq_true] at h
  intro e
  injection e with e
  exact (con_neU h.1).2.2.2.2.2.2.1 e
/-- The program's isWord without a prefix. -/
theorem isWord_plain (n : Nat) (name : List UInt8) (h1 : name ≠ []) (h2 : name.length ≤ 40) :
 headSym (toksL ok num size n name) name = (simpleL name && !(name == [46] || (numL name).isSome)) := by
 have hs : simpleL name = name.all conB := by
  unfold simpleL
  cases name with
  | nil => exact absurd rfl h1
  | cons c l => rfl
 rw [hs]
 cases hA : (name.all conB && !(name == [46] || (numL name).isSome))
 · cases hH : headSym (toksL ok num size n name) name
   · rfl
   · exfalso
     obtain ⟨t, ts, hR, hk, htx⟩ := headSym_ok hH
     rw [toksL_eq] at hR
     cases hsk : skipL name with
     | none => rw [hsk] at hR; simp at hR
     | some r =>
      rw [hsk] at hR
      cases r with
      | nil => simp at hR; rw [← hR.1] at hk; simp at hk
      | cons c l =>
       have hlen := skipL_le hsk
       simp only [List.length_cons] at hlen
       simp only at hR
       cases ho : oneL ok num size n c l with
       | bad e p => rw [ho] at hR; simp at hR
       | ok t' r' =>
        rw [ho] at hR
        simp only at hR
        cases hts : toksL ok num size n r' with
        | error e => rw [hts] at hR; simp at hR
        | ok ts' =>
         rw [hts] at hR
         simp at hR
         rw [← hR.1] at hk htx
         obtain ⟨a1, a2, a3⟩ := oneL_sym ok num size hlen ho hk htx
         rw [a1, a3] at hA
         simp [a2] at hA
 · simp only [Bool.and_eq_true, Bool.not_eq_true', Bool.or_eq_false_iff, beq_eq_false_iff_ne, Option.isSome_eq_false_iff, Option.isNone_iff_eq_none] at hA
   obtain ⟨a1, a2, a3⟩ := hA
   cases name with
   | nil => exact absurd rfl h1
   | cons c l =>
    have a1' := a1
    simp only [List.all_cons, Bool.and_eq_true] at a1'
    obtain ⟨_, _, b3, b4, b5, b6, b7, b8⟩ := con_neU a1'.1
    rw [toksL_eq, skipL_con a1'.1 (head_of_all a1'.2)]
    simp only
    unfold oneL
    rw [if_neg b3, if_neg b4, if_neg b5, if_neg b6, if_neg b7, if_pos a1'.1]
    unfold wordT
    rw [restL_all a1, wordL_allU a1]
    simp only [a2, if_false, a3]
    unfold symT
    rw [if_neg (by omega), if_neg (by simp), if_neg (by simp)]
    simp only
    rw [toksL_eq, skipL_nil]
    simp [headSym]
/-- The program's isWord behind the name of a package and two colons. -/
theorem isWord_qual (n : Nat) (pkg name : List UInt8) (hp : pkg ≠ []) (hc : pkg.all conB = true) (hok : ok pkg = true) (h1 : name ≠ []) (h2 : name.length ≤ 40) :
 headSym (toksL ok num size n (pkg ++ 58 :: 58 :: name)) name = simpleL name := by
 have hs : simpleL name = name.all conB := by
  unfold simpleL
  cases name with
  | nil => exact absurd rfl h1
  | cons c l => rfl
 rw [hs]
 cases hpk : pkg with
 | nil => exact absurd hpk hp
 | cons c l =>
  rw [hpk] at hc hok
  have hc' := hc
  simp only [List.all_cons, Bool.and_eq_true] at hc'
  obtain ⟨_, _, b3, b4, b5, b6, b7, b8⟩ := con_neU hc'.1
  have hhd : (l ++ 58 :: 58 :: name).head? ≠ some 124 := by
   cases l with
   | nil => intro e; injection e with e; revert e; decide
   | cons d l' => exact head_of_all (l := d :: l') hc'.2
  obtain ⟨w1, w2⟩ := wordL_app (m := 58 :: 58 :: name) hc (fun c r e => by injection e with e _; subst e; rfl)
  rw [List.cons_append, toksL_eq, skipL_con hc'.1 hhd]
  simp only
  unfold oneL
  rw [if_neg b3, if_neg b4, if_neg b5, if_neg b6, if_neg b7, if_pos hc'.1]
  unfold wordT
  rw [List.cons_append] at w1 w2
  rw [w1, w2]
  simp only
  cases hn : nameL n name with
  | bad e p =>
   simp only [headSym]
   cases ha : name.all conB
   · rfl
   · exfalso
     cases name with
     | nil => exact absurd rfl h1
     | cons d m =>
      simp only [List.all_cons, Bool.and_eq_true] at ha
      rw [nameL, if_neg (con_neU ha.1).2.2.2.2.2.2.1, if_pos ha.1] at hn
      simp at hn
  | ok b r =>
   simp only
   cases ha : name.all conB
   · cases hH : headSym _ name
     · rfl
     · exfalso
       obtain ⟨t, ts, hR, hk, htx⟩ := headSym_ok hH
       cases hsy : symT ok (posL n (c :: (l ++ 58 :: 58 :: name))) (c :: l) b r with
       | bad e p => rw [hsy] at hR; simp at hR
       | ok t' r' =>
        rw [hsy] at hR
        simp only at hR
        cases hts : toksL ok num size n r' with
        | error e => rw [hts] at hR; simp at hR
        | ok ts' =>
         rw [hts] at hR
         simp at hR
         rw [← hR.1] at htx
         have hb := (symT_okU ok hsy).2.1
         rw [htx] at hb
         cases name with
         | nil => exact absurd rfl h1
         | cons d m =>
          rw [nameL] at hn
          split at hn
          · have := encL_len _ _ _ _ _ _ hn
            rw [← hb] at this
            simp only [List.length_nil, List.length_cons] at this
            omega
          · split at hn
            · simp at hn
              have := all_wordL (d :: m)
              rw [hn.1, ← hb, ha] at this
              cases this
            · simp at hn
   · cases name with
     | nil => exact absurd rfl h1
     | cons d m =>
      have ha' := ha
      simp only [List.all_cons, Bool.and_eq_true] at ha'
      rw [nameL, if_neg (con_neU ha'.1).2.2.2.2.2.2.1, if_pos ha'.1, wordL_allU ha, restL_all ha] at hn
      simp at hn
      rw [← hn.1, hn.2]
      unfold symT
      rw [if_neg (by omega), if_neg (by simp), if_neg (by simp [hok])]
      simp only
      rw [toksL_eq, skipL_nil]
      simp [headSym]
end
inductive Pr where
 | ok (o : Ob) (r : List Tk)
 | bad (e p : Int)
 | out
def quoteO : Ob := .sym lispB [113, 117, 111, 116, 101]
def consL (acc : List Ob) (o : Ob) : Ob := acc.foldr .cons o
section
variable (sym : Tk → (List UInt8 × List UInt8) × Int) (num : Tk → Rat)
mutual
def parF : Nat → Int → List Tk → Pr
 | 0, _, _ => .out
 | _ + 1, _, [] => .out
 | f + 1, d, t :: ts =>
  if t.k = 0 then .bad 11 t.p else if t.k = 5 then .ok (.num (num t)) ts else
  if t.k = 6 then (if (sym t).2 = 0 then .ok (.sym (sym t).1.1 (sym t).1.2) ts else .bad (sym t).2 t.p) else
  if t.k = 7 then .ok (.str t.txt) ts else if t.k = 2 ∨ t.k = 3 then .bad 12 t.p else
  if 200 < d then .bad 2 t.p else
  if t.k = 4 then (match parF f (d + 1) ts with
   | .ok o r => .ok (.cons quoteO (.cons o .nil)) r
   | x => x) else lisF f (d + 1) [] ts
def lisF : Nat → Int → List Ob → List Tk → Pr
 | 0, _, _, _ => .out
 | _ + 1, _, _, [] => .out
 | f + 1, d, acc, t :: ts =>
  if t.k = 2 then .ok (consL acc .nil) ts else
  if t.k = 3 ∧ acc ≠ [] then (match parF f d ts with
   | .ok _ [] => .out
   | .ok o (u :: r) => if u.k = 2 then .ok (consL acc o) r else if u.k = 0 then .bad 11 u.p else .bad 12 u.p
   | x => x)
  else (match parF f d (t :: ts) with
   | .ok o r => lisF f d (acc ++ [o]) r
   | x => x)
end
def allF : Nat → List (Ob × Int) → List Tk → Except (Int × Int) (List (Ob × Int)) × Bool
 | 0, _, _ => (.error (0, 0), false)
 | _ + 1, _, [] => (.error (0, 0), false)
 | f + 1, acc, t :: ts =>
  if t.k = 0 then (.ok acc, true) else
  if acc.length = 100 ∧ t.k ≠ 2 ∧ t.k ≠ 3 then (.error (2, t.p), true) else
  match parF sym num (2 * (ts.length + 1) + 2) 0 (t :: ts) with
  | .out => (.error (0, 0), false)
  | .bad e p => (.error (e, p), true)
  | .ok o r => if 3000 < o.nodes then (.error (2, t.p), true) else allF f (acc ++ [(o, t.p)]) r
end
end Go.Proofs.YtlocnkobancjmaaGreatDoor
