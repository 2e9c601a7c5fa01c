import Derived.Test.YtinjhnnpbejccaaGreatDoorAl
import Derived.Test.YtinjhnnpbejccaaGreatDoorG9
import Derived.Test.YtinjhnnpbejccaaGreatDoorG10
import Derived.Lib.Bytealg
import Derived.Lib.ItoaNum
import Derived.Test.YtinjhnnpbejccaaGreatDoorG7
import Derived.Test.YtinjhnnpbejccaaGreatDoorG8
import Derived.Lib.SlicesS
import Derived.KernelRfl
import Derived.StillTailTactics
namespace Go.Proofs.YtinjhnnpbejccaaGreatDoor
open Go Go.RowKit
set_option linter.unusedVariables false
set_option maxHeartbeats 32000000
set_option maxRecDepth 100000
def zval (b : Bool) (n : Nat) : Int := if b then -(n : Int) else n
theorem val_eq (l : List UInt8) : val l = zval (neg l) (mag l) := rfl
theorem zval_mul (b b' : Bool) (n m : Nat) : zval (b != b') (n * m) = zval b n * zval b' m := by
 unfold zval
 cases b <;> cases b' <;> simp [Int.neg_mul, Int.mul_neg]
def RetS (w : World) (x : Int) (e : Ending) (w' : World) : Prop := e = .returned (.string (BA (text x))) ∧ Below w.heap.size w w'

theorem magLen (s : ByteArray) : (digs (mag (LA s))).length ≤ s.size + 1 := by
 have h := digs_length_le (mag_lt (LA s))
 rw [LA_length] at h
 omega
theorem mag_bd (s : ByteArray) : mag (LA s) < 10 ^ (s.size + 1) :=
 Nat.lt_of_lt_of_le (lt_pow_digs _) (Nat.pow_le_pow_right (by decide) (magLen s))
theorem text_any (b : Bool) (A : Option Addr) (n c : Nat) (w : World) (h9 : (digs n).length ≤ 1000000000) (h : Reads w w.heap.size .u8 A (digs n)) :
 Calls Tryz.prog 201 #[.agg #[.bool b, .slice A (digs n).length c]] w (RetS w (zval b n)) := by
 have e : text (zval b n) = signText b n := (signText_eq b n).symm
 unfold RetS
 rw [e]
 by_cases hn : n = 0
 · subst hn; exact text_zero b A c w
 · exact text_pos b A n _ c w rfl hn h9 h

theorem fld1 (b v : Value) (w : World) : (Instr.field 221 (.agg #[b, v]) 1).run Tryz.prog w = .ok v w := by kernel_rfl

theorem gcd_any (s t : ByteArray) (w : World) (hs : s.size ≤ 400000000) (ht : t.size ≤ 400000000) :
 Calls Tryz.prog 185 #[.string s, .string t] w (RetS w (Nat.gcd (mag (LA s)) (mag (LA t)) : Nat)) := by
 have hl := magLen s
 have hl2 := magLen t
 have hfld := fld1
 go_enter Tryz.func185, Tryz.ntmps185
 go_wp2_with fail
 refine (parse_any s _ (by omega)).mono ?_
 rintro e w1 ⟨A1, c1, rfl, hc1, hR1, hb1⟩
 go_wp2_with fail
 refine (parse_any t _ (by omega)).mono ?_
 rintro e w2 ⟨A2, c2, rfl, hc2, hR2, hb2⟩
 replace hR1 := (hR1.below hb2).more hb2.size
 go_wp2_with fail
 refine (gcdNat_any A1 A2 _ _ _ _ c1 c2 _ rfl rfl hR1 hR2 hc1 hc2 (by omega) (by omega)).mono ?_
 rintro e w3 ⟨A3, c3, rfl, hc3, hR3, hb3⟩
 have hz : (digs (Nat.gcd (mag (LA s)) (mag (LA t)))).length ≤ max (digs (mag (LA s))).length (digs (mag (LA t))).length := by
  by_cases h0 : mag (LA s) = 0
  · rw [h0, Nat.gcd_zero_left]; omega
  · have := digs_length_mono (Nat.gcd_le_left (n := mag (LA t)) (Nat.pos_of_ne_zero h0)); omega
 have h12 := hb1.size
 have h23 := hb2.size
 have h34 := hb3.size
 go_wp2_with fail
 refine (text_any false A3 _ c3 _ (by omega) hR3).mono ?_
 rintro e w4 ⟨rfl, hb4⟩
 go_wp2
 go_ret
 exact ⟨rfl, ((hb1.trans (hb2.mono (by omega))).trans (hb3.mono (by omega))).trans (hb4.mono (by omega))⟩
theorem toDigs_cons (c : UInt8) (l : List UInt8) : toDigs (c :: l) = toDigs l ++ [c.toNat - 48] := by
 unfold toDigs; simp
theorem ofD_toDigs_cons (c : UInt8) (l : List UInt8) : ofD (toDigs (c :: l)) = ofD (toDigs l) + 10 ^ l.length * (c.toNat - 48) := by
 rw [toDigs_cons, ofD_append, toDigs_length]
 simp [ofD]
theorem ofD_toDigs_lt {l : List UInt8} (h : l.all isDig = true) : ofD (toDigs l) < 10 ^ l.length := by
 have := ofD_lt (allDig_toDigs h)
 rwa [toDigs_length] at this

theorem compare_digits : ∀ (x y : List UInt8), x.all isDig = true → y.all isDig = true → x.length = y.length → Lib.compareBytes x y = ordN (ofD (toDigs x)) (ofD (toDigs y))
 | [], [], _, _, _ => by simp [Lib.compareBytes, ordN, toDigs]
 | [], _ :: _, _, _, h => by simp at h
 | _ :: _, [], _, _, h => by simp at h
 | c :: x, d :: y, hx, hy, h => by
  rw [List.all_cons, Bool.and_eq_true] at hx hy
  have hl : x.length = y.length := by simpa using h
  have ih := compare_digits x y hx.2 hy.2 hl
  have hxl := ofD_toDigs_lt hx.2
  have hyl := ofD_toDigs_lt hy.2
  have hc := (isDig_iff c).1 hx.1
  have hd := (isDig_iff d).1 hy.1
  rw [ofD_toDigs_cons, ofD_toDigs_cons, Lib.compareBytes]
  rw [← hl] at hyl ⊢
  by_cases h1 : c < d
  · rw [if_pos h1]
    have h2 : c.toNat < d.toNat := h1
    have h3 := Nat.mul_le_mul_left (10 ^ x.length) (show c.toNat - 48 + 1 ≤ d.toNat - 48 by omega)
    rw [Nat.mul_add, Nat.mul_one] at h3
    rw [ordN_lt (by omega)]
  · rw [if_neg h1]
    by_cases h2 : d < c
    · rw [if_pos h2]
      have h2' : d.toNat < c.toNat := h2
      have h3 := Nat.mul_le_mul_left (10 ^ x.length) (show d.toNat - 48 + 1 ≤ c.toNat - 48 by omega)
      rw [Nat.mul_add, Nat.mul_one] at h3
      rw [ordN_gt (by omega)]
    · rw [if_neg h2, ih]
      have h1' : ¬ c.toNat < d.toNat := h1
      have h2' : ¬ d.toNat < c.toNat := h2
      have e : c.toNat = d.toNat := by omega
      rw [e]
      generalize 10 ^ x.length * (d.toNat - 48) = k
      rcases Nat.lt_trichotomy (ofD (toDigs x)) (ofD (toDigs y)) with g | g | g
      · rw [ordN_lt g, ordN_lt (by omega)]
      · rw [ordN_eq g, ordN_eq (by omega)]
      · rw [ordN_gt g, ordN_gt (by omega)]

theorem body_len (l : List UInt8) : (body l).length = if mag l = 0 then 1 else (digs (mag l)).length := by
 rw [← magText_mag l]
 unfold magText
 split
 · rfl
 · rw [List.length_reverse, List.length_map]
theorem mag_lt_of_len {l l' : List UInt8} (h : (body l).length < (body l').length) : mag l < mag l' := by
 rw [body_len, body_len] at h
 by_cases h0 : mag l = 0
 · rw [if_pos h0] at h
   by_cases h1 : mag l' = 0
   · rw [if_pos h1] at h; omega
   · omega
 · rw [if_neg h0] at h
   by_cases h1 : mag l' = 0
   · rw [if_pos h1] at h
     have := List.length_pos_iff.2 (digs_ne_nil h0)
     omega
   · rw [if_neg h1] at h
     exact lt_of_digs_length_lt h
theorem compare_bodies {l l' : List UInt8} (h : (body l).length = (body l').length) : Lib.compareBytes (body l) (body l') = ordN (mag l) (mag l') :=
 compare_digits _ _ (body_all l) (body_all l') h

theorem decDigits_eq (n : Nat) : Lib.decDigits n = magText n := by
 induction n using Nat.strongRecOn with
 | ind n ih =>
  rw [Lib.decDigits]
  by_cases h : n < 10
  · rw [dif_pos h]
    unfold magText
    by_cases h0 : n = 0
    · subst h0; rfl
    · rw [if_neg h0, digs_pos h0, Nat.div_eq_of_lt h, digs_zero, Nat.mod_eq_of_lt h]
      unfold byteOf
      rw [Nat.add_comm]
      rfl
  · rw [dif_neg h, ih (n / 10) (by omega)]
    unfold magText
    rw [if_neg (by omega), if_neg (by omega)]
    rw [digs_pos (n := n) (by omega), List.map_cons, List.reverse_cons]
    unfold byteOf
    rw [Nat.add_comm (n % 10)]
theorem itoa_eq (n : Int) : Lib.itoa n = text n := by
 unfold Lib.itoa text signText
 rw [decDigits_eq, decDigits_eq]
 by_cases h : n < 0
 · have : (n.natAbs != 0) = true := by rw [bne_iff_ne]; omega
   simp [h, this]
 · simp [h]
   congr 1
   omega
theorem ordI_lt {a b : Int} (h : a < b) : ordI a b = -1 := if_pos h
theorem ordI_gt {a b : Int} (h : b < a) : ordI a b = 1 := by unfold ordI; rw [if_neg (by omega), if_pos h]
theorem ordI_eq {a b : Int} (h : a = b) : ordI a b = 0 := by unfold ordI; rw [if_neg (by omega), if_neg (by omega)]
theorem ord_tf {n m : Nat} (hn : n ≠ 0) : ordI (zval true n) (zval false m) = -1 := ordI_lt (by unfold zval; simp; omega)
theorem ord_ft {n m : Nat} (hm : m ≠ 0) : ordI (zval false n) (zval true m) = 1 := ordI_gt (by unfold zval; simp; omega)
theorem ord_ff (n m : Nat) : ordI (zval false n) (zval false m) = ordN n m := by
 rcases Nat.lt_trichotomy n m with g | g | g
 · rw [ordN_lt g, ordI_lt (by unfold zval; simpa using g)]
 · rw [ordN_eq g, ordI_eq (by rw [g])]
 · rw [ordN_gt g, ordI_gt (by unfold zval; simpa using g)]
theorem ord_tt (n m : Nat) : ordI (zval true n) (zval true m) = ordN m n := by
 rcases Nat.lt_trichotomy m n with g | g | g
 · rw [ordN_lt g, ordI_lt (by unfold zval; simp; omega)]
 · rw [ordN_eq g, ordI_eq (by rw [g])]
 · rw [ordN_gt g, ordI_gt (by unfold zval; simp; omega)]
theorem neg_mag {l : List UInt8} (h : neg l = true) : mag l ≠ 0 := by
 intro h0
 have h1 := text_val (l := l) (by unfold neg at h; rw [Bool.and_eq_true] at h; exact h.1)
 unfold val at h1
 rw [h0, h] at h1
 rw [← h1] at h
 exact absurd h (by decide)
structure Two (w W : World) (u v u' v' : Value) : Prop where
 b0 : BoxIs W w.heap.size u v
 b1 : BoxIs W (w.heap.size + 1) u' v'
 bel : Below w.heap.size w W
 size : W.heap.size = w.heap.size + 2
theorem Two.new (w : World) (u v u' v' : Value) : Two w ((w.alloc (.cells #[u, v] 221)).alloc (.cells #[u', v'] 221)) u v u' v' := by
 have s1 : (w.alloc (.cells #[u, v] 221)).heap.size = w.heap.size + 1 := by simp
 refine ⟨(BoxIs.new w u v).alloc _, ?_, ((Below.refl _ _).alloc (Nat.le_refl _) _).alloc (by simp) _, by simp⟩
 have h := BoxIs.new (w.alloc (.cells #[u, v] 221)) u' v'
 rw [s1] at h
 exact h
theorem Two.below {w W W' : World} {u v u' v' : Value} (h : Two w W u v u' v') (hb : Below W.heap.size W W') :
 BoxIs W' w.heap.size u v ∧ BoxIs W' (w.heap.size + 1) u' v' ∧ Below w.heap.size w W' := by
 have := h.size
 exact ⟨h.b0.below hb (by omega), h.b1.below hb (by omega), h.bel.trans (hb.mono (by omega))⟩

theorem mul_digits {n m k l : Nat} (hn : n < 10 ^ k) (hm : m < 10 ^ l) : (digs (n * m)).length ≤ k + l := by
 apply digs_length_le
 rw [Nat.pow_add]
 exact Nat.mul_lt_mul'' hn hm

theorem multiply_any (s t : ByteArray) (w : World) (hs : s.size ≤ 400000000) (ht : t.size ≤ 400000000) :
 Calls Tryz.prog 193 #[.string s, .string t] w (RetS w (val (LA s) * val (LA t))) := by
 have hl := magLen s
 have hl2 := magLen t
 have hml := mul_digits (mag_bd s) (mag_bd t)
 have hval := qh9 (zval_mul (neg (LA s)) (neg (LA t)) (mag (LA s)) (mag (LA t)))
 go_enter Tryz.func193, Tryz.ntmps193
 go_wp2_with fail
 refine (parse_any s _ (by omega)).mono ?_
 rintro e w1 ⟨A1, c1, rfl, hc1, hR1, hb1⟩
 go_wp2_with fail
 refine (parse_any t _ (by omega)).mono ?_
 rintro e w2 ⟨A2, c2, rfl, hc2, hR2, hb2⟩
 replace hR1 := (hR1.below hb2).more hb2.size
 go_wp2
 have hT := Two.new w2 (.bool (neg (LA s))) (.slice A1 (digs (mag (LA s))).length c1) (.bool (neg (LA t))) (.slice A2 (digs (mag (LA t))).length c2)
 generalize (w2.alloc (.cells #[.bool (neg (LA s)), .slice A1 (digs (mag (LA s))).length c1] 221)).alloc (.cells #[.bool (neg (LA t)), .slice A2 (digs (mag (LA t))).length c2] 221) = W at hT ⊢
 have hr : Reads W.drew W.drew.heap.size .u8 A1 (digs (mag (LA s))) := ((hR1.below hT.bel).more (by have := hT.size; omega) : Reads W W.heap.size .u8 A1 (digs (mag (LA s))))
 have hr' : Reads W.drew W.drew.heap.size .u8 A2 (digs (mag (LA t))) := ((hR2.below hT.bel).more (by have := hT.size; omega) : Reads W W.heap.size .u8 A2 (digs (mag (LA t))))
 have e0 := hT.b0.cell0
 have e1 := hT.b0.cell1
 have e2 := hT.b1.cell0
 have e3 := hT.b1.cell1
 clear hR1 hR2
 go_region_held3 (fun W' => W'.cell? ⟨w2.heap.size, 0, none⟩ = some (.bool (neg (LA s))) ∧ W'.cell? ⟨w2.heap.size, 1, none⟩ = some (.slice A1 (digs (mag (LA s))).length c1) ∧ W'.cell? ⟨w2.heap.size + 1, 0, none⟩ = some (.bool (neg (LA t))) ∧ W'.cell? ⟨w2.heap.size + 1, 1, none⟩ = some (.slice A2 (digs (mag (LA t))).length c2)) (go_keep)
  (first | (go_at_call 204; refine (mulNat_any A1 A2 _ _ _ _ c1 c2 _ rfl rfl hr hr' (by omega) (by omega)).mono ?_; rintro e w3 ⟨A3, c3, rfl, hc3, hR3, hb3⟩; obtain ⟨k0, k1, k2⟩ := hT.below ((Below.refl _ W).drew.trans hb3); have j0 := k0.cell0; have j1 := k0.cell1; have j2 := k1.cell0; have j3 := k1.cell1) | (go_at_call 201; refine (text_any _ A3 _ c3 _ (by omega) hR3).mono ?_; rintro e w4 ⟨rfl, hb4⟩; obtain ⟨m0, m1, m2⟩ := hT.below (((Below.refl _ W).drew.trans hb3).trans (hb4.mono (by have := hb3.size; simpa using this))); have i0 := m0.cell0; have i1 := m0.cell1; have i2 := m1.cell0; have i3 := m1.cell1))
 go_wp2
 go_ret
 exact ⟨by rw [val_eq, val_eq, ← hval.out]; rfl, (hb1.trans (hb2.mono hb1.size)).trans (m2.mono (Nat.le_trans hb1.size hb2.size))⟩
def RetSS (w : World) (x y : Int) (e : Ending) (w' : World) : Prop := e = .returned (.tuple #[.string (BA (text x)), .string (BA (text y))]) ∧ Below w.heap.size w w'
theorem textRL (b : Bool) (A : Option Addr) (zs : List Nat) (c : Nat) (w : World) (hd : AllDig zs) (h : Reads w w.heap.size .i64 A zs) (hc : zs.length ≤ c) (h9 : zs.length ≤ 1000000000) :
 Calls Tryz.prog 132 #[.bool b, .slice A zs.length c] w (RetS w (zval b (ofD zs))) := by
 unfold RetS
 rw [show text (zval b (ofD zs)) = signText b (ofD zs) from (signText_eq b _).symm]
 exact textR b A zs c w hd h hc h9
theorem textRD (b : Bool) (A : Option Addr) (n c : Nat) (w : World) (h : Reads w w.heap.size .i64 A (digs n)) (hc : (digs n).length ≤ c) (h9 : (digs n).length ≤ 1000000000) :
 Calls Tryz.prog 132 #[.bool b, .slice A (digs n).length c] w (RetS w (zval b n)) := by
 have h1 := textRL b A (digs n) c w (allDig_digs n) h hc h9
 rwa [ofD_digs] at h1
theorem len_pos_of {n : Nat} (h : n ≠ 0) : 0 < (digs n).length := List.length_pos_iff.2 (digs_ne_nil h)
def GcdR (G x k : Nat) (A A' : Option Addr) (B : Nat) (w wr : World) : Prop :=
 Nat.gcd x k = G ∧ Reads wr wr.heap.size .i64 A (digs x) ∧ Reads wr wr.heap.size .i64 A' (digs k) ∧ Below B w wr

theorem gcdR (s t : ByteArray) (w : World) (hs : s.size ≤ 400000000) (ht : t.size ≤ 400000000) :
 Calls Tryz.prog 130 #[.string s, .string t] w (RetS w (Nat.gcd (mag (LA s)) (mag (LA t)) : Nat)) := by
 have hl := magLen s
 have hl2 := magLen t
 go_enter Tryz.func130, Tryz.ntmps130
 go_wp2_with fail
 refine (digitsR s _ (by omega)).mono ?_
 rintro e w1 ⟨A1, c1, rfl, hc1, hR1, hb1⟩
 go_wp2_with fail
 refine (digitsR t _ (by omega)).mono ?_
 rintro e w2 ⟨A2, c2, rfl, hc2, hR2, hb2⟩
 replace hR1 := (hR1.below hb2).more hb2.size
 have h12 := hb1.size
 have h23 := hb2.size
 have h0 : Hid (GcdR (Nat.gcd (mag (LA s)) (mag (LA t))) (mag (LA s)) (mag (LA t)) A1 A2 w2.heap.size w2 w2) := ⟨rfl, hR1, hR2, Below.refl _ _⟩
 clear hR1 hR2
 go_wp2
 go_loopg [6, 8] (mag (LA t)) (fun k u v wr => ∃ (x : Nat) (A A' : Option Addr) (c c' : Nat), u = .slice A (digs x).length c ∧ v = .slice A' (digs k).length c' ∧ (digs x).length ≤ c ∧ (digs k).length ≤ c' ∧ (digs x).length ≤ 1000000000 ∧ (digs k).length ≤ 1000000000 ∧ Hid (GcdR (Nat.gcd (mag (LA s)) (mag (LA t))) x k A A' w2.heap.size w2 wr))
 case atStart => exact ⟨mag (LA s), A1, A2, c1, c2, rfl, rfl, hc1, hc2, by omega, by omega, h0⟩
 case round =>
  clear h0
  obtain ⟨x, A, A', c, d, rfl, rfl, hc, hd, h9, h9', h0⟩ := hrel
  obtain ⟨hg, h, h', hbel⟩ := h0.out
  clear h0
  by_cases hk : gk = 0
  · subst hk
    rw [Nat.gcd_zero_right] at hg
    have hx : Hid (x = Nat.gcd (mag (LA s)) (mag (LA t))) := hg
    clear hg
    have h24 := hbel.size
    go_wp2_with fail
    refine (textRD false A x c _ h hc h9).mono ?_
    rintro e w4 ⟨rfl, hb4⟩
    rw [hx.out]
    go_wp2
    go_ret
    exact ⟨rfl, ((hb1.trans (hb2.mono (by omega))).trans (hbel.mono (by omega))).trans (hb4.mono (by omega))⟩
  · have hp := len_pos_of hk
    have hlt : x % gk < gk := Nat.mod_lt _ (by omega)
    have hl3 : (digs (x % gk)).length ≤ (digs gk).length := digs_length_mono (by omega)
    have hg2 : Hid (Nat.gcd gk (x % gk) = Nat.gcd (mag (LA s)) (mag (LA t))) := by
     show _ = _
     rw [← hg, Nat.gcd_comm x gk, Nat.gcd_rec gk x, Nat.gcd_comm]
    clear hg
    go_wp2_with fail
    refine (overR A A' x gk _ _ c d _ rfl rfl h h' h9 h9' hk).mono ?_
    rintro e w3 ⟨A3, c3, A4, c4, rfl, hc3, hc4, hR3, hR4, hb3⟩
    have hn : Hid (GcdR (Nat.gcd (mag (LA s)) (mag (LA t))) gk (x % gk) A' A4 w2.heap.size w2 w3) := ⟨hg2.out, (h'.below hb3).more hb3.size, hR4, hbel.trans (hb3.mono hbel.size)⟩
    clear hR3 hR4 h h' hbel hb3
    go_wp2
    go_roundg (x % gk)
    case measure => omega
    case rel => exact ⟨gk, A', A4, d, c4, rfl, rfl, hd, hc4, h9', by omega, hn⟩
theorem gcd_len (n m : Nat) (hm : m ≠ 0) : (digs (Nat.gcd n m)).length ≤ (digs m).length := digs_length_mono (Nat.gcd_le_right n (Nat.pos_of_ne_zero hm))
theorem mag_BA (x : Int) : mag (LA (BA (text x))) = x.natAbs := by rw [LA_BA, ← val_natAbs, val_text]
theorem len_BA {x : Int} {k : Nat} (h : x.natAbs < 10 ^ k) : (BA (text x)).size ≤ k + 2 := by rw [BA_size]; exact text_length h

theorem reduceR_zero (s t : ByteArray) (w : World) (hs : s.size ≤ 300000000) (ht : t.size ≤ 300000000) (h0 : mag (LA t) = 0) :
 Calls Tryz.prog 97 #[.string s, .string t] w (RetSS w 0 1) := by
 have hz : (((digs (mag (LA t))).length : Int) == 0) = true := by rw [h0]; rfl
 replace h0 := qh9 h0
 go_enter Tryz.func97, Tryz.ntmps97
 go_wp2_with fail
 refine (digitsR t _ (by omega)).mono ?_
 rintro e w2 ⟨A2, c2, rfl, hc2, hR2, hb2⟩
 go_wp2
 go_ret2
 exact ⟨rfl, hb2⟩

theorem reduceR_pos (s t : ByteArray) (w : World) (hs : s.size ≤ 300000000) (ht : t.size ≤ 300000000) (h0 : mag (LA t) ≠ 0) :
 Calls Tryz.prog 97 #[.string s, .string t] w (RetSS w (zval (neg (LA s) != neg (LA t)) (mag (LA s) / Nat.gcd (mag (LA s)) (mag (LA t)))) (zval false (mag (LA t) / Nat.gcd (mag (LA s)) (mag (LA t))))) := by
 have hl := magLen s
 have hl2 := magLen t
 have hp := len_pos_of h0
 have hz : (((digs (mag (LA t))).length : Int) == 0) = false := by rw [beq_eq_false_iff_ne]; omega
 have hg0 : Nat.gcd (mag (LA s)) (mag (LA t)) ≠ 0 := fun h => h0 (Nat.gcd_eq_zero_iff.1 h).2
 have hgl := gcd_len (mag (LA s)) (mag (LA t)) h0
 have hgs : (BA (text ((Nat.gcd (mag (LA s)) (mag (LA t)) : Nat) : Int))).size ≤ 400000000 := by
  have h1 := len_BA (x := ((Nat.gcd (mag (LA s)) (mag (LA t)) : Nat) : Int)) (k := t.size + 1) (by
   rw [Int.natAbs_natCast]
   exact Nat.lt_of_le_of_lt (Nat.gcd_le_right _ (Nat.pos_of_ne_zero h0)) (mag_bd t))
  omega
 have hgm : Hid (mag (LA (BA (text ((Nat.gcd (mag (LA s)) (mag (LA t)) : Nat) : Int)))) = Nat.gcd (mag (LA s)) (mag (LA t))) := by show _ = _; rw [mag_BA, Int.natAbs_natCast]
 have hl3 : (digs (mag (LA s) / Nat.gcd (mag (LA s)) (mag (LA t)))).length ≤ (digs (mag (LA s))).length := digs_length_mono (Nat.div_le_self _ _)
 have hl4 : (digs (mag (LA t) / Nat.gcd (mag (LA s)) (mag (LA t)))).length ≤ (digs (mag (LA t))).length := digs_length_mono (Nat.div_le_self _ _)
 obtain ⟨x, hx⟩ : ∃ x, BA (text ((Nat.gcd (mag (LA s)) (mag (LA t)) : Nat) : Int)) = x := ⟨_, rfl⟩
 rw [hx] at hgs hgm
 have HX := qh9 hx
 clear hx
 go_enter Tryz.func97, Tryz.ntmps97
 go_wp2_with fail
 refine (digitsR t _ (by omega)).mono ?_
 rintro e w1 ⟨A2, c2, rfl, hc2, hR2, hb1⟩
 have h12 := hb1.size
 go_wp2_with fail
 refine (digitsR s _ (by omega)).mono ?_
 rintro e w2 ⟨A1, c1, rfl, hc1, hR1, hb2⟩
 have h23 := hb2.size
 replace hR2 := (hR2.below hb2).more hb2.size
 go_wp2_with fail
 refine (gcdR s t _ (by omega) (by omega)).mono ?_
 rintro e w3 ⟨rfl, hb3⟩
 have h34 := hb3.size
 replace hR2 := (hR2.below hb3).more hb3.size
 replace hR1 := (hR1.below hb3).more hb3.size
 rw [HX.out]
 go_wp2_with fail
 refine (digitsR x _ (by omega)).mono ?_
 rintro e w4 ⟨A3, c3, rfl, hc3, hR3, hb4⟩
 have h45 := hb4.size
 replace hR2 := (hR2.below hb4).more hb4.size
 replace hR1 := (hR1.below hb4).more hb4.size
 rw [hgm.out] at hc3 hR3 ⊢
 go_wp2_with fail
 refine (overR A1 A3 _ _ _ _ c1 c3 _ rfl rfl hR1 hR3 (by omega) (by omega) hg0).mono ?_
 rintro e w5 ⟨A4, c4, A5, c5, rfl, hc4, hc5, hR4, hR5, hb5⟩
 have h56 := hb5.size
 replace hR2 := (hR2.below hb5).more hb5.size
 replace hR3 := (hR3.below hb5).more hb5.size
 clear hR5 hR1
 go_wp2_with fail
 refine (overR A2 A3 _ _ _ _ c2 c3 _ rfl rfl hR2 hR3 (by omega) (by omega) hg0).mono ?_
 rintro e w6 ⟨A6, c6, A7, c7, rfl, hc6, hc7, hR6, hR7, hb6⟩
 have h67 := hb6.size
 replace hR4 := (hR4.below hb6).more hb6.size
 clear hR7 hR2 hR3
 go_wp2_with fail
 refine (textRD (neg (LA s) != neg (LA t)) A4 _ c4 _ hR4 hc4 (by omega)).mono ?_
 rintro e w7 ⟨rfl, hb7⟩
 have h78 := hb7.size
 replace hR6 := (hR6.below hb7).more hb7.size
 go_wp2_with fail
 refine (textRD false A6 _ c6 _ hR6 hc6 (by omega)).mono ?_
 rintro e w8 ⟨rfl, hb8⟩
 go_wp2
 go_ret2
 exact ⟨rfl, (((((((hb1.trans (hb2.mono (by omega))).trans (hb3.mono (by omega))).trans (hb4.mono (by omega))).trans (hb5.mono (by omega))).trans (hb6.mono (by omega))).trans (hb7.mono (by omega))).trans (hb8.mono (by omega)))⟩
def quo (l m : List UInt8) : Rat := Rat.divInt (val l) (val m)

theorem sign_val_eq (l : List UInt8) (h : mag l ≠ 0) : (val l).sign = if neg l then -1 else 1 := by
 unfold val
 cases neg l
 · simp only [Bool.false_eq_true, if_false]; exact Int.sign_eq_one_of_pos (by omega)
 · simp only [if_true]; exact Int.sign_eq_neg_one_of_neg (by omega)

theorem zval_div (b : Bool) (n g : Nat) (hg : g ∣ n) : zval b (n / g) = zval b n / (g : Int) := by
 unfold zval
 cases b
 · simp
 · simp only [if_true]
   rw [Int.neg_ediv_of_dvd (by exact_mod_cast hg)]
   simp

theorem red_num {l m : List UInt8} (h : mag m ≠ 0) : zval (neg l != neg m) (mag l / Nat.gcd (mag l) (mag m)) = (quo l m).num := by
 unfold quo
 rw [Rat.num_divInt, sign_val_eq m h, zval_div _ _ _ (Nat.gcd_dvd_left _ _)]
 unfold Int.gcd
 rw [val_natAbs, val_natAbs, Nat.gcd_comm (mag m)]
 rw [val_eq l]
 congr 1
 unfold zval
 cases neg l <;> cases neg m <;> simp

theorem red_den {l m : List UInt8} (h : mag m ≠ 0) : zval false (mag m / Nat.gcd (mag l) (mag m)) = ((quo l m).den : Int) := by
 unfold quo
 have h0 : val m ≠ 0 := by rw [← Int.natAbs_ne_zero, val_natAbs]; exact h
 rw [Rat.den_divInt, if_neg h0]
 unfold Int.gcd
 rw [val_natAbs, val_natAbs, Nat.gcd_comm (mag m)]
 unfold zval
 simp

theorem quo_zero {l m : List UInt8} (h : mag m = 0) : quo l m = 0 := by
 unfold quo
 have h0 : val m = 0 := by rw [← Int.natAbs_eq_zero, val_natAbs]; exact h
 rw [h0, Rat.divInt_zero]
def RetQ (w : World) (q : Rat) (e : Ending) (w' : World) : Prop := RetSS w q.num (q.den : Int) e w'

theorem reduceR_q (s t : ByteArray) (w : World) (hs : s.size ≤ 300000000) (ht : t.size ≤ 300000000) :
 Calls Tryz.prog 97 #[.string s, .string t] w (RetQ w (quo (LA s) (LA t))) := by
 unfold RetQ
 by_cases h0 : mag (LA t) = 0
 · rw [quo_zero h0]
   exact reduceR_zero s t w hs ht h0
 · rw [← red_num h0, ← red_den h0]
   exact reduceR_pos s t w hs ht h0
def nt (q : Rat) : ByteArray := BA (text q.num)
def dt (q : Rat) : ByteArray := BA (text (q.den : Int))
theorem val_nt (q : Rat) : val (LA (nt q)) = q.num := by unfold nt; rw [LA_BA, val_text]
theorem val_dt (q : Rat) : val (LA (dt q)) = (q.den : Int) := by unfold dt; rw [LA_BA, val_text]
theorem quo_text (n d : Int) : quo (LA (BA (text n))) (LA (BA (text d))) = Rat.divInt n d := by
 unfold quo; rw [LA_BA, LA_BA, val_text, val_text]
theorem quo_self (q : Rat) : quo (LA (nt q)) (LA (dt q)) = q := by
 unfold quo; rw [val_nt, val_dt]; exact Rat.num_divInt_den q
theorem q_ext {p q : Rat} (hn : nt p = nt q) (hd : dt p = dt q) : p = q := by
 rw [← quo_self p, hn, hd, quo_self]
theorem q_beq (p q : Rat) : ((nt p).toList == (nt q).toList && (dt p).toList == (dt q).toList) = decide (p = q) := by
 by_cases h : p = q
 · subst h; simp
 · rw [decide_eq_false h]
   by_cases h1 : nt p = nt q
   · by_cases h2 : dt p = dt q
     · exact absurd (q_ext h1 h2) h
     · rw [(Lib.bytes_beq_false_iff _ _).2 h2, Bool.and_false]
   · rw [(Lib.bytes_beq_false_iff _ _).2 h1, Bool.false_and]

theorem q_int (n : Int) : Rat.divInt n 1 = (n : Rat) := by
 rw [show (1 : Int) = ((1 : Nat) : Int) from rfl, Rat.divInt_ofNat]
 exact Rat.mkRat_self (n : Rat)
def ordQ (x y : Rat) : Int := if x < y then -1 else if y < x then 1 else 0
theorem ordQ_eq (x y : Rat) : ordI (x.num * (y.den : Int)) (y.num * (x.den : Int)) = ordQ x y := by
 unfold ordI ordQ
 simp only [Rat.lt_iff]
theorem ordQ_zero (x y : Rat) : ordQ x y = 0 ↔ x = y := by
 unfold ordQ
 constructor
 · intro h
   by_cases h1 : x < y
   · rw [if_pos h1] at h; omega
   · rw [if_neg h1] at h
     by_cases h2 : y < x
     · rw [if_pos h2] at h; omega
     · exact Rat.le_antisymm (Rat.not_lt.1 h2) (Rat.not_lt.1 h1)
 · rintro rfl
   rw [if_neg Rat.lt_irrefl, if_neg Rat.lt_irrefl]
inductive Ob where
 | num (q : Rat)
 | str (s : List UInt8)
 | sym (p n : List UInt8)
 | cons (a d : Ob)
deriving DecidableEq
def ordB (a b : List UInt8) : Int := Lib.compareBytes a b

theorem ordB_zero : ∀ a b : List UInt8, ordB a b = 0 ↔ a = b
 | [], [] => by simp [ordB, Lib.compareBytes]
 | [], _ :: _ => by simp [ordB, Lib.compareBytes]
 | _ :: _, [] => by simp [ordB, Lib.compareBytes]
 | x :: a, y :: b => by
  have ih := ordB_zero a b
  unfold ordB at ih ⊢
  unfold Lib.compareBytes
  by_cases h : x < y
  · rw [if_pos h]
    constructor
    · intro e; omega
    · intro e; injection e with e1 e2; subst e1; exact absurd h (UInt8.lt_irrefl x)
  · rw [if_neg h]
    by_cases h2 : y < x
    · rw [if_pos h2]
      constructor
      · intro e; omega
      · intro e; injection e with e1 e2; subst e1; exact absurd h2 (UInt8.lt_irrefl x)
    · rw [if_neg h2, ih]
      have e : x = y := UInt8.le_antisymm (UInt8.not_lt.1 h2) (UInt8.not_lt.1 h)
      subst e
      simp
def next (c d : Int) : Int := if c = 0 then d else c

def ordS (p n p' n' : List UInt8) : Int := next (ordB n n') (ordB p p')

def Ob.rank : Ob → Int
 | .num _ => 1
 | .str _ => 2
 | .sym _ _ => 3
 | .cons _ _ => 4
def ordO : Ob → Ob → Int
 | .num x, .num y => ordQ x y
 | .str s, .str t => ordB s t
 | .sym p n, .sym p' n' => ordS p n p' n'
 | .cons a d, .cons a' d' => next (ordO a a') (ordO d d')
 | x, y => if x.rank < y.rank then -1 else 1

theorem next_zero {c d : Int} : next c d = 0 ↔ c = 0 ∧ d = 0 := by
 unfold next
 by_cases h : c = 0
 · rw [if_pos h]; simp [h]
 · rw [if_neg h]; simp [h]
structure Orders {α : Type} (f : α → α → Int) : Prop where
 anti : ∀ a b, f b a = - f a b
 zero : ∀ a b, f a b = 0 ↔ a = b
 trans : ∀ a b c, f a b ≤ 0 → f b c ≤ 0 → f a c ≤ 0
section
variable {α : Type} {f : α → α → Int}
end
theorem ordO_zero : ∀ a b : Ob, ordO a b = 0 ↔ a = b
 | .num x, .num y => by simp only [ordO, Ob.num.injEq]; exact ordQ_zero x y
 | .str s, .str t => by simp only [ordO, Ob.str.injEq]; exact ordB_zero s t
 | .sym p n, .sym p' n' => by simp only [ordO, ordS, next_zero, Ob.sym.injEq, ordB_zero]; exact And.comm
 | .cons a d, .cons a' d' => by simp only [ordO, next_zero, Ob.cons.injEq, ordO_zero a a', ordO_zero d d']
 | .num _, .str _ => by simp [ordO, Ob.rank]
 | .num _, .sym _ _ => by simp [ordO, Ob.rank]
 | .num _, .cons _ _ => by simp [ordO, Ob.rank]
 | .str _, .num _ => by simp [ordO, Ob.rank]
 | .str _, .sym _ _ => by simp [ordO, Ob.rank]
 | .str _, .cons _ _ => by simp [ordO, Ob.rank]
 | .sym _ _, .num _ => by simp [ordO, Ob.rank]
 | .sym _ _, .str _ => by simp [ordO, Ob.rank]
 | .sym _ _, .cons _ _ => by simp [ordO, Ob.rank]
 | .cons _ _, .num _ => by simp [ordO, Ob.rank]
 | .cons _ _, .str _ => by simp [ordO, Ob.rank]
 | .cons _ _, .sym _ _ => by simp [ordO, Ob.rank]
theorem ordO_less {a b : Ob} (h : a.rank < b.rank) : ordO a b = -1 := by
 cases a <;> cases b <;> simp [ordO, Ob.rank] at h ⊢
theorem ordO_more {a b : Ob} (h : b.rank < a.rank) : ordO a b = 1 := by
 cases a <;> cases b <;> simp [ordO, Ob.rank] at h ⊢
def Ob.nodes : Ob → Nat
 | .cons a d => 1 + a.nodes + d.nodes
 | _ => 1
theorem Ob.nodes_pos (a : Ob) : 1 ≤ a.nodes := by cases a <;> simp only [Ob.nodes] <;> omega
def lispB : List UInt8 := [108, 105, 115, 112]
def userB : List UInt8 := [117, 115, 101, 114]
def SyOk (p n : List UInt8) : Prop := (p = lispB ∨ p = userB) ∧ 1 ≤ n.length ∧ n.length ≤ 40
theorem nil_ok : SyOk lispB [110, 105, 108] := ⟨.inl rfl, by decide, by decide⟩
def Ob.nil : Ob := .sym lispB [110, 105, 108]
def Ob.t : Ob := .sym lispB [116]
def Ob.list (l : List Ob) : Ob := l.foldr .cons .nil
def Ob.items : Ob → Option (List Ob)
 | .cons a d => d.items.map (a :: ·)
 | x => if x = .nil then some [] else none
theorem Ob.items_list (l : List Ob) : (Ob.list l).items = some l := by
 induction l with
 | nil => rfl
 | cons a l ih =>
  show (Ob.items (.cons a (Ob.list l))) = _
  simp only [Ob.items, ih, Option.map_some]
def e0 : Value := .string ⟨#[]⟩
def cellsO : Ob → Value → List Value
 | .num q, p => [.int .i64 1, .string (nt q), .string (dt q), e0, e0, e0, p]
 | .str s, p => [.int .i64 3, e0, e0, e0, e0, .string (BA s), p]
 | .sym a n, p => [.int .i64 2, e0, e0, .string (BA a), .string (BA n), e0, p]
 | .cons _ _, p => [.int .i64 4, e0, e0, e0, e0, e0, p]
def vO (o : Ob) (p : Value) : Value := .agg (cellsO o p).toArray
theorem cellsO_length (o : Ob) (p : Value) : (cellsO o p).length = 7 := by cases o <;> rfl
def Plain (w : World) (b : Nat) : Prop := ∃ cs t, w.heap[b]? = some (.cells cs t (0, 0))
theorem Plain.keep {w w' : World} {b : Nat} (h : Plain w b) (hk : w'.heap[b]? = w.heap[b]?) : Plain w' b := by
 obtain ⟨cs, t, h⟩ := h; exact ⟨cs, t, hk.trans h⟩
def Pair (w : World) (S : Nat → Prop) : Ob → Value → Prop
 | .cons a d, p => ∃ b o c pa pd, p = .slice (some ⟨b, o, none⟩) 2 c ∧ 2 ≤ c ∧ (S b ∧ Plain w b) ∧
  (∀ j u, (cellsO a pa ++ cellsO d pd)[j]? = some u → w.cell? ⟨b, o + j, none⟩ = some u) ∧ Pair w S a pa ∧ Pair w S d pd
 | _, p => p = .slice none 0 0

theorem Pair.keep {w w' : World} {S S' : Nat → Prop} (hS : ∀ b, S b → S' b) (hk : ∀ b, S b → w'.heap[b]? = w.heap[b]?) : ∀ {o : Ob} {p : Value}, Pair w S o p → Pair w' S' o p
 | .num _, _, h => h
 | .str _, _, h => h
 | .sym _ _, _, h => h
 | .cons a d, p, ⟨b, o, c, pa, pd, h1, h2, h3, h4, h5, h6⟩ =>
  ⟨b, o, c, pa, pd, h1, h2, ⟨hS b h3.1, h3.2.keep (hk b h3.1)⟩, fun j u hj => (World.cell?_of_block (a := ⟨b, o + j, none⟩) (hk b h3.1)).trans (h4 j u hj), h5.keep hS hk, h6.keep hS hk⟩
theorem Pair.below {w w' : World} {S : Nat → Prop} {B : Nat} {o : Ob} {p : Value} (h : Pair w S o p) (hS : ∀ b, S b → b < B) (hb : Below B w w') : Pair w' S o p := h.keep (fun _ h => h) fun q hq => hb.block q (hS q hq)
theorem Pair.more {w : World} {S S' : Nat → Prop} {o : Ob} {p : Value} (h : Pair w S o p) (hS : ∀ b, S b → S' b) : Pair w S' o p := h.keep hS fun _ _ => rfl
theorem Pair.setRow {w : World} {S : Nat → Prop} {o : Ob} {p : Value} (h : Pair w S o p) (g : Nat) (hg : ¬ S g) (cs : Array Value) : Pair (w.setRow g cs) S o p :=
 h.keep (fun _ h => h) fun q hq => setRow_other w g q cs (fun e => hg (e ▸ hq))
def Upto (w w' : World) (S : Nat → Prop) (b : Nat) : Prop := S b ∨ (w.heap.size ≤ b ∧ b < w'.heap.size)
def In (S : Nat → Prop) (w : World) : Prop := ∀ b, S b → b < w.heap.size
theorem In.upto {S : Nat → Prop} {w w' : World} (h : In S w) (hs : w.heap.size ≤ w'.heap.size) : In (Upto w w' S) w' := fun b hb => by
 rcases hb with hb | ⟨_, hb⟩
 · exact Nat.lt_of_lt_of_le (h b hb) hs
 · exact hb
theorem In.later {S : Nat → Prop} {w w' : World} (h : In S w) (hs : w.heap.size ≤ w'.heap.size) : In S w' := fun b hb => Nat.lt_of_lt_of_le (h b hb) hs
def RetO (w : World) (S : Nat → Prop) (o : Ob) (e : Ending) (w' : World) : Prop := ∃ p, e = .returned (vO o p) ∧ Pair w' (Upto w w' S) o p ∧ Below w.heap.size w w'
theorem retO {fn : Func} {p : Tmp} {Q : Ending → World → Prop} {tmps : Array Value} {w : World} {g : Nat} {cs : Array Value} {t : TypeId} {fr : Nat × Nat}
 (h : fn.results = #[.cell p 33]) (hp : tmps.getD p undef = .pointer (some ⟨g, 0, none⟩)) (hg : w.heap[g]? = some (.cells cs t fr)) (hs : cs.size = 7)
 (hQ : Q (.returned (.agg cs)) w) : bodyPost Tryz.prog fn Q Exit.ret ⟨tmps, []⟩ w :=
 bodyPost_ret (results_cell_row h tmps w g t cs fr _ hp hg Tryz.underlying33 rfl (by rw [hs]; kernel_rfl)) rfl hQ
theorem storeO {ops : Array Oper} {rest : List Oper} {o : Oper} {a : Act} {w : World} {Q : Exit → Act → World → Prop} (hgd : o.guard = none) (x y : Operand) (ho : o.op = .store 33 x y)
 (g : Nat) (cells : Array Value) (hx : a.eval x = .pointer (some ⟨g, 0, none⟩)) (hy : a.eval y = .agg cells)
 (t : TypeId) (old : Array Value) (hg : w.heap[g]? = some (.cells old t (0, 0))) (hold : old.size = 7) (hc : cells.size = 7) (h1 : cells.all (·.oneCell') = true)
 (h : wpList Tryz.prog ops Q rest (a.put o.dst undef) (w.setRow g cells)) : wpList Tryz.prog ops Q (o :: rest) a w :=
 wpList_store_row hgd 33 x y ho g cells hx hy t old hg (by rw [hc]; kernel_rfl) (hold.trans hc.symm) h1 h
theorem below_setRowO {B g : Nat} {w0 w : World} (hb : Below B w0 w) (hBg : B ≤ g) (cs : Array Value) : Below B w0 (w.setRow g cs) :=
 ⟨hb.os, hb.tape, hb.output, by rw [size_setRow]; exact hb.size, fun k hk => (setRow_other w g k cs (by omega)).trans (hb.block k hk)⟩

theorem heap_new_at {w : World} {o : Obj} {g : Nat} (hg : g = w.heap.size) : (w.alloc o).heap[g]? = some o := by subst hg; exact heap_alloc_new w o
theorem Pair.one {w : World} {S : Nat → Prop} {o : Ob} {p : Value} (h : Pair w S o p) : (cellsO o p).toArray.all (·.oneCell') = true := by
 cases o with
 | cons a d => obtain ⟨b, o, c, pa, pd, rfl, _⟩ := h; simp [cellsO, Value.oneCell', e0]
 | num q => have e : p = .slice none 0 0 := h; subst e; simp [cellsO, Value.oneCell', e0]
 | str s => have e : p = .slice none 0 0 := h; subst e; simp [cellsO, Value.oneCell', e0]
 | sym a n => have e : p = .slice none 0 0 := h; subst e; simp [cellsO, Value.oneCell', e0]
theorem storeV {ops : Array Oper} {rest : List Oper} {o : Oper} {a : Act} {w w1 : World} {S : Nat → Prop} {Q : Exit → Act → World → Prop} (hgd : o.guard = none) (x y : Operand) (ho : o.op = .store 33 x y)
 (g : Nat) (b : Ob) (p : Value) (hx : a.eval x = .pointer (some ⟨g, 0, none⟩)) (hy : a.eval y = vO b p) (hp : Pair w1 S b p)
 (t : TypeId) (old : Array Value) (hg : w.heap[g]? = some (.cells old t (0, 0))) (hold : old.size = 7)
 (h : wpList Tryz.prog ops Q rest (a.put o.dst undef) (w.setRow g (cellsO b p).toArray)) : wpList Tryz.prog ops Q (o :: rest) a w :=
 storeO hgd x y ho g _ hx hy t old hg hold (by simp [cellsO_length]) hp.one h
theorem retV {fn : Func} {q : Tmp} {w0 : World} {S S' : Nat → Prop} {tmps : Array Value} {w : World} {g : Nat} {o : Ob} {p : Value} {t : TypeId} {old : Array Value} {fr : Nat × Nat}
 (h : fn.results = #[.cell q 33]) (hq : tmps.getD q undef = .pointer (some ⟨g, 0, none⟩)) (hg : w.heap[g]? = some (.cells old t fr))
 (hp : Pair w S' o p) (hn : ¬ S' g) (hS : ∀ b, S' b → Upto w0 w S b) (hlt : w0.heap.size ≤ g) (hb : Below w0.heap.size w0 w) :
 bodyPost Tryz.prog fn (RetO w0 S o) Exit.ret ⟨tmps, []⟩ (w.setRow g (cellsO o p).toArray) :=
 retO h hq (setRow_heap _ _ _ _ _ _ hg) (by simp [cellsO_length]) ⟨p, rfl, (hp.setRow g hn _).more (fun b hb => by
  have := hS b hb
  unfold Upto at this ⊢
  rwa [size_setRow]), below_setRowO hb hlt _⟩

theorem cells7 (o : Ob) (p : Value) : ∃ a0 a1 a2 a3 a4 a5, cellsO o p = [a0, a1, a2, a3, a4, a5, p] := by
 cases o <;> exact ⟨_, _, _, _, _, _, rfl⟩
theorem textO (s : ByteArray) (w : World) (S : Nat → Prop) : Calls Tryz.prog 64 #[.string s] w (RetO w S (.str (LA s))) := by
 obtain ⟨s, rfl⟩ : ∃ l, s = BA l := ⟨LA s, (BA_LA s).symm⟩
 go_enter Tryz.func64, Tryz.ntmps64
 go_wp2_with fail
 refine retO rfl rfl (heap_alloc_new w _) rfl ⟨.slice none 0 0, ?_, rfl, ?_⟩
 · rfl
 · exact Below.alloc (Below.refl _ _) (Nat.le_refl _) _
theorem symO (p n : ByteArray) (w : World) (S : Nat → Prop) : Calls Tryz.prog 62 #[.agg #[.string p, .string n]] w (RetO w S (.sym (LA p) (LA n))) := by
 obtain ⟨p, rfl⟩ : ∃ l, p = BA l := ⟨LA p, (BA_LA p).symm⟩
 obtain ⟨n, rfl⟩ : ∃ l, n = BA l := ⟨LA n, (BA_LA n).symm⟩
 go_enter Tryz.func62, Tryz.ntmps62
 go_wp2_with fail
 refine retO rfl rfl (heap_alloc2_new w _ _) rfl ⟨.slice none 0 0, ?_, rfl, ?_⟩
 · rfl
 · exact Below.alloc (Below.alloc (Below.refl _ _) (Nat.le_refl _) _) (by simp) _
theorem consRaw (a0 a1 a2 a3 a4 a5 a6 b0 b1 b2 b3 b4 b5 b6 : Value) (w : World) :
 Calls Tryz.prog 65 #[.agg #[a0, a1, a2, a3, a4, a5, a6], .agg #[b0, b1, b2, b3, b4, b5, b6]] w fun e w' =>
  ∃ g, e = .returned (.agg #[.int .i64 4, e0, e0, e0, e0, e0, .slice (some ⟨g, 0, none⟩) 2 2]) ∧ w.heap.size ≤ g ∧ g < w'.heap.size ∧
   w'.heap[g]? = some (.cells #[a0, a1, a2, a3, a4, a5, a6, b0, b1, b2, b3, b4, b5, b6] 33 (0, 0)) ∧ Below w.heap.size w w' := by
 go_enter Tryz.func65, Tryz.ntmps65
 go_wp2_with fail
 refine retO rfl rfl (g := w.heap.size + 1 + 1) (t := 33) (fr := (0, 0)) ?_ rfl ⟨w.heap.size + 1 + 1 + 1, rfl, by omega, ?_, ?_, ?_⟩
 · rw [Below.heap_alloc _ _ _ (by simp)]
   exact heap_new_at (by simp)
 · simp
 · exact heap_new_at (by simp)
 · exact Below.alloc (Below.alloc (Below.alloc (Below.alloc (Below.refl _ _) (Nat.le_refl _) _) (by simp) _) (by simp; omega) _) (by simp; omega) _
theorem consO (a d : Ob) (pa pd : Value) (w : World) (S : Nat → Prop) (hS : In S w) (ha : Pair w S a pa) (hd : Pair w S d pd) :
 Calls Tryz.prog 65 #[vO a pa, vO d pd] w (RetO w S (.cons a d)) := by
 obtain ⟨a0, a1, a2, a3, a4, a5, ea⟩ := cells7 a pa
 obtain ⟨b0, b1, b2, b3, b4, b5, eb⟩ := cells7 d pd
 unfold vO
 rw [ea, eb]
 refine (consRaw a0 a1 a2 a3 a4 a5 pa b0 b1 b2 b3 b4 b5 pd w).mono ?_
 rintro e w' ⟨g, rfl, hg0, hg, hh, hb⟩
 refine ⟨.slice (some ⟨g, 0, none⟩) 2 2, rfl, ⟨g, 0, 2, pa, pd, rfl, Nat.le_refl _, ⟨.inr ⟨hg0, hg⟩, _, _, hh⟩, ?_, (ha.below hS hb).more fun _ h => .inl h, (hd.below hS hb).more fun _ h => .inl h⟩, hb⟩
 intro j u hj
 rw [ea, eb] at hj
 rw [Nat.zero_add, cell_of_row w' g j _ _ _ hh, ← hj]
 simp
theorem ratO (s t : ByteArray) (w : World) (S : Nat → Prop) (hS : In S w) (hs : s.size ≤ 300000000) (ht : t.size ≤ 300000000) :
 Calls Tryz.prog 60 #[.string s, .string t] w (RetO w S (.num (quo (LA s) (LA t)))) := by
 go_enter Tryz.func60, Tryz.ntmps60
 go_wp2_with fail
 refine (reduceR_q s t _ hs ht).mono ?_
 rintro e w1 ⟨rfl, hb1⟩
 have hg := qh9 ((hb1.block w.heap.size (by simp)).trans (heap_alloc_new w _))
 go_wp2_with (refine storeV (w1 := w1) (S := fun _ => False) rfl (.tmp 4) (.tmp 15) rfl w.heap.size (.num (quo (LA s) (LA t))) (.slice none 0 0) rfl rfl rfl _ _ hg.out rfl ?_)
 exact retV (S' := fun _ => False) rfl rfl hg.out rfl (fun h => h) (fun _ h => h.elim) (Nat.le_refl _) ((Below.alloc (Below.refl _ _) (Nat.le_refl _) _).trans (hb1.mono (by simp)))
theorem lispO (s : ByteArray) (w : World) : Calls Tryz.prog 71 #[.string s] w fun e w' => e = .returned (.agg #[.string (BA lispB), .string s]) ∧ Below w.heap.size w w' := by
 go_enter Tryz.func71, Tryz.ntmps71
 go_wp2_with fail
 refine bodyPost_ret (results_cell_row rfl _ _ w.heap.size _ _ _ _ rfl (heap_alloc_new w _) Tryz.underlying23 rfl (by kernel_rfl)) rfl ⟨rfl, ?_⟩
 exact Below.alloc (Below.refl _ _) (Nat.le_refl _) _
theorem nilO (w : World) (S : Nat → Prop) : Calls Tryz.prog 99 #[] w (RetO w S .nil) := by
 go_enter Tryz.func99, Tryz.ntmps99
 go_wp2_with fail
 refine (lispO _ _).mono ?_
 rintro e w1 ⟨rfl, hb1⟩
 have hg := (hb1.block w.heap.size (by simp)).trans (heap_alloc_new w _)
 go_wp2_with fail
 refine (symO _ _ _ (fun _ => False)).mono ?_
 rintro e w2 ⟨p, rfl, hp, hb2⟩
 have h12 := hb1.size
 simp only [World.size_alloc] at h12
 have h23 := hb2.size
 replace hg := qh9 ((hb2.block w.heap.size (by omega)).trans hg)
 go_wp2_with (refine storeV (w1 := w2) rfl (.tmp 0) (.tmp 2) rfl w.heap.size _ _ rfl rfl hp _ _ hg.out rfl ?_)
 exact retV (o := .nil) rfl rfl hg.out hp (fun h => by
  rcases h with h | ⟨h, _⟩
  · exact h
  · omega) (fun b hb => by
  rcases hb with hb | ⟨h1, h2⟩
  · exact hb.elim
  · exact .inr ⟨by omega, h2⟩) (Nat.le_refl _) (((Below.alloc (Below.refl _ _) (Nat.le_refl _) _).trans (hb1.mono (by simp))).trans (hb2.mono (by omega)))
def EqW (w W wr : World) (r0 r1 : Bool) (k : Nat) : Prop := (0 < k → r0 = true) ∧ (1 < k → r1 = true) ∧ Below W.heap.size W wr

def EqPost (w : World) (r : Bool) (e : Ending) (w' : World) : Prop := e = .returned (.bool r) ∧ Below w.heap.size w w'

theorem equalCC (b o c b' o' c' : Nat) (w : World) (x0 x1 x2 x3 x4 x5 x6 y0 y1 y2 y3 y4 y5 y6 z0 z1 z2 z3 z4 z5 z6 t0 t1 t2 t3 t4 t5 t6 : Value) (r0 r1 : Bool)
 (hb : b < w.heap.size) (hb' : b' < w.heap.size) (hc : 2 ≤ c) (hc' : 2 ≤ c')
 (hx : ∀ j u, #[x0, x1, x2, x3, x4, x5, x6, y0, y1, y2, y3, y4, y5, y6][j]? = some u → w.cell? ⟨b, o + j, none⟩ = some u)
 (hz : ∀ j u, #[z0, z1, z2, z3, z4, z5, z6, t0, t1, t2, t3, t4, t5, t6][j]? = some u → w.cell? ⟨b', o' + j, none⟩ = some u)
 (ih0 : ∀ w', Below w.heap.size w w' → Calls Tryz.prog 53 #[.agg #[x0, x1, x2, x3, x4, x5, x6], .agg #[z0, z1, z2, z3, z4, z5, z6]] w' (EqPost w' r0))
 (ih1 : ∀ w', Below w.heap.size w w' → Calls Tryz.prog 53 #[.agg #[y0, y1, y2, y3, y4, y5, y6], .agg #[t0, t1, t2, t3, t4, t5, t6]] w' (EqPost w' r1)) :
 Calls Tryz.prog 53 #[.agg #[.int .i64 4, e0, e0, e0, e0, e0, .slice (some ⟨b, o, none⟩) 2 c], .agg #[.int .i64 4, e0, e0, e0, e0, e0, .slice (some ⟨b', o', none⟩) 2 c']] w (EqPost w (r0 && r1)) := by
 unfold e0
 have hX := qh9 hx
 have hZ := qh9 hz
 have I0 := qh9 ih0
 have I1 := qh9 ih1
 clear hx hz ih0 ih1
 go_enter Tryz.func53, Tryz.ntmps53
 go_wp2_with fail
 have c2 := qh9 (show ((w.alloc (Obj.cells #[Value.int IntKind.i64 4, Value.string { data := #[] }, Value.string { data := #[] }, Value.string { data := #[] }, Value.string { data := #[] }, Value.string { data := #[] }, Value.slice (some { block := b, off := o }) 2 c] 33)).alloc (Obj.cells #[Value.int IntKind.i64 4, Value.string { data := #[] }, Value.string { data := #[] }, Value.string { data := #[] }, Value.string { data := #[] }, Value.string { data := #[] }, Value.slice (some { block := b', off := o' }) 2 c'] 33)).cell? ⟨w.heap.size, 6, none⟩ = some (Value.slice (some { block := b, off := o }) 2 c) from by
  rw [cell_of_row _ _ _ _ _ _ (heap_alloc2_old w _ _)]; rfl)
 have c3 := qh9 (show ((w.alloc (Obj.cells #[Value.int IntKind.i64 4, Value.string { data := #[] }, Value.string { data := #[] }, Value.string { data := #[] }, Value.string { data := #[] }, Value.string { data := #[] }, Value.slice (some { block := b, off := o }) 2 c] 33)).alloc (Obj.cells #[Value.int IntKind.i64 4, Value.string { data := #[] }, Value.string { data := #[] }, Value.string { data := #[] }, Value.string { data := #[] }, Value.string { data := #[] }, Value.slice (some { block := b', off := o' }) 2 c'] 33)).cell? ⟨w.heap.size + 1, 6, none⟩ = some (Value.slice (some { block := b', off := o' }) 2 c') from by
  rw [cell_of_row _ _ _ _ _ _ (heap_alloc2_new w _ _)]; rfl)
 have hW := Below.alloc (Below.alloc (Below.refl w.heap.size w) (Nat.le_refl _) (Obj.cells #[Value.int IntKind.i64 4, Value.string { data := #[] }, Value.string { data := #[] }, Value.string { data := #[] }, Value.string { data := #[] }, Value.string { data := #[] }, Value.slice (some { block := b, off := o }) 2 c] 33)) (by simp) (Obj.cells #[Value.int IntKind.i64 4, Value.string { data := #[] }, Value.string { data := #[] }, Value.string { data := #[] }, Value.string { data := #[] }, Value.string { data := #[] }, Value.slice (some { block := b', off := o' }) 2 c'] 33)
 have hS : ((w.alloc (Obj.cells #[Value.int IntKind.i64 4, Value.string { data := #[] }, Value.string { data := #[] }, Value.string { data := #[] }, Value.string { data := #[] }, Value.string { data := #[] }, Value.slice (some { block := b, off := o }) 2 c] 33)).alloc (Obj.cells #[Value.int IntKind.i64 4, Value.string { data := #[] }, Value.string { data := #[] }, Value.string { data := #[] }, Value.string { data := #[] }, Value.string { data := #[] }, Value.slice (some { block := b', off := o' }) 2 c'] 33)).heap.size = w.heap.size + 2 := by simp
 generalize (w.alloc (Obj.cells #[Value.int IntKind.i64 4, Value.string { data := #[] }, Value.string { data := #[] }, Value.string { data := #[] }, Value.string { data := #[] }, Value.string { data := #[] }, Value.slice (some { block := b, off := o }) 2 c] 33)).alloc (Obj.cells #[Value.int IntKind.i64 4, Value.string { data := #[] }, Value.string { data := #[] }, Value.string { data := #[] }, Value.string { data := #[] }, Value.string { data := #[] }, Value.slice (some { block := b', off := o' }) 2 c'] 33) = W at c2 c3 hW hS ⊢
 have hS1 : w.heap.size + 2 ≤ W.heap.size := by omega
 clear hS
 go_loopw [5] (fun v wr => ∃ k : Nat, k ≤ 2 ∧ v = .int .i64 k ∧ Hid (EqW w W wr r0 r1 k)) (fun v _ => 2 - (intOf v).toNat)
 case atStart => exact ⟨0, by omega, rfl, ⟨fun h => by omega, fun h => by omega, Below.refl _ _⟩⟩
 case round =>
  obtain ⟨k, hk, rfl, hE⟩ := hrel
  obtain ⟨wo, rfl⟩ : ∃ wo : World, wo = wr := ⟨_, rfl⟩
  obtain ⟨g0, g1, hb1⟩ := hE.out
  clear hE
  have G0 := qh9 g0
  have G1 := qh9 g1
  clear g0 g1
  have d2 : wo.cell? ⟨w.heap.size, 6, none⟩ = some (Value.slice (some { block := b, off := o }) 2 c) := (hb1.cell (p := ⟨w.heap.size, 6, none⟩) (by show w.heap.size < _; omega)).trans c2.out
  have d3 : wo.cell? ⟨w.heap.size + 1, 6, none⟩ = some (Value.slice (some { block := b', off := o' }) 2 c') := (hb1.cell (p := ⟨w.heap.size + 1, 6, none⟩) (by show w.heap.size + 1 < _; omega)).trans c3.out
  have hbw : Below w.heap.size w wo := hW.trans (hb1.mono hW.size)
  have lx : ∀ j u, #[x0, x1, x2, x3, x4, x5, x6, y0, y1, y2, y3, y4, y5, y6][j]? = some u → wo.cell? ⟨b, o + j, none⟩ = some u := fun j u h => (hbw.cell (p := ⟨b, o + j, none⟩) hb).trans (hX.out j u h)
  have lz : ∀ j u, #[z0, z1, z2, z3, z4, z5, z6, t0, t1, t2, t3, t4, t5, t6][j]? = some u → wo.cell? ⟨b', o' + j, none⟩ = some u := fun j u h => (hbw.cell (p := ⟨b', o' + j, none⟩) hb').trans (hZ.out j u h)
  by_cases hk0 : k = 0
  · subst hk0
    have l0 := lx 0 _ rfl
    have l1 := lx 1 _ rfl
    have l2 := lx 2 _ rfl
    have l3 := lx 3 _ rfl
    have l4 := lx 4 _ rfl
    have l5 := lx 5 _ rfl
    have l6 := lx 6 _ rfl
    have m0 := lz 0 _ rfl
    have m1 := lz 1 _ rfl
    have m2 := lz 2 _ rfl
    have m3 := lz 3 _ rfl
    have m4 := lz 4 _ rfl
    have m5 := lz 5 _ rfl
    have m6 := lz 6 _ rfl
    rw [Nat.add_zero] at l0 m0
    clear lx lz
    go_wp2_with fail
    go_still_tail 10, (by kernel_rfl)
    change wpList _ _ _ _ _ wo.drew
    have hbd : Below w.heap.size w wo.drew := hbw.drew
    have hbd2 : Below W.heap.size W wo.drew := hb1.drew
    generalize wo.drew = wd at hbd hbd2 ⊢
    clear l0 l1 l2 l3 l4 l5 l6 m0 m1 m2 m3 m4 m5 m6 d2 d3 hbw hb1
    go_wp2_with fail
    refine (I0.out wd hbd).mono ?_
    rintro e w3 ⟨rfl, hb3⟩
    have hbe := qh9 (hbd.trans (hb3.mono hbd.size))
    have hbe2 := qh9 (hbd2.trans (hb3.mono hbd2.size))
    clear hb3 hbd hbd2
    cases r0
    · go_wp2
      go_ret
      exact ⟨by simp, hbe.out⟩
    · go_wp2
      go_roundw
      case rel => exact ⟨0 + 1, by omega, rfl, ⟨fun _ => rfl, fun h => by omega, hbe2.out⟩⟩
      case measure => simp [intOf]
  · by_cases hk1 : k = 1
    · subst hk1
      have q0 : r0 = true := G0.out (by omega)
      subst q0
      have l0 := lx 7 _ rfl
      have l1 := lx 8 _ rfl
      have l2 := lx 9 _ rfl
      have l3 := lx 10 _ rfl
      have l4 := lx 11 _ rfl
      have l5 := lx 12 _ rfl
      have l6 := lx 13 _ rfl
      have m0 := lz 7 _ rfl
      have m1 := lz 8 _ rfl
      have m2 := lz 9 _ rfl
      have m3 := lz 10 _ rfl
      have m4 := lz 11 _ rfl
      have m5 := lz 12 _ rfl
      have m6 := lz 13 _ rfl
      clear lx lz
      go_wp2_with fail
      go_still_tail 10, (by kernel_rfl)
      change wpList _ _ _ _ _ wo.drew
      have hbd : Below w.heap.size w wo.drew := hbw.drew
      have hbd2 : Below W.heap.size W wo.drew := hb1.drew
      generalize wo.drew = wd at hbd hbd2 ⊢
      clear l0 l1 l2 l3 l4 l5 l6 m0 m1 m2 m3 m4 m5 m6 d2 d3 hbw hb1
      go_wp2_with fail
      refine (I1.out wd hbd).mono ?_
      rintro e w3 ⟨rfl, hb3⟩
      have hbe := qh9 (hbd.trans (hb3.mono hbd.size))
      have hbe2 := qh9 (hbd2.trans (hb3.mono hbd2.size))
      clear hb3 hbd hbd2
      cases r1
      · go_wp2
        go_ret
        exact ⟨by simp, hbe.out⟩
      · go_wp2
        go_roundw
        case rel => exact ⟨1 + 1, by omega, rfl, ⟨fun _ => rfl, fun _ => rfl, hbe2.out⟩⟩
        case measure => simp [intOf]
    · have hk2 : k = 2 := by omega
      subst hk2
      have q0 : r0 = true := G0.out (by omega)
      have q1 : r1 = true := G1.out (by omega)
      subst q0 q1
      have hbx := qh9 hbw
      clear lx lz hb1 hbw
      go_wp2
      go_ret
      exact ⟨rfl, hbx.out⟩
def eqS (s1 s2 s3 s4 s5 t1 t2 t3 t4 t5 : ByteArray) : Bool := s1.toList == t1.toList && s2.toList == t2.toList && (s3.toList == t3.toList && s4.toList == t4.toList) && s5.toList == t5.toList

theorem eqKind (k k' : Int) (hk : k ≠ k') (x1 x2 x3 x4 x5 x6 y1 y2 y3 y4 y5 y6 : Value) (w : World) :
 Calls Tryz.prog 53 #[.agg #[.int .i64 k, x1, x2, x3, x4, x5, x6], .agg #[.int .i64 k', y1, y2, y3, y4, y5, y6]] w (EqPost w false) := by
 have h1 : (k == k') = false := by rw [beq_eq_false_iff_ne]; exact hk
 have h2 : (k != k') = true := by rw [bne_iff_ne]; exact hk
 clear hk
 go_enter Tryz.func53, Tryz.ntmps53
 go_wp2_with fail
 all_goals go_ret
 all_goals exact ⟨rfl, Below.alloc (Below.alloc (Below.refl _ _) (Nat.le_refl _) _) (by simp) _⟩

theorem eqFlat (k : Int) (s1 s2 s3 s4 s5 t1 t2 t3 t4 t5 : ByteArray) (w : World) :
 Calls Tryz.prog 53 #[.agg #[.int .i64 k, .string s1, .string s2, .string s3, .string s4, .string s5, .slice none 0 0], .agg #[.int .i64 k, .string t1, .string t2, .string t3, .string t4, .string t5, .slice none 0 0]] w (EqPost w (eqS s1 s2 s3 s4 s5 t1 t2 t3 t4 t5)) := by
 cases h1 : (s1.toList == t1.toList) with
 | false =>
  have hr : eqS s1 s2 s3 s4 s5 t1 t2 t3 t4 t5 = false := by unfold eqS; rw [h1]; simp
  rw [hr]
  clear hr
  go_enter Tryz.func53, Tryz.ntmps53
  go_wp2_with fail
  all_goals go_ret
  all_goals exact ⟨rfl, Below.alloc (Below.alloc (Below.refl _ _) (Nat.le_refl _) _) (by simp) _⟩
 | true =>
  cases h2 : (s2.toList == t2.toList) with
  | false =>
   have hr : eqS s1 s2 s3 s4 s5 t1 t2 t3 t4 t5 = false := by unfold eqS; rw [h1, h2]; simp
   rw [hr]
   clear hr
   go_enter Tryz.func53, Tryz.ntmps53
   go_wp2_with fail
   all_goals go_ret
   all_goals exact ⟨rfl, Below.alloc (Below.alloc (Below.refl _ _) (Nat.le_refl _) _) (by simp) _⟩
  | true =>
   cases h3 : (s3.toList == t3.toList) with
   | false =>
    have hr : eqS s1 s2 s3 s4 s5 t1 t2 t3 t4 t5 = false := by unfold eqS; rw [h1, h2, h3]; simp
    rw [hr]
    clear hr
    go_enter Tryz.func53, Tryz.ntmps53
    go_wp2_with fail
    all_goals go_ret
    all_goals exact ⟨rfl, Below.alloc (Below.alloc (Below.refl _ _) (Nat.le_refl _) _) (by simp) _⟩
   | true =>
    cases h4 : (s4.toList == t4.toList) with
    | false =>
     have hr : eqS s1 s2 s3 s4 s5 t1 t2 t3 t4 t5 = false := by unfold eqS; rw [h1, h2, h3, h4]; simp
     rw [hr]
     clear hr
     go_enter Tryz.func53, Tryz.ntmps53
     go_wp2_with fail
     all_goals go_ret
     all_goals exact ⟨rfl, Below.alloc (Below.alloc (Below.refl _ _) (Nat.le_refl _) _) (by simp) _⟩
    | true =>
     cases h5 : (s5.toList == t5.toList) with
     | false =>
      have hr : eqS s1 s2 s3 s4 s5 t1 t2 t3 t4 t5 = false := by unfold eqS; rw [h1, h2, h3, h4, h5]; simp
      rw [hr]
      clear hr
      go_enter Tryz.func53, Tryz.ntmps53
      go_wp2_with fail
      all_goals go_ret
      all_goals exact ⟨rfl, Below.alloc (Below.alloc (Below.refl _ _) (Nat.le_refl _) _) (by simp) _⟩
     | true =>
      have hr : eqS s1 s2 s3 s4 s5 t1 t2 t3 t4 t5 = true := by unfold eqS; rw [h1, h2, h3, h4, h5]; rfl
      rw [hr]
      clear hr
      go_enter Tryz.func53, Tryz.ntmps53
      go_wp2_with fail
      refine wp_loop_once ?_
      go_wp2_with fail
      all_goals go_ret
      all_goals exact ⟨rfl, Below.alloc (Below.alloc (Below.refl _ _) (Nat.le_refl _) _) (by simp) _⟩
theorem beq_BA (l m : List UInt8) : ((BA l).toList == (BA m).toList) = decide (l = m) := by
 rw [Lib.toList_data, Lib.toList_data]
 by_cases h : l = m
 · subst h; simp
 · rw [decide_eq_false h, beq_eq_false_iff_ne]
   intro e
   apply h
   unfold BA at e
   simpa using e

theorem equalO : ∀ (a b : Ob) (pa pb : Value) (w : World) (S : Nat → Prop), In S w → Pair w S a pa → Pair w S b pb →
 Calls Tryz.prog 53 #[vO a pa, vO b pb] w (EqPost w (decide (a = b))) := by
 intro a
 induction a with
 | num q =>
  intro b pa pb w S hS ha hb
  have e : pa = .slice none 0 0 := ha
  subst e
  cases b with
  | num q' =>
   have e : pb = .slice none 0 0 := hb
   subst e
   have h := eqFlat 1 (nt q) (dt q) ⟨#[]⟩ ⟨#[]⟩ ⟨#[]⟩ (nt q') (dt q') ⟨#[]⟩ ⟨#[]⟩ ⟨#[]⟩ w
   have hr : eqS (nt q) (dt q) ⟨#[]⟩ ⟨#[]⟩ ⟨#[]⟩ (nt q') (dt q') ⟨#[]⟩ ⟨#[]⟩ ⟨#[]⟩ = decide (Ob.num q = Ob.num q') := by
    unfold eqS
    rw [q_beq]
    simp
   rw [hr] at h
   exact h
  | str s => rw [decide_eq_false (by simp)]; exact eqKind 1 3 (by decide) _ _ _ _ _ _ _ _ _ _ _ _ w
  | sym p n => rw [decide_eq_false (by simp)]; exact eqKind 1 2 (by decide) _ _ _ _ _ _ _ _ _ _ _ _ w
  | cons x y => rw [decide_eq_false (by simp)]; exact eqKind 1 4 (by decide) _ _ _ _ _ _ _ _ _ _ _ _ w
 | str s =>
  intro b pa pb w S hS ha hb
  have e : pa = .slice none 0 0 := ha
  subst e
  cases b with
  | num q' => rw [decide_eq_false (by simp)]; exact eqKind 3 1 (by decide) _ _ _ _ _ _ _ _ _ _ _ _ w
  | str s' =>
   have e : pb = .slice none 0 0 := hb
   subst e
   have h := eqFlat 3 ⟨#[]⟩ ⟨#[]⟩ ⟨#[]⟩ ⟨#[]⟩ (BA s) ⟨#[]⟩ ⟨#[]⟩ ⟨#[]⟩ ⟨#[]⟩ (BA s') w
   have hr : eqS ⟨#[]⟩ ⟨#[]⟩ ⟨#[]⟩ ⟨#[]⟩ (BA s) ⟨#[]⟩ ⟨#[]⟩ ⟨#[]⟩ ⟨#[]⟩ (BA s') = decide (Ob.str s = Ob.str s') := by
    unfold eqS
    rw [beq_BA]
    simp
   rw [hr] at h
   exact h
  | sym p n => rw [decide_eq_false (by simp)]; exact eqKind 3 2 (by decide) _ _ _ _ _ _ _ _ _ _ _ _ w
  | cons x y => rw [decide_eq_false (by simp)]; exact eqKind 3 4 (by decide) _ _ _ _ _ _ _ _ _ _ _ _ w
 | sym p n =>
  intro b pa pb w S hS ha hb
  have e : pa = .slice none 0 0 := ha
  subst e
  cases b with
  | num q' => rw [decide_eq_false (by simp)]; exact eqKind 2 1 (by decide) _ _ _ _ _ _ _ _ _ _ _ _ w
  | str s' => rw [decide_eq_false (by simp)]; exact eqKind 2 3 (by decide) _ _ _ _ _ _ _ _ _ _ _ _ w
  | sym p' n' =>
   have e : pb = .slice none 0 0 := hb
   subst e
   have h := eqFlat 2 ⟨#[]⟩ ⟨#[]⟩ (BA p) (BA n) ⟨#[]⟩ ⟨#[]⟩ ⟨#[]⟩ (BA p') (BA n') ⟨#[]⟩ w
   have hr : eqS ⟨#[]⟩ ⟨#[]⟩ (BA p) (BA n) ⟨#[]⟩ ⟨#[]⟩ ⟨#[]⟩ (BA p') (BA n') ⟨#[]⟩ = decide (Ob.sym p n = Ob.sym p' n') := by
    unfold eqS
    rw [beq_BA, beq_BA]
    simp
   rw [hr] at h
   exact h
  | cons x y => rw [decide_eq_false (by simp)]; exact eqKind 2 4 (by decide) _ _ _ _ _ _ _ _ _ _ _ _ w
 | cons a d iha ihd =>
  intro b pa pb w S hS ha hb
  cases b with
  | num q' => rw [decide_eq_false (by simp)]; exact eqKind 4 1 (by decide) _ _ _ _ _ _ _ _ _ _ _ _ w
  | str s' => rw [decide_eq_false (by simp)]; exact eqKind 4 3 (by decide) _ _ _ _ _ _ _ _ _ _ _ _ w
  | sym p' n' => rw [decide_eq_false (by simp)]; exact eqKind 4 2 (by decide) _ _ _ _ _ _ _ _ _ _ _ _ w
  | cons a' d' =>
   obtain ⟨g, o, c, qa, qd, rfl, hc, hg, hx, h1, h2⟩ := ha
   obtain ⟨g', o', c', qa', qd', rfl, hc', hg', hx', h1', h2'⟩ := hb
   have k1 := fun w' (hw : Below w.heap.size w w') => iha a' qa qa' w' S (hS.later hw.size) (h1.below hS hw) (h1'.below hS hw)
   have k2 := fun w' (hw : Below w.heap.size w w') => ihd d' qd qd' w' S (hS.later hw.size) (h2.below hS hw) (h2'.below hS hw)
   have hr : decide (Ob.cons a d = Ob.cons a' d') = (decide (a = a') && decide (d = d')) := by
    rw [← Bool.decide_and]
    simp
   rw [hr]
   unfold vO at k1 k2
   obtain ⟨x0, x1, x2, x3, x4, x5, ea⟩ := cells7 a qa
   obtain ⟨y0, y1, y2, y3, y4, y5, ed⟩ := cells7 d qd
   obtain ⟨z0, z1, z2, z3, z4, z5, ea'⟩ := cells7 a' qa'
   obtain ⟨t0, t1, t2, t3, t4, t5, ed'⟩ := cells7 d' qd'
   rw [ea, ed] at hx
   rw [ea', ed'] at hx'
   rw [ea, ea'] at k1
   rw [ed, ed'] at k2
   exact equalCC g o c g' o' c' w x0 x1 x2 x3 x4 x5 qa y0 y1 y2 y3 y4 y5 qd z0 z1 z2 z3 z4 z5 qa' t0 t1 t2 t3 t4 t5 qd' _ _ (hS g hg.1) (hS g' hg'.1) hc hc'
    (fun j u h => hx j u (by simpa using h)) (fun j u h => hx' j u (by simpa using h)) k1 k2
theorem tmod_emod (n m : Int) (hm : 0 < m) : (if n.tmod m < 0 then n.tmod m + m else n.tmod m) = n % m := by
 have h := Int.emod_eq_tmod (a := n) (b := m)
 have h1 := Int.emod_nonneg n (show m ≠ 0 by omega)
 have h2 := Int.emod_lt_of_pos n hm
 rcases Int.lt_or_le n 0 with hn | hn
 · have h3 : n.tmod m = -((-n) % m) := by
    rw [← Int.tmod_eq_emod_of_nonneg (by omega), Int.neg_tmod, Int.neg_neg]
   have h4 := Int.emod_nonneg (-n) (show m ≠ 0 by omega)
   have h5 := Int.emod_lt_of_pos (-n) hm
   have h6 : (-n) % m = (if n % m = 0 then 0 else m - n % m) := by
    rw [Int.neg_emod]
    split
    · rename_i g1; rw [if_pos (Int.emod_eq_zero_of_dvd g1)]
    · rename_i g1; rw [if_neg (fun g2 => g1 (Int.dvd_of_emod_eq_zero g2))]; omega
   split at h6 <;> split <;> omega
 · rw [Int.tmod_eq_emod_of_nonneg hn]
   split <;> omega

theorem modO (n m : Int) (w : World) (hn : -9223372036854775808 ≤ n) (hn' : n ≤ 9223372036854775807) (hm : 0 < m) (hm' : m ≤ 100000) :
 Calls Tryz.prog 41 #[.int .i64 n, .int .i64 m] w fun e w' => e = .returned (.int .i64 (n % m)) ∧ w = w' := by
 have h0 := qh9 (tmod_emod n m hm)
 have b1 := Int.tmod_lt_of_pos n hm
 have b2 := Int.lt_tmod_of_pos n hm
 go_enter Tryz.func41, Tryz.ntmps41
 go_wp2_with fail
 all_goals go_ret
 all_goals refine ⟨ret_int ?_, rfl⟩
 · rename_i hq
   have := h0.out
   rw [if_pos hq] at this
   exact this
 · rename_i hq
   have := h0.out
   rw [if_neg (by omega)] at this
   exact this
theorem userO (s : ByteArray) (w : World) : Calls Tryz.prog 46 #[.string s] w fun e w' => e = .returned (.agg #[.string (BA [117, 115, 101, 114]), .string s]) ∧ Below w.heap.size w w' := by
 go_enter Tryz.func46, Tryz.ntmps46
 go_wp2_with fail
 refine bodyPost_ret (results_cell_row rfl _ _ w.heap.size _ _ _ _ rfl (heap_alloc_new w _) Tryz.underlying23 rfl (by kernel_rfl)) rfl ⟨rfl, ?_⟩
 exact Below.alloc (Below.refl _ _) (Nat.le_refl _) _
def RetSy (w : World) (e : Ending) (w' : World) : Prop := ∃ p n : List UInt8, e = .returned (.agg #[.string (BA p), .string (BA n)]) ∧ Below w.heap.size w w' ∧ SyOk p n ∧ n.length ≤ 8

theorem storeSy {ops : Array Oper} {rest : List Oper} {o : Oper} {a : Act} {w : World} {Q : Exit → Act → World → Prop} (hgd : o.guard = none) (x y : Operand) (ho : o.op = .store 23 x y)
 (g : Nat) (s1 s2 : ByteArray) (hx : a.eval x = .pointer (some ⟨g, 0, none⟩)) (hy : a.eval y = .agg #[.string s1, .string s2])
 (t : TypeId) (old : Array Value) (hg : w.heap[g]? = some (.cells old t (0, 0))) (hold : old.size = 2)
 (h : wpList Tryz.prog ops Q rest (a.put o.dst undef) (w.setRow g #[.string s1, .string s2])) : wpList Tryz.prog ops Q (o :: rest) a w :=
 wpList_store_row hgd 23 x y ho g _ hx hy t old hg (by kernel_rfl) hold (by simp [Value.oneCell']) h
theorem retSy {fn : Func} {q : Tmp} {w0 : World} {tmps : Array Value} {w : World} {g : Nat} {s1 s2 : ByteArray} {t : TypeId} {old : Array Value} {fr : Nat × Nat}
 (h : fn.results = #[.cell q 23]) (hq : tmps.getD q undef = .pointer (some ⟨g, 0, none⟩)) (hg : w.heap[g]? = some (.cells old t fr))
 (hlt : w0.heap.size ≤ g) (hb : Below w0.heap.size w0 w) (hok : SyOk (LA s1) (LA s2) ∧ (LA s2).length ≤ 8) :
 bodyPost Tryz.prog fn (RetSy w0) Exit.ret ⟨tmps, []⟩ (w.setRow g #[.string s1, .string s2]) :=
 bodyPost_ret (results_cell_row h tmps _ g t _ fr _ hq (setRow_heap _ _ _ _ _ _ hg) Tryz.underlying23 rfl (by kernel_rfl)) rfl
  ⟨LA s1, LA s2, by rw [BA_LA, BA_LA], below_setRowO hb hlt _, hok⟩

theorem symMake (n : Int) (w : World) (hn : -9223372036854775808 ≤ n) (hn' : n ≤ 9223372036854775807) :
 Calls Tryz.prog 63 #[.int .i64 n] w (RetSy w) := by
 go_enter Tryz.func63, Tryz.ntmps63
 go_wp2_with fail
 refine (modO n 13 _ hn hn' (by decide) (by decide)).mono ?_
 rintro e w1 ⟨rfl, rfl⟩
 have k0 := Int.emod_nonneg n (show (13 : Int) ≠ 0 by decide)
 have k1 := Int.emod_lt_of_pos n (show (0 : Int) < 13 by decide)
 generalize n % 13 = k at k0 k1 ⊢
 obtain ⟨j, rfl⟩ := Int.eq_ofNat_of_zero_le k0
 have hg0 := qh9 (heap_alloc2_old w (Obj.cells #[Value.string { data := #[] }, Value.string { data := #[] }] 23) (Obj.cells #[Value.string { data := #[97] }, Value.string { data := #[98] }, Value.string { data := #[102, 111, 111] }, Value.string { data := #[111, 100, 100, 32, 110, 97, 109, 101] }, Value.string { data := #[49] }, Value.string { data := #[120, 124, 121] }, Value.string { data := #[46] }, Value.string { data := #[45, 50, 47, 51] }, Value.string { data := #[35] }] 9))
 have hg1 := heap_alloc2_new w (Obj.cells #[Value.string { data := #[] }, Value.string { data := #[] }] 23) (Obj.cells #[Value.string { data := #[97] }, Value.string { data := #[98] }, Value.string { data := #[102, 111, 111] }, Value.string { data := #[111, 100, 100, 32, 110, 97, 109, 101] }, Value.string { data := #[49] }, Value.string { data := #[120, 124, 121] }, Value.string { data := #[46] }, Value.string { data := #[45, 50, 47, 51] }, Value.string { data := #[35] }] 9)
 have hW := Below.alloc (Below.alloc (Below.refl w.heap.size w) (Nat.le_refl _) (Obj.cells #[Value.string { data := #[] }, Value.string { data := #[] }] 23)) (by simp) (Obj.cells #[Value.string { data := #[97] }, Value.string { data := #[98] }, Value.string { data := #[102, 111, 111] }, Value.string { data := #[111, 100, 100, 32, 110, 97, 109, 101] }, Value.string { data := #[49] }, Value.string { data := #[120, 124, 121] }, Value.string { data := #[46] }, Value.string { data := #[45, 50, 47, 51] }, Value.string { data := #[35] }] 9)
 have hS : ((w.alloc (Obj.cells #[Value.string { data := #[] }, Value.string { data := #[] }] 23)).alloc (Obj.cells #[Value.string { data := #[97] }, Value.string { data := #[98] }, Value.string { data := #[102, 111, 111] }, Value.string { data := #[111, 100, 100, 32, 110, 97, 109, 101] }, Value.string { data := #[49] }, Value.string { data := #[120, 124, 121] }, Value.string { data := #[46] }, Value.string { data := #[45, 50, 47, 51] }, Value.string { data := #[35] }] 9)).heap.size = w.heap.size + 2 := by simp
 generalize (w.alloc (Obj.cells #[Value.string { data := #[] }, Value.string { data := #[] }] 23)).alloc (Obj.cells #[Value.string { data := #[97] }, Value.string { data := #[98] }, Value.string { data := #[102, 111, 111] }, Value.string { data := #[111, 100, 100, 32, 110, 97, 109, 101] }, Value.string { data := #[49] }, Value.string { data := #[120, 124, 121] }, Value.string { data := #[46] }, Value.string { data := #[45, 50, 47, 51] }, Value.string { data := #[35] }] 9) = W at hg0 hg1 hW hS ⊢
 have hS1 : w.heap.size + 2 ≤ W.heap.size := by omega
 clear hS
 by_cases hj : j < 9
 · obtain ⟨s, hs, hok⟩ : ∃ s, W.cell? ⟨w.heap.size + 1, j, none⟩ = some (.string s) ∧ SyOk userB (LA s) ∧ (LA s).length ≤ 8 := by
    rw [cell_of_row W _ j _ _ _ hg1]
    match j, hj with
    | 0, _ => exact ⟨_, rfl, ⟨.inr rfl, by decide, by decide⟩, by decide⟩
    | 1, _ => exact ⟨_, rfl, ⟨.inr rfl, by decide, by decide⟩, by decide⟩
    | 2, _ => exact ⟨_, rfl, ⟨.inr rfl, by decide, by decide⟩, by decide⟩
    | 3, _ => exact ⟨_, rfl, ⟨.inr rfl, by decide, by decide⟩, by decide⟩
    | 4, _ => exact ⟨_, rfl, ⟨.inr rfl, by decide, by decide⟩, by decide⟩
    | 5, _ => exact ⟨_, rfl, ⟨.inr rfl, by decide, by decide⟩, by decide⟩
    | 6, _ => exact ⟨_, rfl, ⟨.inr rfl, by decide, by decide⟩, by decide⟩
    | 7, _ => exact ⟨_, rfl, ⟨.inr rfl, by decide, by decide⟩, by decide⟩
    | 8, _ => exact ⟨_, rfl, ⟨.inr rfl, by decide, by decide⟩, by decide⟩
   have HOK : Hid (SyOk (LA (BA [117, 115, 101, 114])) (LA s) ∧ (LA s).length ≤ 8) := by rw [LA_BA]; exact hok
   clear hg1 hok
   go_wp2_with fail
   refine (userO s W).mono ?_
   rintro e w2 ⟨rfl, hb2⟩
   have hg2 := qh9 ((hb2.block w.heap.size (by omega)).trans hg0.out)
   clear hs
   go_wp2_with (refine storeSy rfl (.tmp 2) (.tmp 20) rfl w.heap.size _ _ rfl rfl _ _ hg2.out rfl ?_)
   exact retSy rfl rfl hg2.out (Nat.le_refl _) (hW.trans (hb2.mono hW.size)) HOK.out
 · clear hg1
   have hx : j = 9 ∨ j = 10 ∨ j = 11 ∨ j = 12 := by omega
   rcases hx with rfl | rfl | rfl | rfl
   · go_wp2_with fail
     refine (lispO _ W).mono ?_
     rintro e w2 ⟨rfl, hb2⟩
     have hg2 := qh9 ((hb2.block w.heap.size (by omega)).trans hg0.out)
     go_wp2_with (refine storeSy rfl (.tmp 2) (.tmp 26) rfl w.heap.size _ _ rfl rfl _ _ hg2.out rfl ?_)
     exact retSy rfl rfl hg2.out (Nat.le_refl _) (hW.trans (hb2.mono hW.size)) ⟨⟨.inl (LA_BA _), by decide, by decide⟩, by decide⟩
   · go_wp2_with fail
     refine (lispO _ W).mono ?_
     rintro e w2 ⟨rfl, hb2⟩
     have hg2 := qh9 ((hb2.block w.heap.size (by omega)).trans hg0.out)
     go_wp2_with (refine storeSy rfl (.tmp 2) (.tmp 33) rfl w.heap.size _ _ rfl rfl _ _ hg2.out rfl ?_)
     exact retSy rfl rfl hg2.out (Nat.le_refl _) (hW.trans (hb2.mono hW.size)) ⟨⟨.inl (LA_BA _), by decide, by decide⟩, by decide⟩
   · go_wp2_with fail
     refine (lispO _ W).mono ?_
     rintro e w2 ⟨rfl, hb2⟩
     have hg2 := qh9 ((hb2.block w.heap.size (by omega)).trans hg0.out)
     go_wp2_with (refine storeSy rfl (.tmp 2) (.tmp 40) rfl w.heap.size _ _ rfl rfl _ _ hg2.out rfl ?_)
     exact retSy rfl rfl hg2.out (Nat.le_refl _) (hW.trans (hb2.mono hW.size)) ⟨⟨.inl (LA_BA _), by decide, by decide⟩, by decide⟩
   · go_wp2_with fail
     refine (lispO _ W).mono ?_
     rintro e w2 ⟨rfl, hb2⟩
     have hg2 := qh9 ((hb2.block w.heap.size (by omega)).trans hg0.out)
     go_wp2_with (refine storeSy rfl (.tmp 2) (.tmp 41) rfl w.heap.size _ _ rfl rfl _ _ hg2.out rfl ?_)
     exact retSy rfl rfl hg2.out (Nat.le_refl _) (hW.trans (hb2.mono hW.size)) ⟨⟨.inl (LA_BA _), by decide, by decide⟩, by decide⟩
inductive Rw where
 | mk (k n : Int) (s : ByteArray) (l : List Rw)

def I64 (n : Int) : Prop := -9223372036854775808 ≤ n ∧ n ≤ 9223372036854775807

mutual
def RawAt (w : World) (S : Nat → Prop) : Rw → List Value → Prop
 | .mk k n s l, cs => ∃ A c, cs = [.int .i64 k, .int .i64 n, .string s, .slice A l.length c] ∧ I64 k ∧ I64 n ∧ l.length ≤ c ∧ c ≤ maxLen ∧
  (0 < l.length → ∃ b o, A = some ⟨b, o, none⟩ ∧ S b ∧ RawsAt w S b o l)
def RawsAt (w : World) (S : Nat → Prop) (b o : Nat) : List Rw → Prop
 | [] => True
 | r :: rs => (∃ cs, RawAt w S r cs ∧ ∀ j u, cs[j]? = some u → w.cell? ⟨b, o + j, none⟩ = some u) ∧ RawsAt w S b (o + 4) rs
end

mutual
theorem RawAt.keep {w w' : World} {S : Nat → Prop} (hk : ∀ p : Addr, S p.block → w'.cell? p = w.cell? p) : ∀ (r : Rw) (cs : List Value), RawAt w S r cs → RawAt w' S r cs
 | .mk k n s l, cs, h => by
  unfold RawAt at h ⊢
  obtain ⟨A, c, h1, h2, h3, h4, h5, h6⟩ := h
  refine ⟨A, c, h1, h2, h3, h4, h5, fun hl => ?_⟩
  obtain ⟨b, o, e, hb, hr⟩ := h6 hl
  exact ⟨b, o, e, hb, RawsAt.keep hk b o hb l hr⟩
theorem RawsAt.keep {w w' : World} {S : Nat → Prop} (hk : ∀ p : Addr, S p.block → w'.cell? p = w.cell? p) (b o : Nat) (hb : S b) : ∀ l : List Rw, RawsAt w S b o l → RawsAt w' S b o l
 | [], _ => by unfold RawsAt; trivial
 | r :: rs, h => by
  unfold RawsAt at h ⊢
  obtain ⟨⟨cs, h1, h2⟩, h3⟩ := h
  exact ⟨⟨cs, RawAt.keep hk r cs h1, fun j u hj => (hk ⟨b, o + j, none⟩ hb).trans (h2 j u hj)⟩, RawsAt.keep hk b (o + 4) hb rs h3⟩
end
theorem RawAt.below {w w' : World} {S : Nat → Prop} {B : Nat} {r : Rw} {cs : List Value} (h : RawAt w S r cs) (hS : ∀ b, S b → b < B) (hb : Below B w w') : RawAt w' S r cs := h.keep fun q hq => hb.cell (hS q.block hq)
theorem RawsAt.get {w : World} {S : Nat → Prop} {b : Nat} : ∀ {l : List Rw} {o i : Nat} (hi : i < l.length), RawsAt w S b o l → ∃ cs, RawAt w S l[i] cs ∧ ∀ j u, cs[j]? = some u → w.cell? ⟨b, o + i * 4 + j, none⟩ = some u
 | r :: rs, o, 0, hi, h => by
  unfold RawsAt at h
  obtain ⟨cs, h1, h2⟩ := h.1
  exact ⟨cs, h1, fun j u hj => by rw [Nat.zero_mul, Nat.add_zero]; exact h2 j u hj⟩
 | r :: rs, o, i + 1, hi, h => by
  unfold RawsAt at h
  obtain ⟨cs, h1, h2⟩ := RawsAt.get (l := rs) (o := o + 4) (i := i) (by simpa using hi) h.2
  exact ⟨cs, h1, fun j u hj => by rw [show o + (i + 1) * 4 + j = o + 4 + i * 4 + j from by omega]; exact h2 j u hj⟩

mutual
def leftV : Rw → Int → Int
 | .mk k n s l, m => if 12 < s.size ∨ 6 < l.length then -1 else leftL l (m - 1)
def leftL : List Rw → Int → Int
 | [], m => m
 | r :: rs, m => if 0 ≤ m then leftL rs (leftV r m) else m
end
mutual
theorem leftV_range : ∀ (r : Rw) (m : Int), 0 ≤ m → -1 ≤ leftV r m ∧ leftV r m ≤ m
 | .mk k n s l, m, h => by
  unfold leftV
  split
  · omega
  · have := leftL_range l (m - 1) (by omega); omega
theorem leftL_range : ∀ (l : List Rw) (m : Int), -1 ≤ m → -1 ≤ leftL l m ∧ leftL l m ≤ m
 | [], m, h => by unfold leftL; omega
 | r :: rs, m, h => by
  unfold leftL
  split
  · rename_i h0
    have h1 := leftV_range r m h0
    have h2 := leftL_range rs (leftV r m) h1.1
    omega
  · omega
end
theorem leftL_neg {l : List Rw} {m : Int} (h : m < 0) : leftL l m = m := by
 cases l with
 | nil => unfold leftL; rfl
 | cons r rs => unfold leftL; rw [if_neg (by omega)]
theorem leftL_drop {l : List Rw} {i : Nat} {m : Int} (hi : i < l.length) (hm : 0 ≤ m) : leftL (l.drop i) m = leftL (l.drop (i + 1)) (leftV l[i] m) := by
 rw [List.drop_eq_getElem_cons hi]
 conv => lhs; unfold leftL
 rw [if_pos hm]
mutual
theorem Rw.ind {P : Rw → Prop} (h : ∀ k n s l, (∀ r ∈ l, P r) → P (.mk k n s l)) : ∀ r, P r
 | .mk k n s l => h k n s l (Rw.inds h l)
theorem Rw.inds {P : Rw → Prop} (h : ∀ k n s l, (∀ r ∈ l, P r) → P (.mk k n s l)) : ∀ l : List Rw, ∀ r ∈ l, P r
 | [] => fun r hr => by simp at hr
 | x :: xs => fun r hr => by
  rcases List.mem_cons.1 hr with e | e
  · rw [e]; exact Rw.ind h x
  · exact Rw.inds h xs r e
end

def RetI (w : World) (n : Int) (e : Ending) (w' : World) : Prop := e = .returned (.int .i64 n) ∧ Below w.heap.size w w'
def LeftW (W wr : World) (l : List Rw) (i : Nat) (q r : Int) : Prop := leftL (l.drop i) q = r ∧ Below W.heap.size W wr

theorem leftCore (k n : Int) (s : ByteArray) (l : List Rw) (A : Option Addr) (c : Nat) (m : Int) (w : World) (S : Nat → Prop) (hS : In S w) (hc : l.length ≤ c) (hm : 0 ≤ m) (hm' : m ≤ 1000)
 (hA : 0 < l.length → ∃ b o, A = some ⟨b, o, none⟩ ∧ S b ∧ RawsAt w S b o l)
 (ih : ∀ r ∈ l, ∀ (cs : List Value) (m : Int) (w : World), In S w → RawAt w S r cs → 0 ≤ m → m ≤ 1000 → Calls Tryz.prog 58 #[.agg cs.toArray, .int .i64 m] w (RetI w (leftV r m))) :
 Calls Tryz.prog 58 #[.agg #[.int .i64 k, .int .i64 n, .string s, .slice A l.length c], .int .i64 m] w (RetI w (leftV (.mk k n s l) m)) := by
 have HI := qh9 ih
 clear ih
 have HA := qh9 hA
 clear hA
 obtain ⟨L, hL⟩ : ∃ L, l.length = L := ⟨_, rfl⟩
 rw [hL] at hc HA ⊢
 have HL := qh9 hL
 by_cases hbig : 12 < s.size ∨ 6 < L
 · have hr : leftV (.mk k n s l) m = -1 := by unfold leftV; rw [hL, if_pos hbig]
   rw [hr]
   clear hr hL
   have hb0 : Below w.heap.size w (w.alloc (.cells #[.int .i64 k, .int .i64 n, .string s, .slice A L c] 26)) := Below.alloc (Below.refl _ _) (Nat.le_refl _) _
   by_cases h1 : 12 < s.size
   · go_enter Tryz.func58, Tryz.ntmps58
     go_wp2_with fail
     all_goals go_ret
     all_goals exact ⟨rfl, hb0⟩
   · have h2 : 6 < L := by omega
     clear hbig
     go_enter Tryz.func58, Tryz.ntmps58
     go_wp2_with fail
     all_goals go_ret
     all_goals exact ⟨rfl, hb0⟩
 · have h1 : s.size ≤ 12 := by omega
   have h2 : L ≤ 6 := by omega
   have hr : leftV (.mk k n s l) m = leftL l (m - 1) := by unfold leftV; rw [hL, if_neg hbig]
   rw [hr]
   clear hr hL hbig
   go_enter Tryz.func58, Tryz.ntmps58
   go_wp2_with fail
   have c3 := qh9 (show (w.alloc (.cells #[.int .i64 k, .int .i64 n, .string s, .slice A L c] 26)).cell? ⟨w.heap.size, 3, none⟩ = some (.slice A L c) from by
    rw [cell_of_row _ _ _ _ _ _ (heap_alloc_new w _)]; rfl)
   have hW : Below w.heap.size w (w.alloc (.cells #[.int .i64 k, .int .i64 n, .string s, .slice A L c] 26)) := Below.alloc (Below.refl _ _) (Nat.le_refl _) _
   have hSz : (w.alloc (.cells #[.int .i64 k, .int .i64 n, .string s, .slice A L c] 26)).heap.size = w.heap.size + 1 := by simp
   generalize w.alloc (.cells #[.int .i64 k, .int .i64 n, .string s, .slice A L c] 26) = W at c3 hW hSz ⊢
   have hS1 : w.heap.size + 1 ≤ W.heap.size := by omega
   clear hSz
   go_loopw [1, 5] (fun u v wr => ∃ (i : Nat) (q : Int), i ≤ L ∧ v = .int .i64 i ∧ u = .int .i64 q ∧ -1 ≤ q ∧ q ≤ 1000 ∧ Hid (LeftW W wr l i q (leftL l (m - 1)))) (fun _ v _ => L - (intOf v).toNat)
   case atStart => exact ⟨0, m - 1, Nat.zero_le _, rfl, rfl, by omega, by omega, ⟨rfl, Below.refl _ _⟩⟩
   case round =>
    obtain ⟨i, q, hi, rfl, rfl, hq, hq', hE⟩ := hrel
    obtain ⟨wo, rfl⟩ : ∃ wo : World, wo = wr := ⟨_, rfl⟩
    obtain ⟨hv, hb1⟩ := hE.out
    clear hE
    have HV := qh9 hv
    clear hv
    have d3 : wo.cell? ⟨w.heap.size, 3, none⟩ = some (.slice A L c) := (hb1.cell (p := ⟨w.heap.size, 3, none⟩) (by show w.heap.size < _; omega)).trans c3.out
    have hbw : Below w.heap.size w wo := hW.trans (hb1.mono hW.size)
    by_cases hiL : i < L
    · by_cases hq0 : 0 ≤ q
      · obtain ⟨b, o, rfl, hb, hrs⟩ := HA.out (by omega)
        have hil : i < l.length := by rw [HL.out]; exact hiL
        obtain ⟨cs, hcs, hcell⟩ := hrs.get hil
        have hcs' := hcs.below hS hbw
        have ha0 : b < w.heap.size := hS b hb
        have step := qh9 (leftL_drop hil hq0)
        have rng := leftV_range l[i] q hq0
        obtain ⟨z0, z1, z2, z3, rfl⟩ : ∃ z0 z1 z2 z3, cs = [z0, z1, z2, z3] := by
         generalize l[i] = r at hcs
         cases r with
         | mk k n s l => unfold RawAt at hcs; obtain ⟨A, c, e, _⟩ := hcs; exact ⟨_, _, _, _, e⟩
        have l0 := (hbw.cell (p := ⟨b, o + i * 4 + 0, none⟩) ha0).trans (hcell 0 z0 rfl)
        have l1 := (hbw.cell (p := ⟨b, o + i * 4 + 1, none⟩) ha0).trans (hcell 1 z1 rfl)
        have l2 := (hbw.cell (p := ⟨b, o + i * 4 + 2, none⟩) ha0).trans (hcell 2 z2 rfl)
        have l3 := (hbw.cell (p := ⟨b, o + i * 4 + 3, none⟩) ha0).trans (hcell 3 z3 rfl)
        rw [Nat.add_zero] at l0
        have call := qh9 (HI.out l[i] (List.getElem_mem hil) [z0, z1, z2, z3] q wo (hS.later hbw.size) hcs' hq0 hq')
        clear hcell hcs hcs' hrs
        go_wp2_with fail
        refine call.out.mono ?_
        rintro e w3 ⟨rfl, hb3⟩
        have hbe := qh9 (hb1.trans (hb3.mono hb1.size))
        clear l0 l1 l2 l3 d3 hb1 hb3 hbw call
        have hst := qh9 (step.out.symm.trans HV.out)
        generalize leftV l[i] q = q' at rng hst ⊢
        go_wp2
        go_roundw
        case rel => exact ⟨i + 1, q', by omega, by go_num, rfl, by omega, by omega, ⟨hst.out, hbe.out⟩⟩
        case measure => simp [intOf]; omega
      · have hr : Hid (q = leftL l (m - 1)) := by show _ = _; rw [← HV.out, leftL_neg (by omega)]
        have hbx := qh9 hbw
        clear hb1 hbw
        go_wp2
        go_ret
        exact ⟨ret_int hr.out, hbx.out⟩
    · have hiL : i = L := by omega
      have hr : Hid (q = leftL l (m - 1)) := by
       show _ = _
       rw [← HV.out, List.drop_eq_nil_of_le (by rw [HL.out]; omega)]
       unfold leftL
       rfl
      have hbx := qh9 hbw
      have hn : ¬ i < L := by omega
      clear hb1 hbw hiL
      go_wp2
      go_ret
      exact ⟨ret_int hr.out, hbx.out⟩
theorem leftO : ∀ (r : Rw) (cs : List Value) (m : Int) (w : World) (S : Nat → Prop), In S w → RawAt w S r cs → 0 ≤ m → m ≤ 1000 →
 Calls Tryz.prog 58 #[.agg cs.toArray, .int .i64 m] w (RetI w (leftV r m)) := by
 intro r
 induction r using Rw.ind with
 | h k n s l ih =>
  intro cs m w S hS h hm hm'
  unfold RawAt at h
  obtain ⟨A, c, rfl, hk, hn, hc, hc', hA⟩ := h
  exact leftCore k n s l A c m w S hS hc hm hm' hA (fun r hr cs m w hS h hm hm' => ih r hr cs m w S hS h hm hm')

def few (r : Rw) (m : Int) : Bool := decide (0 ≤ leftV r m)
theorem fewO (r : Rw) (cs : List Value) (m : Int) (w : World) (S : Nat → Prop) (hS : In S w) (h : RawAt w S r cs) (hm : 0 ≤ m) (hm' : m ≤ 1000) :
 Calls Tryz.prog 14 #[.agg cs.toArray, .int .i64 m] w (fun e w' => e = .returned (.bool (few r m)) ∧ Below w.heap.size w w') := by
 cases r with
 | mk k n s l =>
  have h' := h
  unfold RawAt at h
  obtain ⟨A, c, rfl, _⟩ := h
  have hb0 : Below w.heap.size w (w.alloc (.cells #[.int .i64 k, .int .i64 n, .string s, .slice A l.length c] 26)) := Below.alloc (Below.refl _ _) (Nat.le_refl _) _
  have call := qh9 (leftO _ _ m _ S (hS.later hb0.size) (h'.below hS hb0) hm hm')
  clear h'
  go_enter Tryz.func14, Tryz.ntmps14
  go_wp2_with fail
  refine call.out.mono ?_
  rintro e w3 ⟨rfl, hb3⟩
  have hbx := qh9 (hb0.trans (hb3.mono hb0.size))
  clear hb3 hb0 call
  go_wp2
  go_ret
  exact ⟨rfl, hbx.out⟩
def partV : Rw → Nat → Rw
 | .mk _ _ _ l, i => l.getD i (.mk 0 0 ⟨#[]⟩ [])
def RetR (w : World) (S : Nat → Prop) (r : Rw) (e : Ending) (w' : World) : Prop := ∃ cs, e = .returned (.agg cs.toArray) ∧ RawAt w' S r cs ∧ Below w.heap.size w w'
theorem raw_none (w : World) (S : Nat → Prop) : RawAt w S (.mk 0 0 ⟨#[]⟩ []) [.int .i64 0, .int .i64 0, .string ⟨#[]⟩, .slice none 0 0] := by
 unfold RawAt
 exact ⟨none, 0, rfl, by unfold I64; omega, by unfold I64; omega, Nat.le_refl _, Nat.zero_le _, fun h => by simp at h⟩
theorem retR {fn : Func} {q : Tmp} {w0 : World} {S : Nat → Prop} {tmps : Array Value} {w : World} {g : Nat} {r : Rw} {z0 z1 z2 z3 : Value} {t : TypeId} {fr : Nat × Nat}
 (h : fn.results = #[.cell q 26]) (hq : tmps.getD q undef = .pointer (some ⟨g, 0, none⟩)) (hg : w.heap[g]? = some (.cells #[z0, z1, z2, z3] t fr))
 (hr : RawAt w S r [z0, z1, z2, z3]) (hb : Below w0.heap.size w0 w) : bodyPost Tryz.prog fn (RetR w0 S r) Exit.ret ⟨tmps, []⟩ w :=
 bodyPost_ret (results_cell_row h tmps _ g t _ fr _ hq hg Tryz.underlying26 rfl (by kernel_rfl)) rfl ⟨_, rfl, hr, hb⟩

theorem partO (r : Rw) (cs : List Value) (i : Nat) (w : World) (S : Nat → Prop) (hS : In S w) (h : RawAt w S r cs) (hi : i ≤ 10) :
 Calls Tryz.prog 66 #[.agg cs.toArray, .int .i64 i] w (RetR w S (partV r i)) := by
 cases r with
 | mk k n s l =>
  unfold RawAt at h
  obtain ⟨A, c, rfl, hk, hn, hc, hc', hA⟩ := h
  obtain ⟨L, hL⟩ : ∃ L, l.length = L := ⟨_, rfl⟩
  have HL := qh9 hL
  rw [hL] at hc hA ⊢
  clear hL
  have HA := qh9 hA
  clear hA
  by_cases hiL : i < L
  · obtain ⟨b, o, rfl, hb, hrs⟩ := HA.out (by omega)
    have hil : i < l.length := by rw [HL.out]; exact hiL
    obtain ⟨cs, hcs, hcell⟩ := hrs.get hil
    have hp : partV (.mk k n s l) i = l[i] := by show l.getD i _ = _; rw [List.getD_eq_getElem?_getD, List.getElem?_eq_getElem hil]; rfl
    rw [hp]
    clear hp
    have hbl := hS b hb
    have HC := qh9 hcs
    clear hrs
    generalize l[i] = r at hcs HC ⊢
    cases r with
    | mk k' n' s' l' =>
     unfold RawAt at hcs
     obtain ⟨A', c', rfl, _⟩ := hcs
     have l0 := hcell 0 _ rfl
     have l1 := hcell 1 _ rfl
     have l2 := hcell 2 _ rfl
     have l3 := hcell 3 _ rfl
     rw [Nat.add_zero] at l0
     clear hcell
     go_enter Tryz.func66, Tryz.ntmps66
     go_wp2_with fail
     have hbb : Below w.heap.size w ((w.alloc (.cells #[.int .i64 k, .int .i64 n, .string s, .slice (some ⟨b, o, none⟩) L c] 26)).alloc (.cells #[.int .i64 k', .int .i64 n', .string s', .slice A' l'.length c'] 26)) := Below.alloc (Below.alloc (Below.refl _ _) (Nat.le_refl _) _) (by simp) _
     exact retR rfl rfl (heap_alloc2_new w _ _) (HC.out.below hS hbb) hbb
  · have hp : partV (.mk k n s l) i = .mk 0 0 ⟨#[]⟩ [] := by
     show l.getD i _ = _
     rw [List.getD_eq_getElem?_getD, List.getElem?_eq_none (by rw [HL.out]; omega)]
     rfl
    rw [hp]
    clear hp
    go_enter Tryz.func66, Tryz.ntmps66
    go_wp2_with fail
    have hbb : Below w.heap.size w ((w.alloc (.cells #[.int .i64 k, .int .i64 n, .string s, .slice A L c] 26)).alloc (.cells #[.int .i64 0, .int .i64 0, .string ⟨#[]⟩, .slice none 0 0] 26)) := Below.alloc (Below.alloc (Below.refl _ _) (Nat.le_refl _) _) (by simp) _
    exact retR rfl rfl (heap_alloc2_new w _ _) (raw_none _ S) hbb
end Go.Proofs.YtinjhnnpbejccaaGreatDoor
