/- number.Divide: a divisor of 0. -/
import Derived.Test.YtclniebhgfodfaaDoorTop2
namespace Go.Proofs.YtclniebhgfodfaaDoor
open Go Go.RowKit
set_option linter.unusedVariables false

/-- The call returned the texts of x and y. -/
def RetSS (w : World) (x y : Int) (e : Ending) (w' : World) : Prop := e = .returned (.tuple #[.string (BA (text x)), .string (BA (text y))]) ∧ Below w.heap.size w w'

/-- The quotient and the remainder of two numbers with signs, rounded down. -/
def divUp (b : Bool) (n : Nat) (b' : Bool) (m : Nat) : Bool := (b != b') && (n % m != 0)
def dquo (b : Bool) (n : Nat) (b' : Bool) (m : Nat) : Int := if divUp b n b' m then -((n / m + 1 : Nat) : Int) else zval (b != b') (n / m)
def drem (b : Bool) (n : Nat) (b' : Bool) (m : Nat) : Int := if divUp b n b' m then zval b' (m - n % m) else zval b (n % m)

set_option maxHeartbeats 2000000 in
theorem divide_zero (s t : ByteArray) (w : World) (hs : s.size ≤ 400000000) (ht : t.size ≤ 400000000) (h0 : mag (LA t) = 0) :
    Calls Tryd.prog 33 #[.string s, .string t] w (RetSS w 0 (val (LA s))) := by
  have hl := magLen s
  have hl2 := magLen t
  have hz : (mag (LA t) == 0) = true := by rw [h0]; rfl
  have H0 := Lib.hid h0
  clear h0
  go_enter Tryd.func33, Tryd.ntmps33
  go_wp2_with fail
  refine (parse_any s _ (by omega)).mono ?_
  rintro e w1 ⟨A1, c1, rfl, hc1, hR1, hb1⟩
  go_wp2_with fail
  refine (parse_any t _ (by omega)).mono ?_
  rintro e w2 ⟨A2, c2, rfl, hc2, hR2, hb2⟩
  replace hR1 := (hR1.below hb2).more hb2.size
  go_wp2_with fail
  have hT := Two.new w2 (.bool (neg (LA s))) (.slice A1 (digs (mag (LA s))).length c1) (.bool (neg (LA t))) (.slice A2 (digs (mag (LA t))).length c2)
  generalize (w2.alloc (.cells #[.bool (neg (LA s)), .slice A1 (digs (mag (LA s))).length c1] 46)).alloc (.cells #[.bool (neg (LA t)), .slice A2 (digs (mag (LA t))).length c2] 46) = W at hT ⊢
  have hr : Reads W W.heap.size .u8 A1 (digs (mag (LA s))) := (hR1.below hT.bel).more (by have := hT.size; omega)
  clear hR1 hR2
  refine (isZero_any _ A2 _ c2 _).mono ?_
  rintro e w3 ⟨rfl, hb3⟩
  obtain ⟨k0, k1, k2⟩ := hT.below hb3
  have j0 := k0.cell0
  have j1 := k0.cell1
  have hr3 := (hr.below hb3).more hb3.size
  go_wp2_with fail
  refine (text_any _ A1 _ c1 _ (by omega) hr3).mono ?_
  rintro e w4 ⟨rfl, hb4⟩
  go_wp2
  go_ret2
  exact ⟨rfl, (hb1.trans (hb2.mono hb1.size)).trans ((k2.trans (hb4.mono (by have := hb3.size; have := hT.size; omega))).mono (Nat.le_trans hb1.size hb2.size))⟩

-- POS
theorem BoxIs.store {w : World} {g : Nat} {x y : Value} (h : BoxIs w g x y) (u v : Value) : BoxIs ((w.setCell ⟨g, 0, none⟩ u).setCell ⟨g, 1, none⟩ v) g u v := by
  unfold BoxIs at *
  simp [World.setCell, Array.getElem?_modify, h]
theorem Reads.store {w : World} {B g : Nat} {k : IntKind} {A : Option Addr} {xs : List Nat} {x y : Value} (h : Reads w B k A xs) (hb : BoxIs w g x y) (hx : notInt x = true) (hy : notInt y = true) (u v : Value) : Reads ((w.setCell ⟨g, 0, none⟩ u).setCell ⟨g, 1, none⟩ v) B k A xs := by
  have h1 := h.setOther hb.cell0 hx u
  refine h1.setOther (u := y) ?_ hy v
  rw [World.cell?_setCell_other _ _ _ _ (by simp)]
  exact hb.cell1
theorem digs_succ_length (n : Nat) : (digs (n + 1)).length ≤ (digs n).length + 1 := by
  apply digs_length_le
  have := lt_pow_digs n
  rw [Nat.pow_succ]
  have h1 : 0 < 10 ^ (digs n).length := Nat.pow_pos (by decide)
  omega
theorem BoxIs.far {w : World} {g : Nat} {x y : Value} (h : BoxIs w g x y) {p : Addr} (hp : g ≠ p.block) (u : Value) : BoxIs (w.setCell p u) g x y := (Below.heap_setCell w p u g hp).trans h

set_option maxHeartbeats 4000000 in
theorem divide_same (s t : ByteArray) (w : World) (hs : s.size ≤ 400000000) (ht : t.size ≤ 400000000) (h0 : mag (LA t) ≠ 0) (hq : (neg (LA s) != neg (LA t)) = false) :
    Calls Tryd.prog 33 #[.string s, .string t] w (RetSS w (dquo (neg (LA s)) (mag (LA s)) (neg (LA t)) (mag (LA t))) (drem (neg (LA s)) (mag (LA s)) (neg (LA t)) (mag (LA t)))) := by
  have hl := magLen s
  have hl2 := magLen t
  have hz : (mag (LA t) == 0) = false := by rw [beq_eq_false_iff_ne]; exact h0
  have hdq : Hid (dquo (neg (LA s)) (mag (LA s)) (neg (LA t)) (mag (LA t)) = zval false (mag (LA s) / mag (LA t))) := by show _ = _; unfold dquo divUp; rw [hq]; rfl
  have hdr : Hid (drem (neg (LA s)) (mag (LA s)) (neg (LA t)) (mag (LA t)) = zval (neg (LA s)) (mag (LA s) % mag (LA t))) := by show _ = _; unfold drem divUp; rw [hq]; rfl
  have hlq : (digs (mag (LA s) / mag (LA t))).length ≤ (digs (mag (LA s))).length := digs_length_mono (Nat.div_le_self _ _)
  have hlr : (digs (mag (LA s) % mag (LA t))).length ≤ (digs (mag (LA s))).length := digs_length_mono (Nat.mod_le _ _)
  have hlt : mag (LA s) % mag (LA t) < mag (LA t) := Nat.mod_lt _ (Nat.pos_of_ne_zero h0)
  go_enter Tryd.func33, Tryd.ntmps33
  go_wp2_with fail
  refine (parse_any s _ (by omega)).mono ?_
  rintro e w1 ⟨A1, c1, rfl, hc1, hR1, hb1⟩
  go_wp2_with fail
  refine (parse_any t _ (by omega)).mono ?_
  rintro e w2 ⟨A2, c2, rfl, hc2, hR2, hb2⟩
  replace hR1 := (hR1.below hb2).more hb2.size
  go_wp2_with fail
  have hT := Two.new w2 (.bool (neg (LA s))) (.slice A1 (digs (mag (LA s))).length c1) (.bool (neg (LA t))) (.slice A2 (digs (mag (LA t))).length c2)
  generalize (w2.alloc (.cells #[.bool (neg (LA s)), .slice A1 (digs (mag (LA s))).length c1] 46)).alloc (.cells #[.bool (neg (LA t)), .slice A2 (digs (mag (LA t))).length c2] 46) = W at hT ⊢
  have hr : Reads W W.heap.size .u8 A1 (digs (mag (LA s))) := (hR1.below hT.bel).more (by have := hT.size; omega)
  have hr' : Reads W W.heap.size .u8 A2 (digs (mag (LA t))) := (hR2.below hT.bel).more (by have := hT.size; omega)
  have hTs := hT.size
  clear hR1 hR2
  refine (isZero_any _ A2 _ c2 _).mono ?_
  rintro e w3 ⟨rfl, hb3⟩
  obtain ⟨k0, k1, k2⟩ := hT.below hb3
  have j0 := k0.cell0
  have j1 := k0.cell1
  have j2 := k1.cell0
  have j3 := k1.cell1
  have hs3 := hb3.size
  replace hr := (hr.below hb3).more hb3.size
  replace hr' := (hr'.below hb3).more hb3.size
  go_wp2_with fail
  refine (divNat_any A1 A2 _ _ _ _ c1 c2 _ rfl rfl hr hr' hc1 (by omega) h0).mono ?_
  rintro e w5 ⟨Aq, cq, Ar, cr, rfl, hcq, hcr, hRq, hRr, hb5⟩
  have hs5 := hb5.size
  have p0 := k0.below hb5 (by omega)
  have p1 := k1.below hb5 (by omega)
  have hb05 : Below w2.heap.size w2 w5 := k2.trans (hb5.mono (by omega))
  replace hr' := (hr'.below hb5).more hb5.size
  clear j0 j1 j2 j3 k0 k1 k2 hT hr hb3 hb5
  have j0 := p0.cell0
  have j1 := p0.cell1
  have j2 := p1.cell0
  have j3 := p1.cell1
  have l5 : w2.heap.size < w5.heap.size := by omega
  have l6 : w2.heap.size + 1 < w5.heap.size := by omega
  have heq : (neg (LA s) == neg (LA t)) = true := by cases h1 : neg (LA s) <;> cases h2 : neg (LA t) <;> rw [h1, h2] at hq <;> first | rfl | cases hq
  clear hq
  go_wp2_with fail
  have hT := Two.new w5 (.bool false) (.slice Aq (digs (mag (LA s) / mag (LA t))).length cq) (.bool (neg (LA s))) (.slice Ar (digs (mag (LA s) % mag (LA t))).length cr)
  generalize (w5.alloc (.cells #[.bool false, .slice Aq (digs (mag (LA s) / mag (LA t))).length cq] 46)).alloc (.cells #[.bool (neg (LA s)), .slice Ar (digs (mag (LA s) % mag (LA t))).length cr] 46) = V at hT ⊢
  have hVs := hT.size
  have q0 : BoxIs V w2.heap.size _ _ := p0.below hT.bel (by omega)
  have q1 : BoxIs V (w2.heap.size + 1) _ _ := p1.below hT.bel (by omega)
  have hbV : Below w2.heap.size w2 V := hb05.trans (hT.bel.mono (by omega))
  replace hRq := (hRq.below hT.bel).more (show w5.heap.size ≤ V.heap.size by omega)
  replace hRr := (hRr.below hT.bel).more (show w5.heap.size ≤ V.heap.size by omega)
  replace hr' := (hr'.below hT.bel).more (show w5.heap.size ≤ V.heap.size by omega)
  clear j0 j1 j2 j3 p0 p1 hb05
  have g0 := hT.b0.cell0
  have g1 := hT.b0.cell1
  have g2 := hT.b1.cell0
  have g3 := hT.b1.cell1
  go_wp2
  have hu : Reads V.drew V.drew.heap.size .u8 Aq (digs (mag (LA s) / mag (LA t))) := (hRq : Reads V V.heap.size .u8 Aq (digs (mag (LA s) / mag (LA t))))
  have hu' : Reads V.drew V.drew.heap.size .u8 Ar (digs (mag (LA s) % mag (LA t))) := (hRr : Reads V V.heap.size .u8 Ar (digs (mag (LA s) % mag (LA t))))
  have hlen1 : (digs (mag (LA s) / mag (LA t))).length ≤ 1000000000 := by omega
  have hlen2 : (digs (mag (LA s) % mag (LA t))).length ≤ 1000000000 := by omega
  have hlt0 : w5.heap.size < V.heap.size := by omega
  have hlt1 : w5.heap.size + 1 < V.heap.size := by omega
  go_region_held3 (fun W' => W'.cell? ⟨w5.heap.size, 0, none⟩ = some (.bool false) ∧ W'.cell? ⟨w5.heap.size, 1, none⟩ = some (.slice Aq (digs (mag (LA s) / mag (LA t))).length cq) ∧ W'.cell? ⟨w5.heap.size + 1, 0, none⟩ = some (.bool (neg (LA s))) ∧ W'.cell? ⟨w5.heap.size + 1, 1, none⟩ = some (.slice Ar (digs (mag (LA s) % mag (LA t))).length cr)) (go_keep)
    (first | (go_at_call 47; (with_reducible refine (text_any false Aq _ cq _ ?_ hu).mono ?_); (exact hlen1); rintro e w7 ⟨rfl, hb7⟩; have hb77 : Below V.heap.size V w7 := (Below.refl _ V).drew.trans hb7; have i0 := (hT.b0.below hb77 hlt0).cell0; have i1 := (hT.b0.below hb77 hlt0).cell1; have i2 := (hT.b1.below hb77 hlt1).cell0; have i3 := (hT.b1.below hb77 hlt1).cell1; have hu2 := (hu'.below hb7).more hb7.size) | (go_at_call 47; (with_reducible refine (text_any (neg (LA s)) Ar _ cr _ ?_ hu2).mono ?_); (exact hlen2); rintro e w8 ⟨rfl, hb8⟩; have hb88 : Below V.heap.size V w8 := hb77.trans (hb8.mono hb77.size); have o0 := (hT.b0.below hb88 hlt0).cell0; have o1 := (hT.b0.below hb88 hlt0).cell1; have o2 := (hT.b1.below hb88 hlt1).cell0; have o3 := (hT.b1.below hb88 hlt1).cell1))
  go_wp2
  go_ret2
  exact ⟨by rw [hdq.out, hdr.out]; rfl, (hb1.trans (hb2.mono hb1.size)).trans ((hbV.trans (hb88.mono (by omega))).mono (Nat.le_trans hb1.size hb2.size))⟩

set_option maxHeartbeats 4000000 in
theorem divide_exact (s t : ByteArray) (w : World) (hs : s.size ≤ 400000000) (ht : t.size ≤ 400000000) (h0 : mag (LA t) ≠ 0) (hq : (neg (LA s) != neg (LA t)) = true) (hrz : mag (LA s) % mag (LA t) = 0) :
    Calls Tryd.prog 33 #[.string s, .string t] w (RetSS w (dquo (neg (LA s)) (mag (LA s)) (neg (LA t)) (mag (LA t))) (drem (neg (LA s)) (mag (LA s)) (neg (LA t)) (mag (LA t)))) := by
  have hl := magLen s
  have hl2 := magLen t
  have hz : (mag (LA t) == 0) = false := by rw [beq_eq_false_iff_ne]; exact h0
  have hdq : Hid (dquo (neg (LA s)) (mag (LA s)) (neg (LA t)) (mag (LA t)) = zval true (mag (LA s) / mag (LA t))) := by show _ = _; unfold dquo divUp; rw [hq]; rw [hrz]; rfl
  have hdr : Hid (drem (neg (LA s)) (mag (LA s)) (neg (LA t)) (mag (LA t)) = zval (neg (LA s)) (mag (LA s) % mag (LA t))) := by show _ = _; unfold drem divUp; rw [hq]; rw [hrz]; rfl
  have hlq : (digs (mag (LA s) / mag (LA t))).length ≤ (digs (mag (LA s))).length := digs_length_mono (Nat.div_le_self _ _)
  have hlr : (digs (mag (LA s) % mag (LA t))).length ≤ (digs (mag (LA s))).length := digs_length_mono (Nat.mod_le _ _)
  have hlt : mag (LA s) % mag (LA t) < mag (LA t) := Nat.mod_lt _ (Nat.pos_of_ne_zero h0)
  have hrz1 : (mag (LA s) % mag (LA t) == 0) = true := by rw [hrz]; rfl
  replace hrz := Lib.hid hrz
  go_enter Tryd.func33, Tryd.ntmps33
  go_wp2_with fail
  refine (parse_any s _ (by omega)).mono ?_
  rintro e w1 ⟨A1, c1, rfl, hc1, hR1, hb1⟩
  go_wp2_with fail
  refine (parse_any t _ (by omega)).mono ?_
  rintro e w2 ⟨A2, c2, rfl, hc2, hR2, hb2⟩
  replace hR1 := (hR1.below hb2).more hb2.size
  go_wp2_with fail
  have hT := Two.new w2 (.bool (neg (LA s))) (.slice A1 (digs (mag (LA s))).length c1) (.bool (neg (LA t))) (.slice A2 (digs (mag (LA t))).length c2)
  generalize (w2.alloc (.cells #[.bool (neg (LA s)), .slice A1 (digs (mag (LA s))).length c1] 46)).alloc (.cells #[.bool (neg (LA t)), .slice A2 (digs (mag (LA t))).length c2] 46) = W at hT ⊢
  have hr : Reads W W.heap.size .u8 A1 (digs (mag (LA s))) := (hR1.below hT.bel).more (by have := hT.size; omega)
  have hr' : Reads W W.heap.size .u8 A2 (digs (mag (LA t))) := (hR2.below hT.bel).more (by have := hT.size; omega)
  have hTs := hT.size
  clear hR1 hR2
  refine (isZero_any _ A2 _ c2 _).mono ?_
  rintro e w3 ⟨rfl, hb3⟩
  obtain ⟨k0, k1, k2⟩ := hT.below hb3
  have j0 := k0.cell0
  have j1 := k0.cell1
  have j2 := k1.cell0
  have j3 := k1.cell1
  have hs3 := hb3.size
  replace hr := (hr.below hb3).more hb3.size
  replace hr' := (hr'.below hb3).more hb3.size
  go_wp2_with fail
  refine (divNat_any A1 A2 _ _ _ _ c1 c2 _ rfl rfl hr hr' hc1 (by omega) h0).mono ?_
  rintro e w5 ⟨Aq, cq, Ar, cr, rfl, hcq, hcr, hRq, hRr, hb5⟩
  have hs5 := hb5.size
  have p0 := k0.below hb5 (by omega)
  have p1 := k1.below hb5 (by omega)
  have hb05 : Below w2.heap.size w2 w5 := k2.trans (hb5.mono (by omega))
  replace hr' := (hr'.below hb5).more hb5.size
  clear j0 j1 j2 j3 k0 k1 k2 hT hr hb3 hb5
  have j0 := p0.cell0
  have j1 := p0.cell1
  have j2 := p1.cell0
  have j3 := p1.cell1
  have l5 : w2.heap.size < w5.heap.size := by omega
  have l6 : w2.heap.size + 1 < w5.heap.size := by omega
  have heq : (neg (LA s) == neg (LA t)) = false := by cases h1 : neg (LA s) <;> cases h2 : neg (LA t) <;> rw [h1, h2] at hq <;> first | rfl | cases hq
  clear hq
  go_wp2_with fail
  have hT := Two.new w5 (.bool true) (.slice Aq (digs (mag (LA s) / mag (LA t))).length cq) (.bool (neg (LA s))) (.slice Ar (digs (mag (LA s) % mag (LA t))).length cr)
  generalize (w5.alloc (.cells #[.bool true, .slice Aq (digs (mag (LA s) / mag (LA t))).length cq] 46)).alloc (.cells #[.bool (neg (LA s)), .slice Ar (digs (mag (LA s) % mag (LA t))).length cr] 46) = V at hT ⊢
  have hVs := hT.size
  have q0 : BoxIs V w2.heap.size _ _ := p0.below hT.bel (by omega)
  have q1 : BoxIs V (w2.heap.size + 1) _ _ := p1.below hT.bel (by omega)
  have hbV : Below w2.heap.size w2 V := hb05.trans (hT.bel.mono (by omega))
  replace hRq := (hRq.below hT.bel).more (show w5.heap.size ≤ V.heap.size by omega)
  replace hRr := (hRr.below hT.bel).more (show w5.heap.size ≤ V.heap.size by omega)
  replace hr' := (hr'.below hT.bel).more (show w5.heap.size ≤ V.heap.size by omega)
  clear j0 j1 j2 j3 p0 p1 hb05
  have g0 := hT.b0.cell0
  have g1 := hT.b0.cell1
  have g2 := hT.b1.cell0
  have g3 := hT.b1.cell1
  go_wp2_with fail
  refine (isZero_any _ Ar _ cr _).mono ?_
  rintro e w6 ⟨rfl, hb6⟩
  have hs6 := hb6.size
  have r0 := hT.b0.below hb6 (by omega)
  have r1 := hT.b1.below hb6 (by omega)
  have hb06 := hbV.trans (hb6.mono (by omega))
  replace hRq := (hRq.below hb6).more hb6.size
  replace hRr := (hRr.below hb6).more hb6.size
  clear g0 g1 g2 g3
  have g0 := r0.cell0
  have g1 := r0.cell1
  have g2 := r1.cell0
  have g3 := r1.cell1
  go_wp2
  have hu : Reads w6.drew w6.drew.heap.size .u8 Aq (digs (mag (LA s) / mag (LA t))) := (hRq : Reads w6 w6.heap.size .u8 Aq (digs (mag (LA s) / mag (LA t))))
  have hu' : Reads w6.drew w6.drew.heap.size .u8 Ar (digs (mag (LA s) % mag (LA t))) := (hRr : Reads w6 w6.heap.size .u8 Ar (digs (mag (LA s) % mag (LA t))))
  have hlen1 : (digs (mag (LA s) / mag (LA t))).length ≤ 1000000000 := by omega
  have hlen2 : (digs (mag (LA s) % mag (LA t))).length ≤ 1000000000 := by omega
  have hlt0 : w5.heap.size < w6.heap.size := by omega
  have hlt1 : w5.heap.size + 1 < w6.heap.size := by omega
  go_region_held3 (fun W' => W'.cell? ⟨w5.heap.size, 0, none⟩ = some (.bool true) ∧ W'.cell? ⟨w5.heap.size, 1, none⟩ = some (.slice Aq (digs (mag (LA s) / mag (LA t))).length cq) ∧ W'.cell? ⟨w5.heap.size + 1, 0, none⟩ = some (.bool (neg (LA s))) ∧ W'.cell? ⟨w5.heap.size + 1, 1, none⟩ = some (.slice Ar (digs (mag (LA s) % mag (LA t))).length cr)) (go_keep)
    (first | (go_at_call 47; (with_reducible refine (text_any true Aq _ cq _ ?_ hu).mono ?_); (exact hlen1); rintro e w7 ⟨rfl, hb7⟩; have hb77 : Below w6.heap.size w6 w7 := (Below.refl _ w6).drew.trans hb7; have i0 := (r0.below hb77 hlt0).cell0; have i1 := (r0.below hb77 hlt0).cell1; have i2 := (r1.below hb77 hlt1).cell0; have i3 := (r1.below hb77 hlt1).cell1; have hu2 := (hu'.below hb7).more hb7.size) | (go_at_call 47; (with_reducible refine (text_any (neg (LA s)) Ar _ cr _ ?_ hu2).mono ?_); (exact hlen2); rintro e w8 ⟨rfl, hb8⟩; have hb88 : Below w6.heap.size w6 w8 := hb77.trans (hb8.mono hb77.size); have o0 := (r0.below hb88 hlt0).cell0; have o1 := (r0.below hb88 hlt0).cell1; have o2 := (r1.below hb88 hlt1).cell0; have o3 := (r1.below hb88 hlt1).cell1))
  go_wp2
  go_ret2
  exact ⟨by rw [hdq.out, hdr.out]; rfl, (hb1.trans (hb2.mono hb1.size)).trans ((hb06.trans (hb88.mono (by omega))).mono (Nat.le_trans hb1.size hb2.size))⟩

set_option maxHeartbeats 4000000 in
theorem divide_up (s t : ByteArray) (w : World) (hs : s.size ≤ 400000000) (ht : t.size ≤ 400000000) (h0 : mag (LA t) ≠ 0) (hq : (neg (LA s) != neg (LA t)) = true) (hrz : mag (LA s) % mag (LA t) ≠ 0) :
    Calls Tryd.prog 33 #[.string s, .string t] w (RetSS w (dquo (neg (LA s)) (mag (LA s)) (neg (LA t)) (mag (LA t))) (drem (neg (LA s)) (mag (LA s)) (neg (LA t)) (mag (LA t)))) := by
  have hl := magLen s
  have hl2 := magLen t
  have hz : (mag (LA t) == 0) = false := by rw [beq_eq_false_iff_ne]; exact h0
  have hdq : Hid (dquo (neg (LA s)) (mag (LA s)) (neg (LA t)) (mag (LA t)) = zval true (mag (LA s) / mag (LA t) + 1)) := by show _ = _; unfold dquo divUp; rw [hq]; rw [show (mag (LA s) % mag (LA t) != 0) = true from by simpa using hrz]; rfl
  have hdr : Hid (drem (neg (LA s)) (mag (LA s)) (neg (LA t)) (mag (LA t)) = zval (neg (LA t)) (mag (LA t) - mag (LA s) % mag (LA t))) := by show _ = _; unfold drem divUp; rw [hq]; rw [show (mag (LA s) % mag (LA t) != 0) = true from by simpa using hrz]; rfl
  have hlq : (digs (mag (LA s) / mag (LA t))).length ≤ (digs (mag (LA s))).length := digs_length_mono (Nat.div_le_self _ _)
  have hlr : (digs (mag (LA s) % mag (LA t))).length ≤ (digs (mag (LA s))).length := digs_length_mono (Nat.mod_le _ _)
  have hlt : mag (LA s) % mag (LA t) < mag (LA t) := Nat.mod_lt _ (Nat.pos_of_ne_zero h0)
  have hrz1 : (mag (LA s) % mag (LA t) == 0) = false := by rw [beq_eq_false_iff_ne]; exact hrz
  replace hrz := Lib.hid hrz
  go_enter Tryd.func33, Tryd.ntmps33
  go_wp2_with fail
  refine (parse_any s _ (by omega)).mono ?_
  rintro e w1 ⟨A1, c1, rfl, hc1, hR1, hb1⟩
  go_wp2_with fail
  refine (parse_any t _ (by omega)).mono ?_
  rintro e w2 ⟨A2, c2, rfl, hc2, hR2, hb2⟩
  replace hR1 := (hR1.below hb2).more hb2.size
  go_wp2_with fail
  have hT := Two.new w2 (.bool (neg (LA s))) (.slice A1 (digs (mag (LA s))).length c1) (.bool (neg (LA t))) (.slice A2 (digs (mag (LA t))).length c2)
  generalize (w2.alloc (.cells #[.bool (neg (LA s)), .slice A1 (digs (mag (LA s))).length c1] 46)).alloc (.cells #[.bool (neg (LA t)), .slice A2 (digs (mag (LA t))).length c2] 46) = W at hT ⊢
  have hr : Reads W W.heap.size .u8 A1 (digs (mag (LA s))) := (hR1.below hT.bel).more (by have := hT.size; omega)
  have hr' : Reads W W.heap.size .u8 A2 (digs (mag (LA t))) := (hR2.below hT.bel).more (by have := hT.size; omega)
  have hTs := hT.size
  clear hR1 hR2
  refine (isZero_any _ A2 _ c2 _).mono ?_
  rintro e w3 ⟨rfl, hb3⟩
  obtain ⟨k0, k1, k2⟩ := hT.below hb3
  have j0 := k0.cell0
  have j1 := k0.cell1
  have j2 := k1.cell0
  have j3 := k1.cell1
  have hs3 := hb3.size
  replace hr := (hr.below hb3).more hb3.size
  replace hr' := (hr'.below hb3).more hb3.size
  go_wp2_with fail
  refine (divNat_any A1 A2 _ _ _ _ c1 c2 _ rfl rfl hr hr' hc1 (by omega) h0).mono ?_
  rintro e w5 ⟨Aq, cq, Ar, cr, rfl, hcq, hcr, hRq, hRr, hb5⟩
  have hs5 := hb5.size
  have p0 := k0.below hb5 (by omega)
  have p1 := k1.below hb5 (by omega)
  have hb05 : Below w2.heap.size w2 w5 := k2.trans (hb5.mono (by omega))
  replace hr' := (hr'.below hb5).more hb5.size
  clear j0 j1 j2 j3 k0 k1 k2 hT hr hb3 hb5
  have j0 := p0.cell0
  have j1 := p0.cell1
  have j2 := p1.cell0
  have j3 := p1.cell1
  have l5 : w2.heap.size < w5.heap.size := by omega
  have l6 : w2.heap.size + 1 < w5.heap.size := by omega
  have heq : (neg (LA s) == neg (LA t)) = false := by cases h1 : neg (LA s) <;> cases h2 : neg (LA t) <;> rw [h1, h2] at hq <;> first | rfl | cases hq
  clear hq
  go_wp2_with fail
  have hT := Two.new w5 (.bool true) (.slice Aq (digs (mag (LA s) / mag (LA t))).length cq) (.bool (neg (LA s))) (.slice Ar (digs (mag (LA s) % mag (LA t))).length cr)
  generalize (w5.alloc (.cells #[.bool true, .slice Aq (digs (mag (LA s) / mag (LA t))).length cq] 46)).alloc (.cells #[.bool (neg (LA s)), .slice Ar (digs (mag (LA s) % mag (LA t))).length cr] 46) = V at hT ⊢
  have hVs := hT.size
  have q0 : BoxIs V w2.heap.size _ _ := p0.below hT.bel (by omega)
  have q1 : BoxIs V (w2.heap.size + 1) _ _ := p1.below hT.bel (by omega)
  have hbV : Below w2.heap.size w2 V := hb05.trans (hT.bel.mono (by omega))
  replace hRq := (hRq.below hT.bel).more (show w5.heap.size ≤ V.heap.size by omega)
  replace hRr := (hRr.below hT.bel).more (show w5.heap.size ≤ V.heap.size by omega)
  replace hr' := (hr'.below hT.bel).more (show w5.heap.size ≤ V.heap.size by omega)
  clear j0 j1 j2 j3 p0 p1 hb05
  have g0 := hT.b0.cell0
  have g1 := hT.b0.cell1
  have g2 := hT.b1.cell0
  have g3 := hT.b1.cell1
  go_wp2_with fail
  refine (isZero_any _ Ar _ cr _).mono ?_
  rintro e w6 ⟨rfl, hb6⟩
  have hs6 := hb6.size
  have r0 := hT.b0.below hb6 (by omega)
  have r1 := hT.b1.below hb6 (by omega)
  have t1 := q1.below hb6 (by omega)
  have hb06 := hbV.trans (hb6.mono (by omega))
  have hone : Reads (w6.alloc (.cells #[.int .u8 1] 5)) (w6.alloc (.cells #[.int .u8 1] 5)).heap.size .u8 (some ⟨w6.heap.size, 0, none⟩) (digs 1) := (Row.new w6 5 .u8 [1]).reads (by simp)
  have hsa : (w6.alloc (.cells #[.int .u8 1] 5)).heap.size = w6.heap.size + 1 := by simp
  replace hRq := (((hRq.below hb6).more hb6.size).alloc (Nat.le_refl _) (.cells #[.int .u8 1] 5)).more (show w6.heap.size ≤ (w6.alloc (.cells #[.int .u8 1] 5)).heap.size by omega)
  replace hRr := (((hRr.below hb6).more hb6.size).alloc (Nat.le_refl _) (.cells #[.int .u8 1] 5)).more (show w6.heap.size ≤ (w6.alloc (.cells #[.int .u8 1] 5)).heap.size by omega)
  replace hr' := (((hr'.below hb6).more hb6.size).alloc (Nat.le_refl _) (.cells #[.int .u8 1] 5)).more (show w6.heap.size ≤ (w6.alloc (.cells #[.int .u8 1] 5)).heap.size by omega)
  have hbA : Below w6.heap.size w6 (w6.alloc (.cells #[.int .u8 1] 5)) := (Below.refl _ _).alloc (Nat.le_refl _) _
  clear g0 g1 g2 g3
  have g0 := r0.cell0
  have g1 := r0.cell1
  replace hsa := Lib.hid hsa
  go_wp2_with fail
  refine (plus_same true Aq (some ⟨w6.heap.size, 0, none⟩) (mag (LA s) / mag (LA t)) 1 _ 1 cq 1 _ rfl rfl hRq hone (by omega) (by omega)).mono ?_
  rintro e w7 ⟨A3, c3, rfl, hc3, hR3, hb7⟩
  replace hsa := hsa.out
  have hs7 := hb7.size
  have hs67 : w6.heap.size + 1 ≤ w7.heap.size := by omega
  have v0 := (r0.below hbA (by omega)).below hb7 (by omega)
  have v1 := (r1.below hbA (by omega)).below hb7 (by omega)
  have v2 := (t1.below hbA (by omega)).below hb7 (by omega)
  replace hRr := (hRr.below hb7).more hb7.size
  replace hr' := (hr'.below hb7).more hb7.size
  have hb07 : Below w2.heap.size w2 w7 := (hb06.trans (hbA.mono (by omega))).trans (hb7.mono (by omega))
  clear g0 g1 hsa hb7 hbA hRq hone r0 r1 t1
  have u0 := v0.store (.bool true) (.slice A3 (digs (mag (LA s) / mag (LA t) + 1)).length c3)
  have u1 := (v1.far (p := ⟨w5.heap.size, 0, none⟩) (by simp) (.bool true)).far (p := ⟨w5.heap.size, 1, none⟩) (by simp) (.slice A3 (digs (mag (LA s) / mag (LA t) + 1)).length c3)
  have u2 := (v2.far (p := ⟨w5.heap.size, 0, none⟩) (by show _ ≠ w5.heap.size; omega) (.bool true)).far (p := ⟨w5.heap.size, 1, none⟩) (by show _ ≠ w5.heap.size; omega) (.slice A3 (digs (mag (LA s) / mag (LA t) + 1)).length c3)
  have y3 := hR3.store v0 rfl rfl (.bool true) (.slice A3 (digs (mag (LA s) / mag (LA t) + 1)).length c3)
  have yr := hRr.store v0 rfl rfl (.bool true) (.slice A3 (digs (mag (LA s) / mag (LA t) + 1)).length c3)
  have y' := hr'.store v0 rfl rfl (.bool true) (.slice A3 (digs (mag (LA s) / mag (LA t) + 1)).length c3)
  have hb08 : Below w2.heap.size w2 ((w7.setCell ⟨w5.heap.size, 0, none⟩ (.bool true)).setCell ⟨w5.heap.size, 1, none⟩ (.slice A3 (digs (mag (LA s) / mag (LA t) + 1)).length c3)) := (hb07.setCell (p := ⟨w5.heap.size, 0, none⟩) (by show _ ≤ w5.heap.size; omega) _).setCell (p := ⟨w5.heap.size, 1, none⟩) (by show _ ≤ w5.heap.size; omega) _
  have hsU : ((w7.setCell ⟨w5.heap.size, 0, none⟩ (.bool true)).setCell ⟨w5.heap.size, 1, none⟩ (.slice A3 (digs (mag (LA s) / mag (LA t) + 1)).length c3)).heap.size = w7.heap.size := by simp [World.setCell]
  have g0 := v0.cell0
  have g1 := v0.cell1
  have g2 := v1.cell0
  have g3 := v1.cell1
  have g4 := v2.cell0
  have g5 := v2.cell1
  have f0 := v0.frozen 0
  have f1 := v0.frozen 1
  have n3 : ¬ w5.heap.size = w2.heap.size + 1 := by omega
  replace hsU := Lib.hid hsU
  go_wp2_with fail
  generalize ((w7.setCell ⟨w5.heap.size, 0, none⟩ (.bool true)).setCell ⟨w5.heap.size, 1, none⟩ (.slice A3 (digs (mag (LA s) / mag (LA t) + 1)).length c3)) = U at *
  replace hsU := hsU.out
  refine (plus_lt (neg (LA s)) (neg (LA t)) Ar A2 _ _ _ _ cr c2 U heq rfl rfl (yr.more (by omega)) (y'.more (by omega)) (by omega) (by omega) hlt).mono ?_
  rintro e w8 ⟨A4, c4, rfl, hc4, hR4, hb8⟩
  have hs8 := hb8.size
  have x0 := u0.below hb8 (by omega)
  have x1 := u1.below hb8 (by omega)
  replace y3 := ((y3.more (show w7.heap.size ≤ U.heap.size by omega)).below hb8).more hb8.size
  have hb09 : Below w2.heap.size w2 w8 := hb08.trans (hb8.mono (by omega))
  have z0 := (x0.far (p := ⟨w5.heap.size + 1, 0, none⟩) (by simp) (.bool (neg (LA t)))).far (p := ⟨w5.heap.size + 1, 1, none⟩) (by simp) (.slice A4 (digs (mag (LA t) - mag (LA s) % mag (LA t))).length c4)
  have z1 := x1.store (.bool (neg (LA t))) (.slice A4 (digs (mag (LA t) - mag (LA s) % mag (LA t))).length c4)
  have m3 := y3.store x1 rfl rfl (.bool (neg (LA t))) (.slice A4 (digs (mag (LA t) - mag (LA s) % mag (LA t))).length c4)
  have m4 := hR4.store x1 rfl rfl (.bool (neg (LA t))) (.slice A4 (digs (mag (LA t) - mag (LA s) % mag (LA t))).length c4)
  have hb10 : Below w2.heap.size w2 ((w8.setCell ⟨w5.heap.size + 1, 0, none⟩ (.bool (neg (LA t)))).setCell ⟨w5.heap.size + 1, 1, none⟩ (.slice A4 (digs (mag (LA t) - mag (LA s) % mag (LA t))).length c4)) := (hb09.setCell (p := ⟨w5.heap.size + 1, 0, none⟩) (by show _ ≤ w5.heap.size + 1; omega) _).setCell (p := ⟨w5.heap.size + 1, 1, none⟩) (by show _ ≤ w5.heap.size + 1; omega) _
  have hsX : ((w8.setCell ⟨w5.heap.size + 1, 0, none⟩ (.bool (neg (LA t)))).setCell ⟨w5.heap.size + 1, 1, none⟩ (.slice A4 (digs (mag (LA t) - mag (LA s) % mag (LA t))).length c4)).heap.size = w8.heap.size := by simp [World.setCell]
  clear g0 g1 g2 g3 g4 g5 f0 f1 n3
  have g2 := x1.cell0
  have g3 := x1.cell1
  have f0 := x1.frozen 0
  have f1 := x1.frozen 1
  replace hsX := Lib.hid hsX
  go_wp2
  generalize ((w8.setCell ⟨w5.heap.size + 1, 0, none⟩ (.bool (neg (LA t)))).setCell ⟨w5.heap.size + 1, 1, none⟩ (.slice A4 (digs (mag (LA t) - mag (LA s) % mag (LA t))).length c4)) = X at *
  replace hsX := hsX.out
  replace m3 := m3.more (show w8.heap.size ≤ X.heap.size by omega)
  replace m4 := m4.more (show w8.heap.size ≤ X.heap.size by omega)
  have hle3 : (digs (mag (LA s) / mag (LA t) + 1)).length ≤ (digs (mag (LA s) / mag (LA t))).length + 1 := digs_succ_length _
  have hle4 : (digs (mag (LA t) - mag (LA s) % mag (LA t))).length ≤ (digs (mag (LA t))).length := digs_length_mono (Nat.sub_le _ _)
  clear g2 g3 f0 f1
  have g0 := z0.cell0
  have g1 := z0.cell1
  have g2 := z1.cell0
  have g3 := z1.cell1
  have hu : Reads X.drew X.drew.heap.size .u8 A3 (digs (mag (LA s) / mag (LA t) + 1)) := (m3 : Reads X X.heap.size .u8 A3 (digs (mag (LA s) / mag (LA t) + 1)))
  have hu' : Reads X.drew X.drew.heap.size .u8 A4 (digs (mag (LA t) - mag (LA s) % mag (LA t))) := (m4 : Reads X X.heap.size .u8 A4 (digs (mag (LA t) - mag (LA s) % mag (LA t))))
  have hlen1 : (digs (mag (LA s) / mag (LA t) + 1)).length ≤ 1000000000 := by omega
  have hlen2 : (digs (mag (LA t) - mag (LA s) % mag (LA t))).length ≤ 1000000000 := by omega
  have hlt0 : w5.heap.size < X.heap.size := by omega
  have hlt1 : w5.heap.size + 1 < X.heap.size := by omega
  go_region_held3 (fun W' => W'.cell? ⟨w5.heap.size, 0, none⟩ = some (.bool true) ∧ W'.cell? ⟨w5.heap.size, 1, none⟩ = some (.slice A3 (digs (mag (LA s) / mag (LA t) + 1)).length c3) ∧ W'.cell? ⟨w5.heap.size + 1, 0, none⟩ = some (.bool (neg (LA t))) ∧ W'.cell? ⟨w5.heap.size + 1, 1, none⟩ = some (.slice A4 (digs (mag (LA t) - mag (LA s) % mag (LA t))).length c4)) (go_keep)
    (first | (go_at_call 47; (with_reducible refine (text_any true A3 _ c3 _ ?_ hu).mono ?_); (exact hlen1); rintro e w7 ⟨rfl, hb7⟩; have hb77 : Below X.heap.size X w7 := (Below.refl _ X).drew.trans hb7; have i0 := (z0.below hb77 hlt0).cell0; have i1 := (z0.below hb77 hlt0).cell1; have i2 := (z1.below hb77 hlt1).cell0; have i3 := (z1.below hb77 hlt1).cell1; have hu2 := (hu'.below hb7).more hb7.size) | (go_at_call 47; (with_reducible refine (text_any (neg (LA t)) A4 _ c4 _ ?_ hu2).mono ?_); (exact hlen2); rintro e w8 ⟨rfl, hb8⟩; have hb88 : Below X.heap.size X w8 := hb77.trans (hb8.mono hb77.size); have o0 := (z0.below hb88 hlt0).cell0; have o1 := (z0.below hb88 hlt0).cell1; have o2 := (z1.below hb88 hlt1).cell0; have o3 := (z1.below hb88 hlt1).cell1))
  go_wp2
  go_ret2
  exact ⟨by rw [hdq.out, hdr.out]; rfl, (hb1.trans (hb2.mono hb1.size)).trans ((hb10.trans (hb88.mono (by omega))).mono (Nat.le_trans hb1.size hb2.size))⟩

theorem divide_any (s t : ByteArray) (w : World) (hs : s.size ≤ 400000000) (ht : t.size ≤ 400000000) (h0 : mag (LA t) ≠ 0) :
    Calls Tryd.prog 33 #[.string s, .string t] w (RetSS w (dquo (neg (LA s)) (mag (LA s)) (neg (LA t)) (mag (LA t))) (drem (neg (LA s)) (mag (LA s)) (neg (LA t)) (mag (LA t)))) := by
  cases hq : (neg (LA s) != neg (LA t)) with
  | false => exact divide_same s t w hs ht h0 hq
  | true =>
    by_cases hrz : mag (LA s) % mag (LA t) = 0
    · exact divide_exact s t w hs ht h0 hq hrz
    · exact divide_up s t w hs ht h0 hq hrz

end Go.Proofs.YtclniebhgfodfaaDoor
