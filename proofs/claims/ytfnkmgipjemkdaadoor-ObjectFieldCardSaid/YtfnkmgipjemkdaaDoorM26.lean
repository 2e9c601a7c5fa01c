/- number.Multiply. -/
import Derived.Test.YtfnkmgipjemkdaaDoorTop
namespace Go.Proofs.YtfnkmgipjemkdaaDoor
open Go Go.RowKit
set_option linter.unusedVariables false

/-- Two boxes, made one after the other. -/
structure Two (w W : World) (u v u' v' : Value) : Prop where
  b0 : BoxIs W w.heap.size u v
  b1 : BoxIs W (w.heap.size + 1) u' v'
  bel : Below w.heap.size w W
  size : W.heap.size = w.heap.size + 2
theorem Two.new (w : World) (u v u' v' : Value) : Two w ((w.alloc (.cells #[u, v] 59)).alloc (.cells #[u', v'] 59)) u v u' v' := by
  have s1 : (w.alloc (.cells #[u, v] 59)).heap.size = w.heap.size + 1 := by simp
  refine ⟨(BoxIs.new w u v).alloc _, ?_, ((Below.refl _ _).alloc (Nat.le_refl _) _).alloc (by simp) _, by simp⟩
  have h := BoxIs.new (w.alloc (.cells #[u, v] 59)) u' v'
  rw [s1] at h
  exact h
theorem Two.below {w W W' : World} {u v u' v' : Value} (h : Two w W u v u' v') (hb : Below W.heap.size W W') :
    BoxIs W' w.heap.size u v ∧ BoxIs W' (w.heap.size + 1) u' v' ∧ Below w.heap.size w W' := by
  have := h.size
  exact ⟨h.b0.below hb (by omega), h.b1.below hb (by omega), h.bel.trans (hb.mono (by omega))⟩

theorem mul_digits {n m k l : Nat} (hn : n < 10 ^ k) (hm : m < 10 ^ l) : (digs (n * m)).length ≤ k + l := by
  apply digs_length_le
  rw [Nat.pow_add]
  exact Nat.mul_lt_mul'' hn hm

set_option maxHeartbeats 2000000 in
set_option maxRecDepth 100000 in
theorem multiply_any (s t : ByteArray) (w : World) (hs : s.size ≤ 400000000) (ht : t.size ≤ 400000000) :
    Calls Tryd.prog 26 #[.string s, .string t] w (RetS w (val (LA s) * val (LA t))) := by
  have hl := magLen s
  have hl2 := magLen t
  have hml := mul_digits (mag_bd s) (mag_bd t)
  have hval := Lib.hid (zval_mul (neg (LA s)) (neg (LA t)) (mag (LA s)) (mag (LA t)))
  go_enter Tryd.func26, Tryd.ntmps26
  go_wp2_with fail
  refine (parse_any s _ (by omega)).mono ?_
  rintro e w1 ⟨A1, c1, rfl, hc1, hR1, hb1⟩
  go_wp2_with fail
  refine (parse_any t _ (by omega)).mono ?_
  rintro e w2 ⟨A2, c2, rfl, hc2, hR2, hb2⟩
  replace hR1 := (hR1.below hb2).more hb2.size
  go_wp2
  have hT := Two.new w2 (.bool (neg (LA s))) (.slice A1 (digs (mag (LA s))).length c1) (.bool (neg (LA t))) (.slice A2 (digs (mag (LA t))).length c2)
  generalize (w2.alloc (.cells #[.bool (neg (LA s)), .slice A1 (digs (mag (LA s))).length c1] 59)).alloc (.cells #[.bool (neg (LA t)), .slice A2 (digs (mag (LA t))).length c2] 59) = W at hT ⊢
  have hr : Reads W.drew W.drew.heap.size .u8 A1 (digs (mag (LA s))) := ((hR1.below hT.bel).more (by have := hT.size; omega) : Reads W W.heap.size .u8 A1 (digs (mag (LA s))))
  have hr' : Reads W.drew W.drew.heap.size .u8 A2 (digs (mag (LA t))) := ((hR2.below hT.bel).more (by have := hT.size; omega) : Reads W W.heap.size .u8 A2 (digs (mag (LA t))))
  have e0 := hT.b0.cell0
  have e1 := hT.b0.cell1
  have e2 := hT.b1.cell0
  have e3 := hT.b1.cell1
  clear hR1 hR2
  go_region_held3 (fun W' => W'.cell? ⟨w2.heap.size, 0, none⟩ = some (.bool (neg (LA s))) ∧ W'.cell? ⟨w2.heap.size, 1, none⟩ = some (.slice A1 (digs (mag (LA s))).length c1) ∧ W'.cell? ⟨w2.heap.size + 1, 0, none⟩ = some (.bool (neg (LA t))) ∧ W'.cell? ⟨w2.heap.size + 1, 1, none⟩ = some (.slice A2 (digs (mag (LA t))).length c2)) (go_keep)
    (first | (go_at_call 44; refine (mulNat_any A1 A2 _ _ _ _ c1 c2 _ rfl rfl hr hr' (by omega) (by omega)).mono ?_; rintro e w3 ⟨A3, c3, rfl, hc3, hR3, hb3⟩; obtain ⟨k0, k1, k2⟩ := hT.below ((Below.refl _ W).drew.trans hb3); have j0 := k0.cell0; have j1 := k0.cell1; have j2 := k1.cell0; have j3 := k1.cell1) | (go_at_call 39; refine (text_any _ A3 _ c3 _ (by omega) hR3).mono ?_; rintro e w4 ⟨rfl, hb4⟩; obtain ⟨m0, m1, m2⟩ := hT.below (((Below.refl _ W).drew.trans hb3).trans (hb4.mono (by have := hb3.size; simpa using this))); have i0 := m0.cell0; have i1 := m0.cell1; have i2 := m1.cell0; have i3 := m1.cell1))
  go_wp2
  go_ret
  exact ⟨by rw [val_eq, val_eq, ← hval.out]; rfl, (hb1.trans (hb2.mono hb1.size)).trans (m2.mono (Nat.le_trans hb1.size hb2.size))⟩

end Go.Proofs.YtfnkmgipjemkdaaDoor

/- number.Divide: a divisor of 0. -/
namespace Go.Proofs.YtfnkmgipjemkdaaDoor
open Go Go.RowKit
set_option linter.unusedVariables false

/-- The call returned the texts of x and y. -/
def RetSS (w : World) (x y : Int) (e : Ending) (w' : World) : Prop := e = .returned (.tuple #[.string (BA (text x)), .string (BA (text y))]) ∧ Below w.heap.size w w'

/-- The quotient and the remainder of two numbers with signs, rounded down. -/
def divUp (b : Bool) (n : Nat) (b' : Bool) (m : Nat) : Bool := (b != b') && (n % m != 0)
def dquo (b : Bool) (n : Nat) (b' : Bool) (m : Nat) : Int := if divUp b n b' m then -((n / m + 1 : Nat) : Int) else zval (b != b') (n / m)
def drem (b : Bool) (n : Nat) (b' : Bool) (m : Nat) : Int := if divUp b n b' m then zval b' (m - n % m) else zval b (n % m)

theorem BoxIs.store {w : World} {g : Nat} {x y : Value} (h : BoxIs w g x y) (u v : Value) : BoxIs ((w.setCell ⟨g, 0, none⟩ u).setCell ⟨g, 1, none⟩ v) g u v := by
  unfold BoxIs at *
  simp [World.setCell, Array.getElem?_modify, h]
theorem Reads.store {w : World} {B g : Nat} {k : IntKind} {A : Option Addr} {xs : List Nat} {x y : Value} (h : Reads w B k A xs) (hb : BoxIs w g x y) (hx : notInt x = true) (hy : notInt y = true) (u v : Value) : Reads ((w.setCell ⟨g, 0, none⟩ u).setCell ⟨g, 1, none⟩ v) B k A xs := by
  have h1 := h.setOther hb.cell0 hx u
  refine h1.setOther (u := y) ?_ hy v
  rw [World.cell?_setCell_other _ _ _ _ (by simp)]
  exact hb.cell1
theorem digs_succ_length (n : Nat) : (digs (n + 1)).length ≤ (digs n).length + 1 := by
  apply digs_length_le
  have := lt_pow_digs n
  rw [Nat.pow_succ]
  have h1 : 0 < 10 ^ (digs n).length := Nat.pow_pos (by decide)
  omega
theorem BoxIs.far {w : World} {g : Nat} {x y : Value} (h : BoxIs w g x y) {p : Addr} (hp : g ≠ p.block) (u : Value) : BoxIs (w.setCell p u) g x y := (Below.heap_setCell w p u g hp).trans h

end Go.Proofs.YtfnkmgipjemkdaaDoor
