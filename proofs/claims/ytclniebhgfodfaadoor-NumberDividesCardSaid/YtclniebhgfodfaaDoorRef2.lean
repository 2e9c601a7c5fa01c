/- The reference's plus and minus. -/
import Derived.Test.YtclniebhgfodfaaDoorRef1
namespace Go.Proofs.YtclniebhgfodfaaDoor
open Go Go.RowKit
set_option linter.unusedVariables false

/-- The first k columns of a + b are written; q is carried. -/
def PInv (a b zs : List Nat) (k : Nat) (q : Int) : Prop :=
  AllDig zs ∧ zs.length = k ∧ ((ofD zs : Nat) : Int) + ((10 ^ k : Nat) : Int) * q = ((ofD (a.take k) + ofD (b.take k) : Nat) : Int)
theorem PInv.start (a b : List Nat) : PInv a b [] 0 0 := ⟨(fun _ h => by cases h), rfl, by simp [ofD]⟩
theorem PInv.step {a b zs : List Nat} {k : Nat} {q : Int} (h : PInv a b zs k q) (h0 : 0 ≤ q) (x y : Int) (hx : x = dg a k) (hy : y = dg b k) :
    PInv a b (zs ++ [((q + x + y) % 10).toNat]) (k + 1) ((q + x + y) / 10) := by
  subst hx hy
  obtain ⟨h1, h2, h3⟩ := h
  have e : ((((q + dg a k + dg b k) % 10).toNat : Nat) : Int) = (q + dg a k + dg b k) % 10 := Int.toNat_of_nonneg (Int.emod_nonneg _ (by decide))
  have hd : ((q + dg a k + dg b k) % 10).toNat < 10 := by have := Int.emod_lt_of_pos (q + dg a k + dg b k) (show (0 : Int) < 10 by decide); omega
  refine ⟨h1.append (AllDig.one hd), by simp [h2], ?_⟩
  rw [ofD_append, h2, ofD_take_succ a, ofD_take_succ b]
  simp only [ofD, Nat.mul_zero, Nat.add_zero, Int.natCast_add, Int.natCast_mul, Nat.pow_succ] at h3 ⊢
  rw [e]
  exact add_column (x := dg a k) (y := dg b k) h3 (by omega)
theorem PInv.done {a b zs : List Nat} {k : Nat} {q : Int} (h : PInv a b zs k q) (ha : a.length ≤ k) (hb : b.length ≤ k) (hq : q = 0) : AllDig zs ∧ ofD zs = ofD a + ofD b := by
  subst hq
  obtain ⟨h1, h2, h3⟩ := h
  rw [List.take_of_length_le ha, List.take_of_length_le hb] at h3
  exact ⟨h1, by omega⟩

/-- The first k columns of a - b are written; q is borrowed. -/
def MInv (a b zs : List Nat) (k : Nat) (q : Int) : Prop :=
  AllDig zs ∧ zs.length = k ∧ ((ofD zs : Nat) : Int) + ((ofD (b.take k) : Nat) : Int) = ((ofD (a.take k) : Nat) : Int) + ((10 ^ k : Nat) : Int) * q
theorem MInv.start (a b : List Nat) : MInv a b [] 0 0 := ⟨(fun _ h => by cases h), rfl, by simp [ofD]⟩
theorem MInv.step {a b zs : List Nat} {k : Nat} {q q' z : Int} (h : MInv a b zs k q) (h0 : 0 ≤ z) (h1 : z < 10) (x y : Int) (hx : x = dg a k) (hy : y = dg b k) (hz : z = x - q - y + 10 * q') :
    MInv a b (zs ++ [z.toNat]) (k + 1) q' := by
  subst hx hy
  obtain ⟨g1, g2, g3⟩ := h
  have e : ((z.toNat : Nat) : Int) = z := Int.toNat_of_nonneg h0
  refine ⟨g1.append (AllDig.one (by omega)), by simp [g2], ?_⟩
  rw [ofD_append, g2, ofD_take_succ a, ofD_take_succ b]
  simp only [ofD, Nat.mul_zero, Nat.add_zero, Int.natCast_add, Int.natCast_mul, Nat.pow_succ] at g3 ⊢
  rw [e, hz]
  have ea : ((a.getD k 0 : Nat) : Int) = dg a k := rfl
  have eb : ((b.getD k 0 : Nat) : Int) = dg b k := rfl
  rw [ea, eb, Int.mul_assoc]
  simp only [Int.mul_add, Int.mul_sub]
  have e3 : ((10 ^ k : Nat) : Int) * (((10 : Nat) : Int) * q') = ((10 ^ k : Nat) : Int) * (10 * q') := rfl
  rw [e3]
  omega
theorem MInv.done {a b zs : List Nat} {k : Nat} {q : Int} (h : MInv a b zs k q) (ha : a.length = k) (hb : b.length ≤ k) (h0 : 0 ≤ q) (h1 : q ≤ 1) (hle : ofD b ≤ ofD a) : AllDig zs ∧ zs.length = k ∧ ofD zs = ofD a - ofD b := by
  obtain ⟨g1, g2, g3⟩ := h
  rw [List.take_of_length_le (l := a) (by omega), List.take_of_length_le hb] at g3
  have := ofD_lt g1
  rw [g2] at this
  rcases (show q = 0 ∨ q = 1 by omega) with e | e
  · subst e; exact ⟨g1, g2, by omega⟩
  · subst e; omega

theorem one_cells1 (k : IntKind) (x : Int) : ∀ u ∈ [Value.int k x], u.oneCell' = true := by
  intro u hu
  rw [List.mem_singleton] at hu
  subst hu
  rfl

/-- A row of the call's own, as the append's law left it. -/
theorem own_next {w w1 : World} {B n : Nat} {v v1 : Value} {xs : List Nat} {x : Int} (h : w1.ownsRow B 3 1 v1 (n + 1) (ci xs ++ [.int .i64 x])) (hn : xs.length = n) (hx : 0 ≤ x) : Own w1 B v1 (xs ++ [x.toNat]) :=
  Own.snoc h hn (Int.toNat_of_nonneg hx).symm
theorem below_next {w wr w1 : World} {B : Nat} {o : Obj} {v : Value} {n : Nat} {xs : List Value} (hb : Below B w wr) (hB : B ≤ wr.heap.size) (hown : wr.ownsRow B 3 1 v n xs) (hg : (wr.alloc o).grownBy w1 v.ownBlock) : Below B w w1 :=
  (hb.alloc hB o).grown hg (by simp; omega) (fun k hk => (hown.lt k hk).1)

theorem Own.row {w : World} {B : Nat} {v : Value} {xs : List Nat} (h : Own w B v xs) : w.ownsRow B 3 1 v xs.length (ci xs) := h

set_option maxHeartbeats 2000000 in
theorem plusR (A A' : Option Addr) (n m a b c d : Nat) (w : World) (ha : LenIs n a) (hb : LenIs m b) (h : Reads w w.heap.size .i64 A (digs n)) (h' : Reads w w.heap.size .i64 A' (digs m)) (h9 : a ≤ 1000000000) (h9' : b ≤ 1000000000) :
    Calls Tryd.prog 50 #[.slice A a c, .slice A' b d] w (RetL w (a + b + 1) (n + m)) := by
  obtain ⟨i0, hi, hz0, hz1, hz2⟩ := info_parts infoI
  replace hi := Lib.hid hi
  replace hz0 := Lib.hid hz0
  replace hz1 := Lib.hid hz1
  replace hz2 := Lib.hid hz2
  obtain ⟨M, hM1, hM2, hM3⟩ : ∃ M : Nat, a ≤ M ∧ b ≤ M ∧ M ≤ a + b := ⟨a + b, by omega, by omega, by omega⟩
  go_enter Tryd.func50, Tryd.ntmps50
  go_wp2
  go_loopw [5, 6, 7] (fun u5 u6 u7 wr => ∃ (k : Nat) (q : Int) (zs : List Nat), u7 = .int .i64 k ∧ u6 = .int .i64 q ∧ 0 ≤ q ∧ q ≤ 1 ∧ (k : Int) + q ≤ M + 1 ∧ Hid (PInv (digs n) (digs m) zs k q) ∧ Hid (Own wr w.heap.size u5 zs) ∧ Hid (Below w.heap.size w wr)) (fun _ _ u7 _ => M + 1 - (intOf u7).toNat)
  case atStart => exact ⟨0, 0, [], rfl, rfl, by omega, by omega, by omega, PInv.start _ _, Own.nil_ _ _, Below.refl _ _⟩
  case round =>
    obtain ⟨k, q, zs, rfl, rfl, hq0, hq1, hkM, hinv, hown, hbel⟩ := hrel
    have x0 := dg_nonneg (digs n) k
    have x1 := dg_lt (allDig_digs n) k
    have y0 := dg_nonneg (digs m) k
    have y1 := dg_lt (allDig_digs m) k
    have hBs : w.heap.size ≤ wr.heap.size := hbel.out.size
    have hzl : Hid (zs.length = k) := hinv.out.2.1
    by_cases hka : k < a
    · obtain ⟨b1, o1, rfl, hB1, hcell1⟩ := (h.below hbel.out) (by unfold LenIs at ha; omega)
      replace hcell1 := hcell1 k (by unfold LenIs at ha; omega)
      have d1 : decide (k < a) = true := by simpa using hka
      by_cases hkb : k < b
      · obtain ⟨b2, o2, rfl, hB2, hcell2⟩ := (h'.below hbel.out) (by unfold LenIs at hb; omega)
        replace hcell2 := hcell2 k (by unfold LenIs at hb; omega)
        have d2 : decide (k < b) = true := by simpa using hkb
        have n0 : 0 ≤ (q + dg (digs n) k + dg (digs m) k) / 10 := by omega
        have n1 : (q + dg (digs n) k + dg (digs m) k) / 10 ≤ 1 := by omega
        have m0 : 0 ≤ (q + dg (digs n) k + dg (digs m) k) % 10 := by omega
        have hstep := Lib.hid (hinv.out.step hq0 (dg (digs n) k) (dg (digs m) k) (rfl) (rfl))
        rw [show q + (dg (digs n) k) + (dg (digs m) k) = q + dg (digs n) k + dg (digs m) k from by omega] at hstep
        have hnew := Lib.hid (cell_one_new wr (.int .i64 ((q + dg (digs n) k + dg (digs m) k) % 10)) 3)
        go_wp2_with (at_builtin; refine wpList_append_own _ rfl (.tmp 46) (.tmp 49) 40 rfl w.heap.size 3 i0 (.int .i64 0) 1 8 Tryd.underlying40 hi.out hz0.out hz1.out hz2.out rfl (by decide) u5 zs.length (ci zs) rfl ((Own.row hown.out).alloc _) ⟨wr.heap.size, 0, none⟩ 1 1 [.int .i64 ((q + dg (digs n) k + dg (digs m) k) % 10)] rfl rfl hnew.out (one_cells1 _ _) ?c2 ?c3 ?c4 ?_)
        case c2 => have := hzl.out; unfold maxLen; omega
        case c3 => have := hzl.out; omega
        case c4 => simp; omega
        intro v1 w1 hown1 hg1 _
        have hown2 := Lib.hid (own_next (v := u5) (w := wr) hown1 rfl m0)
        have hbel2 := Lib.hid (below_next hbel.out hBs hown.out hg1)
        clear hown1 hg1 hown hbel hnew
        go_wp2
        go_roundw
        case rel => exact ⟨k + 1, _, _, by go_num, rfl, n0, n1, by omega, hstep, hown2, hbel2⟩
        case measure => simp [intOf]; omega
      · have d2 : decide (k < b) = false := by simpa using hkb
        have z2 : Hid (dg (digs m) k = 0) := dg_out (by unfold LenIs at hb; omega)
        have n0 : 0 ≤ (q + dg (digs n) k) / 10 := by omega
        have n1 : (q + dg (digs n) k) / 10 ≤ 1 := by omega
        have m0 : 0 ≤ (q + dg (digs n) k) % 10 := by omega
        have hstep := Lib.hid (hinv.out.step hq0 (dg (digs n) k) (0) (rfl) (z2.out.symm))
        rw [show q + (dg (digs n) k) + (0) = q + dg (digs n) k from by omega] at hstep
        have hnew := Lib.hid (cell_one_new wr (.int .i64 ((q + dg (digs n) k) % 10)) 3)
        go_wp2_with (at_builtin; refine wpList_append_own _ rfl (.tmp 46) (.tmp 49) 40 rfl w.heap.size 3 i0 (.int .i64 0) 1 8 Tryd.underlying40 hi.out hz0.out hz1.out hz2.out rfl (by decide) u5 zs.length (ci zs) rfl ((Own.row hown.out).alloc _) ⟨wr.heap.size, 0, none⟩ 1 1 [.int .i64 ((q + dg (digs n) k) % 10)] rfl rfl hnew.out (one_cells1 _ _) ?c2 ?c3 ?c4 ?_)
        case c2 => have := hzl.out; unfold maxLen; omega
        case c3 => have := hzl.out; omega
        case c4 => simp; omega
        intro v1 w1 hown1 hg1 _
        have hown2 := Lib.hid (own_next (v := u5) (w := wr) hown1 rfl m0)
        have hbel2 := Lib.hid (below_next hbel.out hBs hown.out hg1)
        clear hown1 hg1 hown hbel hnew
        go_wp2
        go_roundw
        case rel => exact ⟨k + 1, _, _, by go_num, rfl, n0, n1, by omega, hstep, hown2, hbel2⟩
        case measure => simp [intOf]; omega
    · have d1 : decide (k < a) = false := by simpa using hka
      have z1 : Hid (dg (digs n) k = 0) := dg_out (by unfold LenIs at ha; omega)
      by_cases hkb : k < b
      · obtain ⟨b2, o2, rfl, hB2, hcell2⟩ := (h'.below hbel.out) (by unfold LenIs at hb; omega)
        replace hcell2 := hcell2 k (by unfold LenIs at hb; omega)
        have d2 : decide (k < b) = true := by simpa using hkb
        have n0 : 0 ≤ (q + dg (digs m) k) / 10 := by omega
        have n1 : (q + dg (digs m) k) / 10 ≤ 1 := by omega
        have m0 : 0 ≤ (q + dg (digs m) k) % 10 := by omega
        have hstep := Lib.hid (hinv.out.step hq0 (0) (dg (digs m) k) (z1.out.symm) (rfl))
        rw [show q + (0) + (dg (digs m) k) = q + dg (digs m) k from by omega] at hstep
        have hnew := Lib.hid (cell_one_new wr (.int .i64 ((q + dg (digs m) k) % 10)) 3)
        go_wp2_with (at_builtin; refine wpList_append_own _ rfl (.tmp 46) (.tmp 49) 40 rfl w.heap.size 3 i0 (.int .i64 0) 1 8 Tryd.underlying40 hi.out hz0.out hz1.out hz2.out rfl (by decide) u5 zs.length (ci zs) rfl ((Own.row hown.out).alloc _) ⟨wr.heap.size, 0, none⟩ 1 1 [.int .i64 ((q + dg (digs m) k) % 10)] rfl rfl hnew.out (one_cells1 _ _) ?c2 ?c3 ?c4 ?_)
        case c2 => have := hzl.out; unfold maxLen; omega
        case c3 => have := hzl.out; omega
        case c4 => simp; omega
        intro v1 w1 hown1 hg1 _
        have hown2 := Lib.hid (own_next (v := u5) (w := wr) hown1 rfl m0)
        have hbel2 := Lib.hid (below_next hbel.out hBs hown.out hg1)
        clear hown1 hg1 hown hbel hnew
        go_wp2
        go_roundw
        case rel => exact ⟨k + 1, _, _, by go_num, rfl, n0, n1, by omega, hstep, hown2, hbel2⟩
        case measure => simp [intOf]; omega
      · have d2 : decide (k < b) = false := by simpa using hkb
        have z2 : Hid (dg (digs m) k = 0) := dg_out (by unfold LenIs at hb; omega)
        rcases (show q = 0 ∨ q = 1 by omega) with rfl | rfl
        · have hfin := Lib.hid (hinv.out.done (by unfold LenIs at ha; omega) (by unfold LenIs at hb; omega) rfl)
          rw [ofD_digs, ofD_digs] at hfin
          obtain ⟨A2, c2, rfl, hc2, hR2⟩ := hown.out.form
          replace hR2 := Lib.hid hR2
          go_wp2
          go_ret
          exact ⟨A2, c2, zs, rfl, hc2, by have := hzl.out; omega, hfin.out.1, hfin.out.2, hR2.out, hbel.out⟩
        · have hstep := Lib.hid (hinv.out.step hq0 0 0 z1.out.symm z2.out.symm)
          have hnew := Lib.hid (cell_one_new wr (.int .i64 1) 3)
          go_wp2_with (at_builtin; refine wpList_append_own _ rfl (.tmp 46) (.tmp 49) 40 rfl w.heap.size 3 i0 (.int .i64 0) 1 8 Tryd.underlying40 hi.out hz0.out hz1.out hz2.out rfl (by decide) u5 zs.length (ci zs) rfl ((Own.row hown.out).alloc _) ⟨wr.heap.size, 0, none⟩ 1 1 [.int .i64 1] rfl rfl hnew.out (one_cells1 _ _) ?c2 ?c3 ?c4 ?_)
          case c2 => have := hzl.out; unfold maxLen; omega
          case c3 => have := hzl.out; omega
          case c4 => simp; omega
          intro v1 w1 hown1 hg1 _
          have hown2 := Lib.hid (Own.snoc (d := 1) hown1 rfl rfl)
          have hbel2 := Lib.hid (below_next hbel.out hBs hown.out hg1)
          clear hown1 hg1 hown hbel hnew
          go_wp2
          go_roundw
          case rel => exact ⟨k + 1, 0, zs ++ [1], by go_num, rfl, by omega, by omega, by omega, hstep, hown2, hbel2⟩
          case measure => simp [intOf]; omega

end Go.Proofs.YtclniebhgfodfaaDoor
