import Derived.Test.YtocbedijpomemaaGreatDoorAl
import Derived.Test.YtocbedijpomemaaGreatDoorG6
import Derived.Test.YtocbedijpomemaaGreatDoorG5
import Derived.Deep.RegionHeld3
import Derived.Test.YtocbedijpomemaaGreatDoorG4
import Derived.Deep.QuietTactic
import Derived.BigQuiet
namespace Go.Proofs.YtocbedijpomemaaGreatDoor
open Go Go.RowKit
set_option linter.unusedVariables false
set_option maxHeartbeats 32000000
set_option maxRecDepth 100000
def notInt : Value → Bool
 | .int _ _ => false
 | _ => true
theorem Reads.setOther {w : World} {B : Nat} {k : IntKind} {A : Option Addr} {xs : List Nat} (h : Reads w B k A xs) {p : Addr} {u : Value} (hp : w.cell? p = some u) (hu : notInt u = true) (v : Value) : Reads (w.setCell p v) B k A xs := fun hn => by
 obtain ⟨b, o, e, hb, hc⟩ := h hn
 refine ⟨b, o, e, hb, fun j hj => ?_⟩
 have hcj := hc j hj
 have hne : p ≠ ⟨b, o + j, none⟩ := by
  rintro rfl
  rw [hcj] at hp
  injection hp with hp
  subst hp
  simp [notInt] at hu
 rw [World.cell?_setCell_other _ _ _ _ hne]
 exact hcj

theorem retZ_of {w w2 : World} {g : Nat} {b : Bool} {n c : Nat} {A : Option Addr} (hg : w.heap.size ≤ g) (hbox : BoxIs w2 g (.bool false) (.slice none 0 0)) (hc : (digs n).length ≤ c) (hR : Reads w2 w2.heap.size .u8 A (digs n)) (hb : Below w.heap.size w w2) :
 RetZ w b n (.returned (.agg #[.bool b, .slice A (digs n).length c])) ((w2.setCell ⟨g, 0, none⟩ (.bool b)).setCell ⟨g, 1, none⟩ (.slice A (digs n).length c)) := by
 refine ⟨A, c, rfl, hc, ?_, (hb.setCell (p := ⟨g, 0, none⟩) hg _).setCell (p := ⟨g, 1, none⟩) hg _⟩
 have h1 := hR.setOther hbox.cell0 rfl (.bool b)
 have h2 : (w2.setCell ⟨g, 0, none⟩ (.bool b)).cell? ⟨g, 1, none⟩ = some (.slice none 0 0) := by
  rw [World.cell?_setCell_other _ _ _ _ (by simp)]
  exact hbox.cell1
 have h3 := h1.setOther h2 rfl (.slice A (digs n).length c)
 have e : ((w2.setCell ⟨g, 0, none⟩ (.bool b)).setCell ⟨g, 1, none⟩ (.slice A (digs n).length c)).heap.size = w2.heap.size := by simp [World.setCell]
 rw [e]
 exact h3
theorem BoxIs.res0 {w : World} {g : Nat} {x y : Value} (h : BoxIs w g x y) (u v : Value) : (w.setCell ⟨g, 0, none⟩ u).cell? ⟨g, 0, none⟩ = some u ∧ ((w.setCell ⟨g, 0, none⟩ u).setCell ⟨g, 1, none⟩ v).cell? ⟨g, 1, none⟩ = some v :=
 ⟨Box.set0 ⟨x, y, h⟩ u, Box.set1 ⟨x, y, h⟩ u v⟩
structure Boxes (w W : World) (u v u' v' : Value) : Prop where
 b0 : BoxIs W w.heap.size u v
 b1 : BoxIs W (w.heap.size + 1) u' v'
 b2 : BoxIs W (w.heap.size + 2) (.bool false) (.slice none 0 0)
 bel : Below w.heap.size w W
 size : W.heap.size = w.heap.size + 3
theorem Boxes.new (w : World) (u v u' v' : Value) : Boxes w (((w.alloc (.cells #[u, v] 97)).alloc (.cells #[u', v'] 97)).alloc (.cells #[.bool false, .slice none 0 0] 97)) u v u' v' := by
 have s1 : (w.alloc (.cells #[u, v] 97)).heap.size = w.heap.size + 1 := by simp
 have s2 : ((w.alloc (.cells #[u, v] 97)).alloc (.cells #[u', v'] 97)).heap.size = w.heap.size + 2 := by simp
 refine ⟨((BoxIs.new w u v).alloc _).alloc _, ?_, ?_, (((Below.refl _ _).alloc (Nat.le_refl _) _).alloc (by simp) _).alloc (by simp; omega) _, by simp⟩
 · have h := (BoxIs.new (w.alloc (.cells #[u, v] 97)) u' v').alloc (.cells #[.bool false, .slice none 0 0] 97)
   rw [s1] at h
   exact h
 · have h := BoxIs.new ((w.alloc (.cells #[u, v] 97)).alloc (.cells #[u', v'] 97)) (.bool false) (.slice none 0 0)
   rw [s2] at h
   exact h
theorem BoxIs.frozen {w : World} {g : Nat} {u v : Value} (h : BoxIs w g u v) (j : Nat) : w.frozen? ⟨g, j, none⟩ = false := Box.frozen ⟨u, v, h⟩ j
def Held (w : World) (u v u' v' : Value) (W : World) : Prop :=
 W.cell? ⟨w.heap.size, 0, none⟩ = some u ∧ W.cell? ⟨w.heap.size, 1, none⟩ = some v ∧ W.cell? ⟨w.heap.size + 1, 0, none⟩ = some u' ∧ W.cell? ⟨w.heap.size + 1, 1, none⟩ = some v'
theorem Boxes.held {w W : World} {u v u' v' : Value} (h : Boxes w W u v u' v') : Held w u v u' v' W := ⟨h.b0.cell0, h.b0.cell1, h.b1.cell0, h.b1.cell1⟩
theorem Boxes.below {w W W' : World} {u v u' v' : Value} (h : Boxes w W u v u' v') (hb : Below W.heap.size W W') :
 BoxIs W' w.heap.size u v ∧ BoxIs W' (w.heap.size + 1) u' v' ∧ BoxIs W' (w.heap.size + 2) (.bool false) (.slice none 0 0) ∧ Below w.heap.size w W' := by
 have := h.size
 exact ⟨h.b0.below hb (by omega), h.b1.below hb (by omega), h.b2.below hb (by omega), h.bel.trans (hb.mono (by omega))⟩
def zsign (b1 : Bool) (n : Nat) (b2 : Bool) (m : Nat) : Bool := if b1 = b2 then b1 else if n < m then b2 else b1
def zmag (b1 : Bool) (n : Nat) (b2 : Bool) (m : Nat) : Nat := if b1 = b2 then n + m else if n < m then m - n else n - m

theorem plus_same (b : Bool) (A A' : Option Addr) (n m la lb c d : Nat) (w : World) (ha : LenIs n la) (hb : LenIs m lb) (h : Reads w w.heap.size .u8 A (digs n)) (h' : Reads w w.heap.size .u8 A' (digs m)) (h9 : la ≤ 1000000000) (h9' : lb ≤ 1000000000) :
 Calls Tryz.prog 112 #[.agg #[.bool b, .slice A la c], .agg #[.bool b, .slice A' lb d]] w (RetZ w b (n + m)) := by
 have hbb : (b == b) = true := by simp
 go_enter Tryz.func112, Tryz.ntmps112
 go_wp2
 have hB := Boxes.new w (.bool b) (.slice A la c) (.bool b) (.slice A' lb d)
 generalize ((w.alloc (.cells #[.bool b, .slice A la c] 97)).alloc (.cells #[.bool b, .slice A' lb d] 97)).alloc (.cells #[.bool false, .slice none 0 0] 97) = W at hB ⊢
 have hr : Reads W.drew W.drew.heap.size .u8 A (digs n) := ((h.below hB.bel).more (by have := hB.size; omega) : Reads W W.heap.size .u8 A (digs n))
 have hr' : Reads W.drew W.drew.heap.size .u8 A' (digs m) := ((h'.below hB.bel).more (by have := hB.size; omega) : Reads W W.heap.size .u8 A' (digs m))
 have n1 : ¬ w.heap.size + 1 + 1 = w.heap.size := by omega
 have n2 : ¬ w.heap.size + 1 + 1 = w.heap.size + 1 := by omega
 have e0 := hB.b0.cell0
 have e1 := hB.b0.cell1
 have e2 := hB.b1.cell0
 have e3 := hB.b1.cell1
 go_region_held3 (fun W' => W'.cell? ⟨w.heap.size, 0, none⟩ = some (.bool b) ∧ W'.cell? ⟨w.heap.size, 1, none⟩ = some (.slice A la c) ∧ W'.cell? ⟨w.heap.size + 1, 1, none⟩ = some (.slice A' lb d)) (go_keep)
  (first | (go_at_call 137; refine (addNat_any A A' n m la lb c d _ ha hb hr hr' h9 h9').mono ?_; rintro e w2 ⟨A2, c2, rfl, hc2, hR2, hb2⟩; obtain ⟨k0, k1, k2, k3⟩ := hB.below ((Below.refl _ W).drew.trans hb2); have j0 := k0.cell0; have j1 := k0.cell1; have j2 := k1.cell1; have j3 := k2.cell0; have j4 := k2.cell1; have j5 := k2.frozen 0; have j6 := k2.frozen 1))
 go_wp2
 refine bodyPost_ret (v := .agg #[.bool b, .slice A2 (digs (n + m)).length c2]) ?_ rfl ?_
 · have r := k2.res0 (.bool b) (.slice A2 (digs (n + m)).length c2)
   obtain ⟨r0, r1⟩ := r
   simp [results, Tryz.results112, go_sem, r0, r1]
 · exact retZ_of (by omega) k2 hc2 hR2 k3

theorem plus_lt (b b' : Bool) (A A' : Option Addr) (n m la lb c d : Nat) (w : World) (hbb : (b == b') = false) (ha : LenIs n la) (hb : LenIs m lb) (h : Reads w w.heap.size .u8 A (digs n)) (h' : Reads w w.heap.size .u8 A' (digs m)) (h9 : la ≤ 1000000000) (h9' : lb ≤ 1000000000) (hnm : n < m) :
 Calls Tryz.prog 112 #[.agg #[.bool b, .slice A la c], .agg #[.bool b', .slice A' lb d]] w (RetZ w b' (m - n)) := by
 have ho : ordN n m = -1 := ordN_lt hnm
 go_enter Tryz.func112, Tryz.ntmps112
 go_wp2_with fail
 have hB := Boxes.new w (.bool b) (.slice A la c) (.bool b') (.slice A' lb d)
 generalize ((w.alloc (.cells #[.bool b, .slice A la c] 97)).alloc (.cells #[.bool b', .slice A' lb d] 97)).alloc (.cells #[.bool false, .slice none 0 0] 97) = W at hB ⊢
 have gr : Reads W W.heap.size .u8 A (digs n) := (h.below hB.bel).more (by have := hB.size; omega)
 have gr' : Reads W W.heap.size .u8 A' (digs m) := (h'.below hB.bel).more (by have := hB.size; omega)
 refine (cmpNat_any A A' n m la lb c d W W.heap.size ha hb gr gr' (by omega) (by omega)).mono ?_
 rintro e w1 ⟨rfl, nq, rfl⟩
 have n1 : ¬ w.heap.size + 1 + 1 = w.heap.size := by omega
 have n2 : ¬ w.heap.size + 1 + 1 = w.heap.size + 1 := by omega
 have e0 := hB.b0.cell0
 have e1 := hB.b0.cell1
 have e2 := hB.b1.cell0
 have e3 := hB.b1.cell1
 go_wp2
 go_region_held3 (fun W' => W'.cell? ⟨w.heap.size + 1, 0, none⟩ = some (.bool b') ∧ W'.cell? ⟨w.heap.size, 1, none⟩ = some (.slice A la c) ∧ W'.cell? ⟨w.heap.size + 1, 1, none⟩ = some (.slice A' lb d)) (go_keep)
  (first | (go_at_call 139; refine (subNat_any A' A m n lb la d c _ hb ha (show Reads (W.drewN (nq + 1)) (W.drewN (nq + 1)).heap.size .u8 A' (digs m) from gr') (show Reads (W.drewN (nq + 1)) (W.drewN (nq + 1)).heap.size .u8 A (digs n) from gr) (by omega) (by omega)).mono ?_; rintro e w2 ⟨A2, c2, rfl, hc2, hR2, hb2⟩; obtain ⟨k0, k1, k2, k3⟩ := hB.below (((below_drewN (Below.refl _ W) nq).drew).trans hb2); have j0 := k0.cell0; have j1 := k0.cell1; have j2 := k1.cell1; have j22 := k1.cell0; have j3 := k2.cell0; have j4 := k2.cell1; have j5 := k2.frozen 0; have j6 := k2.frozen 1))
 go_wp2
 refine bodyPost_ret (v := .agg #[.bool b', .slice A2 (digs (m - n)).length c2]) ?_ rfl ?_
 · have r := k2.res0 (.bool b') (.slice A2 (digs (m - n)).length c2)
   obtain ⟨r0, r1⟩ := r
   simp [results, Tryz.results112, go_sem, r0, r1]
 · exact retZ_of (by omega) k2 hc2 hR2 k3

theorem plus_ge (b b' : Bool) (A A' : Option Addr) (n m la lb c d : Nat) (w : World) (hbb : (b == b') = false) (ha : LenIs n la) (hb : LenIs m lb) (h : Reads w w.heap.size .u8 A (digs n)) (h' : Reads w w.heap.size .u8 A' (digs m)) (h9 : la ≤ 1000000000) (h9' : lb ≤ 1000000000) (hnm : m ≤ n) :
 Calls Tryz.prog 112 #[.agg #[.bool b, .slice A la c], .agg #[.bool b', .slice A' lb d]] w (RetZ w b (n - m)) := by
 have ho : ¬ ordN n m < 0 := by unfold ordN; split <;> (try split) <;> omega
 go_enter Tryz.func112, Tryz.ntmps112
 go_wp2_with fail
 have hB := Boxes.new w (.bool b) (.slice A la c) (.bool b') (.slice A' lb d)
 generalize ((w.alloc (.cells #[.bool b, .slice A la c] 97)).alloc (.cells #[.bool b', .slice A' lb d] 97)).alloc (.cells #[.bool false, .slice none 0 0] 97) = W at hB ⊢
 have gr : Reads W W.heap.size .u8 A (digs n) := (h.below hB.bel).more (by have := hB.size; omega)
 have gr' : Reads W W.heap.size .u8 A' (digs m) := (h'.below hB.bel).more (by have := hB.size; omega)
 refine (cmpNat_any A A' n m la lb c d W W.heap.size ha hb gr gr' (by omega) (by omega)).mono ?_
 rintro e w1 ⟨rfl, nq, rfl⟩
 have n1 : ¬ w.heap.size + 1 + 1 = w.heap.size := by omega
 have n2 : ¬ w.heap.size + 1 + 1 = w.heap.size + 1 := by omega
 have e0 := hB.b0.cell0
 have e1 := hB.b0.cell1
 have e2 := hB.b1.cell0
 have e3 := hB.b1.cell1
 go_wp2
 go_region_held3 (fun W' => W'.cell? ⟨w.heap.size, 0, none⟩ = some (.bool b) ∧ W'.cell? ⟨w.heap.size, 1, none⟩ = some (.slice A la c) ∧ W'.cell? ⟨w.heap.size + 1, 1, none⟩ = some (.slice A' lb d)) (go_keep)
  (first | (go_at_call 139; refine (subNat_any A A' n m la lb c d _ ha hb (show Reads (W.drewN (nq + 1)) (W.drewN (nq + 1)).heap.size .u8 A (digs n) from gr) (show Reads (W.drewN (nq + 1)) (W.drewN (nq + 1)).heap.size .u8 A' (digs m) from gr') (by omega) (by omega)).mono ?_; rintro e w2 ⟨A2, c2, rfl, hc2, hR2, hb2⟩; obtain ⟨k0, k1, k2, k3⟩ := hB.below (((below_drewN (Below.refl _ W) nq).drew).trans hb2); have j0 := k0.cell0; have j1 := k0.cell1; have j2 := k1.cell1; have j22 := k1.cell0; have j3 := k2.cell0; have j4 := k2.cell1; have j5 := k2.frozen 0; have j6 := k2.frozen 1))
 go_wp2
 refine bodyPost_ret (v := .agg #[.bool b, .slice A2 (digs (n - m)).length c2]) ?_ rfl ?_
 · have r := k2.res0 (.bool b) (.slice A2 (digs (n - m)).length c2)
   obtain ⟨r0, r1⟩ := r
   simp [results, Tryz.results112, go_sem, r0, r1]
 · exact retZ_of (by omega) k2 hc2 hR2 k3

theorem plus_any (b b' : Bool) (A A' : Option Addr) (n m c d : Nat) (w : World) (h : Reads w w.heap.size .u8 A (digs n)) (h' : Reads w w.heap.size .u8 A' (digs m)) (h9 : (digs n).length ≤ 1000000000) (h9' : (digs m).length ≤ 1000000000) :
 Calls Tryz.prog 112 #[.agg #[.bool b, .slice A (digs n).length c], .agg #[.bool b', .slice A' (digs m).length d]] w (RetZ w (zsign b n b' m) (zmag b n b' m)) := by
 by_cases hbb : b = b'
 · subst hbb
   unfold zsign zmag
   rw [if_pos rfl, if_pos rfl]
   exact plus_same b A A' n m _ _ c d w rfl rfl h h' h9 h9'
 · have hf : (b == b') = false := by rw [beq_eq_false_iff_ne]; exact hbb
   unfold zsign zmag
   rw [if_neg hbb, if_neg hbb]
   by_cases hlt : n < m
   · rw [if_pos hlt, if_pos hlt]
     exact plus_lt b b' A A' n m _ _ c d w hf rfl rfl h h' h9 h9' hlt
   · rw [if_neg hlt, if_neg hlt]
     exact plus_ge b b' A A' n m _ _ c d w hf rfl rfl h h' h9 h9' (by omega)

theorem isZero_any (b : Bool) (A : Option Addr) (n c : Nat) (w : World) :
 Calls Tryz.prog 133 #[.agg #[.bool b, .slice A (digs n).length c]] w fun e w' => e = .returned (.bool (n == 0)) ∧ Below w.heap.size w w' := by
 have h0 : (((digs n).length : Int) == 0) = (n == 0) := by
  by_cases hn : n = 0
  · subst hn; rfl
  · have := List.length_pos_iff.2 (digs_ne_nil hn)
    rw [show (n == 0) = false from by simpa using hn, beq_eq_false_iff_ne]
    omega
 have H0 := qh9 h0
 clear h0
 obtain ⟨L, hL⟩ : ∃ L, (digs n).length = L := ⟨_, rfl⟩
 rw [hL] at H0 ⊢
 clear hL
 go_enter Tryz.func133, Tryz.ntmps133
 go_wp2
 go_ret
 exact ⟨ret_bool H0.out, (Below.refl _ _).alloc (Nat.le_refl _) _⟩
theorem mulNat_any (A A' : Option Addr) (n m a b c d : Nat) (w : World) (ha : LenIs n a) (hb : LenIs m b) (h : Reads w w.heap.size .u8 A (digs n)) (h' : Reads w w.heap.size .u8 A' (digs m)) (h9 : a ≤ 1000000000) (h9' : b ≤ 1000000000) :
 Calls Tryz.prog 114 #[.slice A a c, .slice A' b d] w (RetD .u8 w (n * m)) := by
 have hmk := make8 (a + b) ((a : Int) + b) rfl (by omega)
 go_enter Tryz.func114, Tryz.ntmps114
 go_wp2
 clear hmk
 go_loopw [18] (fun v wr => ∃ (i : Nat) (cs : List Nat), i ≤ a ∧ v = .int .i64 i ∧ Hid (MulInv (a + b) (digs n) (digs m) cs i 0 0) ∧ Row wr w.heap.size 5 .u8 cs ∧ Below w.heap.size w wr) (fun v _ => a - (intOf v).toNat)
 case atStart => exact ⟨0, zeros (a + b), Nat.zero_le _, rfl, MulInv.start _ _ _, Row.new _ _ _ _, (Below.refl _ _).alloc (Nat.le_refl _) _⟩
 case round =>
  obtain ⟨i, cs, hi, rfl, hinv, hrow, hbel⟩ := hrel
  by_cases hia : i < a
  · obtain ⟨wo, rfl⟩ : ∃ wo : World, wo = wr := ⟨_, rfl⟩
    have x0 := dg_nonneg (digs n) i
    have x1 := dg_lt (allDig_digs n) i
    go_wp2
    go_loopw [7, 23] (fun u v wr => ∃ (j : Nat) (q : Int) (cs : List Nat), j ≤ b ∧ v = .int .i64 j ∧ u = .int .u8 q ∧ 0 ≤ q ∧ q ≤ 9 ∧ Hid (MulInv (a + b) (digs n) (digs m) cs i j q) ∧ Row wr w.heap.size 5 .u8 cs ∧ Below w.heap.size w wr) (fun _ v _ => b - (intOf v).toNat)
    case atStart => exact ⟨0, 0, cs, Nat.zero_le _, rfl, rfl, by omega, by omega, hinv, hrow, hbel⟩
    case round =>
     clear hinv hrow hbel
     obtain ⟨j, q, cs, hj, rfl, rfl, hq0, hq1, hinv, hrow, hbel⟩ := hrel
     have hlen : Hid (cs.length = a + b) := hinv.out.2.1
     by_cases hjb : j < b
     · obtain ⟨b1, o1, rfl, hB1, hcell1⟩ := (h.below hbel) (by unfold LenIs at ha; omega)
       replace hcell1 := hcell1 i (by unfold LenIs at ha; omega)
       obtain ⟨b2, o2, rfl, hB2, hcell2⟩ := (h'.below hbel) (by unfold LenIs at hb; omega)
       replace hcell2 := hcell2 j (by unfold LenIs at hb; omega)
       have hst := hrow.cell (i + j) (by have := hlen.out; omega)
       have hfz := hrow.frozen (i + j)
       have y0 := dg_nonneg (digs m) j
       have y1 := dg_lt (allDig_digs m) j
       have z0 := dg_nonneg cs (i + j)
       have z1 := dg_lt hinv.out.1 (i + j)
       have p0 : 0 ≤ dg (digs n) i * dg (digs m) j := Int.mul_nonneg x0 y0
       have p1 : dg (digs n) i * dg (digs m) j ≤ 81 := Int.le_trans (Int.mul_le_mul (c := 9) (d := 9) (by omega) (by omega) y0 (by omega)) (by decide)
       have hstep := qh9 (hinv.out.step (by unfold LenIs at ha hb; omega) (by unfold LenIs at ha; omega) (by unfold LenIs at hb; omega) hq0 p0)
       have n0 : 0 ≤ (dg cs (i + j) + dg (digs n) i * dg (digs m) j + q) / 10 := by omega
       have n1 : (dg cs (i + j) + dg (digs n) i * dg (digs m) j + q) / 10 ≤ 9 := by omega
       have hrow2 := hrow.set_ (i + j) ((dg cs (i + j) + dg (digs n) i * dg (digs m) j + q) % 10).toNat ((dg cs (i + j) + dg (digs n) i * dg (digs m) j + q) % 10) (Int.toNat_of_nonneg (Int.emod_nonneg _ (by decide))).symm
       have hbel2 := hbel.setCell (p := ⟨w.heap.size, i + j, none⟩) (Nat.le_refl _) (.int .u8 ((dg cs (i + j) + dg (digs n) i * dg (digs m) j + q) % 10))
       clear hinv hrow hbel h h'
       replace hrow2 := qh9 hrow2
       replace hbel2 := qh9 hbel2
       go_wp2
       go_quiet (fail)
       go_wp2
       go_roundw
       case rel => exact ⟨j + 1, _, _, by omega, by go_num, rfl, n0, n1, hstep, hrow2.out.drewN _, below_drewN hbel2.out _⟩
       case measure => simp [intOf]; omega
     · obtain rfl : j = b := by omega
       have hst := hrow.cell (i + j) (by have := hlen.out; omega)
       have hfz := hrow.frozen (i + j)
       have hstep := qh9 (hinv.out.row (by unfold LenIs at ha hb; omega) hb (by unfold LenIs at ha; omega) hq0 (by omega))
       have hrow2 := hrow.set_ (i + j) q.toNat q (Int.toNat_of_nonneg hq0).symm
       have hbel2 := hbel.setCell (p := ⟨w.heap.size, i + j, none⟩) (Nat.le_refl _) (.int .u8 q)
       clear hinv hrow hbel h h'
       replace hrow2 := qh9 hrow2
       replace hbel2 := qh9 hbel2
       go_wp2
       go_roundw
       case rel => exact ⟨i + 1, _, by omega, by go_num, hstep, hrow2.out, hbel2.out⟩
       case measure => simp [intOf]; omega
  · obtain rfl : i = a := by omega
    have hfin := qh9 (hinv.out.done ha rfl)
    have hlen : Hid (cs.length = i + b) := hinv.out.2.1
    have hlt := hrow.lt
    clear hinv h h'
    replace hrow := qh9 hrow
    replace hbel := qh9 hbel
    go_wp2_with fail
    refine (trim_any _ cs (n * m) (i + b) (i + b) _ _ (by rw [hfin.out.2, ofD_digs, ofD_digs]) hlen.out (hrow.out.reads hlt) hfin.out.1 (by omega) (by omega)).mono ?_
    rintro e w1 ⟨rfl, rfl⟩
    go_wp2
    go_ret
    exact ⟨_, _, rfl, Nat.le_trans (digs_length_le (k := i + b) (by
     have := ofD_lt hfin.out.1
     rwa [hfin.out.2, ofD_digs, ofD_digs, hlen.out] at this)) (Nat.le_refl _), Reads.of_digs (hrow.out.reads hlt) hfin.out.1 (by rw [hfin.out.2, ofD_digs, ofD_digs]), hbel.out⟩
end Go.Proofs.YtocbedijpomemaaGreatDoor
