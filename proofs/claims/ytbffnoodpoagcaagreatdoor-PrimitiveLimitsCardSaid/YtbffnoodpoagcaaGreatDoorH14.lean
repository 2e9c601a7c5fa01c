import Derived.Test.YtbffnoodpoagcaaGreatDoorAl
import Derived.Test.YtbffnoodpoagcaaGreatDoorH13
import Derived.StillTailTactics
namespace Go.Proofs.YtbffnoodpoagcaaGreatDoor
open Go Go.RowKit
set_option linter.unusedVariables false
theorem q_add_same {x y : Rat} (h : x.den = y.den) : Rat.divInt (x.num + y.num) (x.den : Int) = x + y := by
 rw [← q_add, ← h, ← Int.add_mul]
 rw [Rat.divInt_mul_right (by exact_mod_cast x.den_nz)]
set_option maxHeartbeats 8000000 in
set_option maxRecDepth 100000 in
theorem sumP (d : Nat) (hd : d ≤ 1000) (a a' : Ob) (p p' : Value) (w : World) (S : Nat → Prop) (hp : Pair w S a p) (hp' : Pair w S a' p') (hb : Bd d a.fix) (hb' : Bd d a'.fix) (ht : Tab w) :
 Calls Tryz.prog 131 #[vO a p, vO a' p'] w (RetN w (a.fix + a'.fix)) := by
 have HT := qh9 ht
 have A1 : Hid (∀ wd, Tab wd → Calls Tryz.prog 164 #[vO a p] wd (RetN wd a.fix)) := fun wd h => asNumP a p wd (fun q e => by subst e; exact hp) h
 have A2 : Hid (∀ wd, Tab wd → Calls Tryz.prog 164 #[vO a' p'] wd (RetN wd a'.fix)) := fun wd h => asNumP a' p' wd (fun q e => by subst e; exact hp') h
 clear ht hp hp'
 generalize a.fix = x at A1 hb ⊢
 generalize a'.fix = y at A2 hb' ⊢
 obtain ⟨x0, x1, x2, x3, x4, x5, e⟩ := cells7 a p
 obtain ⟨y0, y1, y2, y3, y4, y5, e'⟩ := cells7 a' p'
 unfold vO at A1 A2
 rw [e] at A1
 rw [e'] at A2
 unfold vO
 rw [e, e']
 clear e e'
 go_enter Tryz.func131, Tryz.ntmps131
 go_wp2_with fail
 have T0 := Three.new w #[x0, x1, x2, x3, x4, x5, p] #[y0, y1, y2, y3, y4, y5, p'] #[.int .i64 0, .string ⟨#[]⟩, .string ⟨#[]⟩, .string ⟨#[]⟩, .string ⟨#[]⟩, .string ⟨#[]⟩, .slice none 0 0] rfl
 generalize ((w.alloc (.cells #[x0, x1, x2, x3, x4, x5, p] 27)).alloc (.cells #[y0, y1, y2, y3, y4, y5, p'] 27)).alloc (.cells #[.int .i64 0, .string ⟨#[]⟩, .string ⟨#[]⟩, .string ⟨#[]⟩, .string ⟨#[]⟩, .string ⟨#[]⟩, .slice none 0 0] 27) = W at T0 ⊢
 go_upto_region 1 with fail
 go_cut [4] (fun s4 wx => s4 = .pointer (some ⟨w.heap.size + 1 + 1, 0, none⟩) ∧ Hid (Three w wx #[.int .i64 1, .string (nt x), .string (dt x), .string ⟨#[]⟩, .string ⟨#[]⟩, .string ⟨#[]⟩, .slice none 0 0] #[.int .i64 1, .string (nt y), .string (dt y), .string ⟨#[]⟩, .string ⟨#[]⟩, .string ⟨#[]⟩, .slice none 0 0]))
 case first =>
  have hB0 : Below W.heap.size W W.drew := (Below.refl _ _).drew
  obtain ⟨⟨c0, c1, c2, c3, c4, c5, c6⟩, f0⟩ := row7 T0.b0
  obtain ⟨⟨d0, d1, d2, d3, d4, d5, d6⟩, f1⟩ := row7 T0.b1
  have HB : Hid (∀ W', Below W.heap.size W W' → Tab W') := fun W' h => HT.out.below (T0.below h).bel
  go_region_with (first
   | (go_at_call_of 164 (Value.agg #[x0, x1, x2, x3, x4, x5, p]); refine (A1.out _ (HB.out _ ‹Below W.heap.size W _›)).mono ?_; rintro e w3 ⟨rfl, hb3⟩; have hB3 := chain2 ‹Below W.heap.size W _› hb3 (Nat.le_refl _); obtain ⟨⟨c0, c1, c2, c3, c4, c5, c6⟩, f0⟩ := row7 (T0.below hB3).b0; obtain ⟨⟨d0, d1, d2, d3, d4, d5, d6⟩, f1⟩ := row7 (T0.below hB3).b1; unfold vQ)
   | (go_at_call_of 164 (Value.agg #[y0, y1, y2, y3, y4, y5, p']); refine (A2.out _ (HB.out _ ‹Below W.heap.size W _›)).mono ?_; rintro e w4 ⟨rfl, hb4⟩; have hB4 := chain2 ‹Below W.heap.size W _› hb4 (Nat.le_refl _); obtain ⟨⟨c0, c1, c2, c3, c4, c5, c6⟩, f0⟩ := row7 (T0.below hB4).b0; obtain ⟨⟨d0, d1, d2, d3, d4, d5, d6⟩, f1⟩ := row7 (T0.below hB4).b1; unfold vQ))
  all_goals (go_wp2_with fail; go_meet; exact ⟨rfl, Three.set (T0.below ‹Below W.heap.size W _›) rfl rfl _ _ _ _ _ _ _ _ _ _ _ _ _ _⟩)
 case rest =>
  obtain ⟨rfl, T⟩ := hcut
  have b1 := bd_nt hb
  have b2 := bd_dt hb
  have b3 := bd_nt hb'
  have b4 := bd_dt hb'
  have hB0 : Below wc.heap.size wc wc.drew := (Below.refl _ _).drew
  have n1 : ¬ w.heap.size + 1 + 1 = w.heap.size := by omega
  have n2 : ¬ w.heap.size + 1 + 1 = w.heap.size + 1 := by omega
  obtain ⟨⟨_, c1, c2, _, _, _, _⟩, _⟩ := row7 T.out.b0
  obtain ⟨⟨_, d1, d2, _, _, _, _⟩, _⟩ := row7 T.out.b1
  have m1 := lt_pow_mul hb.1 hb'.2
  have m2 := lt_pow_mul hb'.1 hb.2
  have m3 := lt_pow_mul hb.2 hb'.2
  have hp2 : 10 ^ (d + d + 1) = 10 ^ (d + d) * 10 := Nat.pow_succ ..
  cases hd2 : ((dt x).toList == (dt y).toList) with
  | true =>
   have hden := of_decide_eq_true (dt_beq (x := x) (y := y) ▸ hd2)
   have hv : Hid (quo (LA (BA (text (val (LA (nt x)) + val (LA (nt y)))))) (LA (dt x)) = x + y) := by
    show quo _ (LA (BA (text (x.den : Int)))) = _
    rw [val_nt, val_nt, quo_text, q_add_same hden]
   have s1 : (BA (text (val (LA (nt x)) + val (LA (nt y))))).size ≤ 3000 := by
    rw [val_nt, val_nt, BA_size]
    refine Nat.le_trans (text_length (k := d + 1) ?_) (by omega)
    have hp : 10 ^ (d + 1) = 10 ^ d * 10 := Nat.pow_succ ..
    have h1 := hb.1
    have h2 := hb'.1
    have h3 := Int.natAbs_add_le x.num y.num
    omega
   have RN : Hid (∀ W, Calls Tryz.prog 165 #[.string (BA (text (val (LA (nt x)) + val (LA (nt y))))), .string (dt x)] W (RetN W (x + y))) := fun W => by
    rw [← hv.out]; exact ratN _ _ _ (by omega) (by omega)
   clear hb hb' A1 A2 T0 hv s1 m1 m2 m3 hp2 hden
   generalize nt x = nx at *
   generalize dt x = dx at *
   generalize nt y = ny at *
   generalize dt y = dy at *
   go_wp2_with fail
   go_region_held3 (fun W' => W'.cell? ⟨w.heap.size, 1, none⟩ = some (.string nx) ∧ W'.cell? ⟨w.heap.size, 2, none⟩ = some (.string dx) ∧ W'.cell? ⟨w.heap.size + 1, 1, none⟩ = some (.string ny)) (go_keep)
    (first
      | (go_at_call 166; refine (add_any _ _ _ (by omega) (by omega)).mono ?_; rintro e w3 ⟨rfl, hb3⟩; have hB3 := chain2 ‹Below wc.heap.size wc _› hb3 (Nat.le_refl _); obtain ⟨⟨_, c1, c2, _, _, _, _⟩, _⟩ := row7 (T.out.below hB3).b0; obtain ⟨⟨_, d1, d2, _, _, _, _⟩, _⟩ := row7 (T.out.below hB3).b1)
      | (go_at_call 165; refine (RN.out _).mono ?_; rintro e w4 ⟨rfl, hb4⟩; have hB4 := chain2 ‹Below wc.heap.size wc _› hb4 (Nat.le_refl _); obtain ⟨⟨_, c1, c2, _, _, _, _⟩, _⟩ := row7 (T.out.below hB4).b0; obtain ⟨⟨_, d1, d2, _, _, _, _⟩, _⟩ := row7 (T.out.below hB4).b1; obtain ⟨z, hz, hz2⟩ := (T.out.below hB4).b2; obtain ⟨z0, z1, z2, z3, z4, z5, z6, ⟨q0, q1, q2, q3, q4, q5, q6⟩, f2⟩ := row7z hz hz2; clear hz hz2; unfold vQ))
   all_goals go_wp2
   all_goals exact Three.ret (T.out.below ‹Below wc.heap.size wc _›) _ rfl rfl
  | false =>
   have s1 : (BA (text (val (LA (nt x)) * val (LA (dt y))))).size ≤ 3000 := by
    rw [val_nt, val_dt, BA_size]
    refine Nat.le_trans (text_length (k := d + d) ?_) (by omega)
    rw [Int.natAbs_mul]
    exact m1
   have s2 : (BA (text (val (LA (nt y)) * val (LA (dt x))))).size ≤ 3000 := by
    rw [val_nt, val_dt, BA_size]
    refine Nat.le_trans (text_length (k := d + d) ?_) (by omega)
    rw [Int.natAbs_mul]
    exact m2
   have s3 : (BA (text (val (LA (dt x)) * val (LA (dt y))))).size ≤ 3000 := by
    rw [val_dt, val_dt, BA_size]
    refine Nat.le_trans (text_length (k := d + d) ?_) (by omega)
    rw [Int.natAbs_mul]
    exact m3
   have hA : Hid (∀ W, Calls Tryz.prog 166 #[.string (BA (text (val (LA (nt x)) * val (LA (dt y))))), .string (BA (text (val (LA (nt y)) * val (LA (dt x)))))] W (RetS W (x.num * (y.den : Int) + y.num * (x.den : Int)))) := fun W => by
    have h := add_any (BA (text (val (LA (nt x)) * val (LA (dt y))))) (BA (text (val (LA (nt y)) * val (LA (dt x))))) W (by omega) (by omega)
    rw [LA_BA, LA_BA, val_text, val_text, val_nt, val_dt, val_nt, val_dt] at h
    rw [val_nt, val_dt, val_nt, val_dt]
    exact h
   have s4 : (BA (text (x.num * (y.den : Int) + y.num * (x.den : Int)))).size ≤ 3000 := by
    rw [BA_size]
    refine Nat.le_trans (text_length (k := d + d + 1) ?_) (by omega)
    have h3 := Int.natAbs_add_le (x.num * (y.den : Int)) (y.num * (x.den : Int))
    rw [Int.natAbs_mul, Int.natAbs_mul, Int.natAbs_natCast, Int.natAbs_natCast] at h3
    omega
   have RN : Hid (∀ W, Calls Tryz.prog 165 #[.string (BA (text (x.num * (y.den : Int) + y.num * (x.den : Int)))), .string (BA (text (val (LA (dt x)) * val (LA (dt y)))))] W (RetN W (x + y))) := fun W => by
    have h := ratN (BA (text (x.num * (y.den : Int) + y.num * (x.den : Int)))) (BA (text (val (LA (dt x)) * val (LA (dt y))))) W (by omega) (by omega)
    rw [val_dt, val_dt, quo_text, q_add] at h
    rw [val_dt, val_dt]
    exact h
   clear hb hb' A1 A2 T0 m1 m2 m3 hp2 s1 s2 s3 s4
   generalize x.num * (y.den : Int) + y.num * (x.den : Int) = nn at hA RN
   generalize nt x = nx at *
   generalize dt x = dx at *
   generalize nt y = ny at *
   generalize dt y = dy at *
   go_wp2_with fail
   go_region_held3 (fun W' => W'.cell? ⟨w.heap.size, 1, none⟩ = some (.string nx) ∧ W'.cell? ⟨w.heap.size, 2, none⟩ = some (.string dx) ∧ W'.cell? ⟨w.heap.size + 1, 1, none⟩ = some (.string ny) ∧ W'.cell? ⟨w.heap.size + 1, 2, none⟩ = some (.string dy)) (go_keep)
    (first
      | (go_at_call 167; refine (multiply_any _ _ _ (by omega) (by omega)).mono ?_; rintro e w3 ⟨rfl, hb3⟩; have hB3 := chain2 ‹Below wc.heap.size wc _› hb3 (Nat.le_refl _); obtain ⟨⟨_, c1, c2, _, _, _, _⟩, _⟩ := row7 (T.out.below hB3).b0; obtain ⟨⟨_, d1, d2, _, _, _, _⟩, _⟩ := row7 (T.out.below hB3).b1)
      | (go_at_call 166; refine (hA.out _).mono ?_; rintro e w3 ⟨rfl, hb3⟩; have hB3 := chain2 ‹Below wc.heap.size wc _› hb3 (Nat.le_refl _); obtain ⟨⟨_, c1, c2, _, _, _, _⟩, _⟩ := row7 (T.out.below hB3).b0; obtain ⟨⟨_, d1, d2, _, _, _, _⟩, _⟩ := row7 (T.out.below hB3).b1))
   go_wp2_with fail
   refine (multiply_any _ _ _ (by omega) (by omega)).mono ?_
   rintro e w5 ⟨rfl, hb5⟩
   have hB5 := chain2 ‹Below wc.heap.size wc _› hb5 (Nat.le_refl _)
   go_wp2_with fail
   refine (RN.out _).mono ?_
   rintro e w6 ⟨rfl, hb6⟩
   have T6 := qh9 (T.out.below (chain2 hB5 hb6 (Nat.le_refl _)))
   obtain ⟨z, hz, hz2⟩ := T6.out.b2
   have HZ := qh9 hz2
   have HZ1 := qh9 hz
   clear hz hz2
   go_wp2_with (refine storeN rfl (.tmp 4) (.tmp 40) rfl (w.heap.size + 1 + 1) (x + y) rfl rfl _ _ HZ.out HZ1.out ?_)
   exact retN (q := 4) (g := w.heap.size + 1 + 1) rfl rfl (setRow_heap _ _ _ _ _ _ HZ.out) rfl (below_setRowO T6.out.bel (by omega) _)
set_option maxHeartbeats 8000000
set_option maxRecDepth 100000

structure TwoB (w W : World) (x : Array Value) : Prop where
 b0 : W.heap[w.heap.size]? = some (.cells x 27 (0, 0))
 b1 : ∃ z : Array Value, z.size = 7 ∧ W.heap[w.heap.size + 1]? = some (.cells z 27 (0, 0))
 bel : Below w.heap.size w W
 size : w.heap.size + 2 ≤ W.heap.size
theorem TwoB.new (w : World) (x z : Array Value) (hz : z.size = 7) : TwoB w ((w.alloc (.cells x 27)).alloc (.cells z 27)) x :=
 ⟨heap_alloc2_old w _ _, ⟨z, hz, heap_alloc2_new w _ _⟩, Below.alloc (Below.alloc (Below.refl _ _) (Nat.le_refl _) _) (by simp) _, by simp⟩
theorem TwoB.below {w W W' : World} {x : Array Value} (h : TwoB w W x) (hb : Below W.heap.size W W') : TwoB w W' x := by
 have := h.size
 obtain ⟨z, hz, h2⟩ := h.b1
 exact ⟨(hb.block _ (by omega)).trans h.b0, ⟨z, hz, (hb.block _ (by omega)).trans h2⟩, h.bel.trans (hb.mono (by omega)), Nat.le_trans h.size hb.size⟩
theorem TwoB.set {w W : World} {x : Array Value} (h : TwoB w W x) (y : Array Value) : TwoB w (W.setRow w.heap.size y) y := by
 obtain ⟨z, hz, h2⟩ := h.b1
 exact ⟨setRow_heap _ _ _ _ _ _ h.b0, ⟨z, hz, (setRow_other _ _ _ _ (by omega)).trans h2⟩, below_setRowO h.bel (Nat.le_refl _) _, by rw [size_setRow]; exact h.size⟩
theorem TwoB.ret {w W : World} {x : Array Value} (T : TwoB w W x) (q : Rat) {fn : Func} {r : Tmp} {tmps : Array Value} (h : fn.results = #[.cell r 27]) (hr : tmps.getD r undef = .pointer (some ⟨w.heap.size + 1, 0, none⟩)) :
 bodyPost Tryz.prog fn (RetN w q) Exit.ret ⟨tmps, []⟩ (((((((W.setCell ⟨w.heap.size + 1, 0, none⟩ (.int .i64 1)).setCell ⟨w.heap.size + 1, 1, none⟩ (.string (nt q))).setCell ⟨w.heap.size + 1, 2, none⟩ (.string (dt q))).setCell ⟨w.heap.size + 1, 3, none⟩ (.string ⟨#[]⟩)).setCell ⟨w.heap.size + 1, 4, none⟩ (.string ⟨#[]⟩)).setCell ⟨w.heap.size + 1, 5, none⟩ (.string ⟨#[]⟩)).setCell ⟨w.heap.size + 1, 6, none⟩ (.slice none 0 0)) := by
 obtain ⟨z, hz, h2⟩ := T.b1
 rw [setRow7 h2 hz]
 exact retN h hr (setRow_heap _ _ _ _ _ _ h2) rfl (below_setRowO T.bel (by omega) _)

theorem reciprocalP (d : Nat) (hd : d ≤ 1000) (a : Ob) (p : Value) (w : World) (S : Nat → Prop) (hp : Pair w S a p) (hb : Bd d a.fix) (ht : Tab w) :
 Calls Tryz.prog 135 #[vO a p] w (RetN w (a.fix⁻¹)) := by
 have HT := qh9 ht
 have A1 : Hid (∀ wd, Tab wd → Calls Tryz.prog 164 #[vO a p] wd (RetN wd a.fix)) := fun wd h => asNumP a p wd (fun q e => by subst e; exact hp) h
 clear ht hp
 generalize a.fix = x at A1 hb ⊢
 obtain ⟨x0, x1, x2, x3, x4, x5, e⟩ := cells7 a p
 unfold vO at A1
 rw [e] at A1
 unfold vO
 rw [e]
 clear e
 go_enter Tryz.func135, Tryz.ntmps135
 go_wp2_with fail
 have T0 := TwoB.new w #[x0, x1, x2, x3, x4, x5, p] #[.int .i64 0, .string ⟨#[]⟩, .string ⟨#[]⟩, .string ⟨#[]⟩, .string ⟨#[]⟩, .string ⟨#[]⟩, .slice none 0 0] rfl
 generalize (w.alloc (.cells #[x0, x1, x2, x3, x4, x5, p] 27)).alloc (.cells #[.int .i64 0, .string ⟨#[]⟩, .string ⟨#[]⟩, .string ⟨#[]⟩, .string ⟨#[]⟩, .string ⟨#[]⟩, .slice none 0 0] 27) = W at T0 ⊢
 refine (A1.out _ (HT.out.below T0.bel)).mono ?_
 rintro e w1 ⟨rfl, hb1⟩
 have T1 := qh9 (T0.below hb1)
 have HZ := qh9 T1.out.b0
 have b1 := bd_nt hb
 have b2 := bd_dt hb
 have RN : Hid (∀ W, Calls Tryz.prog 165 #[.string (dt x), .string (nt x)] W (RetN W x⁻¹)) := fun W => by
  have h := ratN (dt x) (nt x) W (by omega) (by omega)
  have e : quo (LA (dt x)) (LA (nt x)) = x⁻¹ := by unfold quo; rw [val_nt, val_dt, q_inv]
  rw [e] at h
  exact h
 have k1 : (w1.setRow w.heap.size #[.int .i64 1, .string (nt x), .string (dt x), .string ⟨#[]⟩, .string ⟨#[]⟩, .string ⟨#[]⟩, .slice none 0 0]).cell? ⟨w.heap.size, 1, none⟩ = some (.string (nt x)) := by
  rw [cell_setRow_same _ _ _ _ _ _ _ HZ.out]; rfl
 have k2 : (w1.setRow w.heap.size #[.int .i64 1, .string (nt x), .string (dt x), .string ⟨#[]⟩, .string ⟨#[]⟩, .string ⟨#[]⟩, .slice none 0 0]).cell? ⟨w.heap.size, 2, none⟩ = some (.string (dt x)) := by
  rw [cell_setRow_same _ _ _ _ _ _ _ HZ.out]; rfl
 clear T0 hb1 A1 HT hb b1 b2
 go_wp2_with (refine storeN rfl (.tmp 1) (.tmp 4) rfl w.heap.size x rfl rfl _ _ HZ.out rfl ?_)
 have T2 := qh9 (T1.out.set #[.int .i64 1, .string (nt x), .string (dt x), .string ⟨#[]⟩, .string ⟨#[]⟩, .string ⟨#[]⟩, .slice none 0 0])
 clear HZ T1 k1 k2
 generalize w1.setRow w.heap.size #[.int .i64 1, .string (nt x), .string (dt x), .string ⟨#[]⟩, .string ⟨#[]⟩, .string ⟨#[]⟩, .slice none 0 0] = wc at T2 ⊢
 refine (RN.out _).mono ?_
 rintro e w6 ⟨rfl, hb6⟩
 have T6 := qh9 (T2.out.below hb6)
 obtain ⟨z, hz, hz2⟩ := T6.out.b1
 have HZ := qh9 hz2
 have HZ1 := qh9 hz
 clear hz hz2 hb6
 go_wp2_with (refine storeN rfl (.tmp 2) (.tmp 9) rfl (w.heap.size + 1) x⁻¹ rfl rfl _ _ HZ.out HZ1.out ?_)
 exact retN (q := 2) (g := w.heap.size + 1) rfl rfl (setRow_heap _ _ _ _ _ _ HZ.out) rfl (below_setRowO T6.out.bel (by omega) _)

theorem oppositeP (d : Nat) (hd : d ≤ 1000) (a : Ob) (p : Value) (w : World) (S : Nat → Prop) (hp : Pair w S a p) (hb : Bd d a.fix) (ht : Tab w) :
 Calls Tryz.prog 134 #[vO a p] w (RetN w (-a.fix)) := by
 have HT := qh9 ht
 have A1 : Hid (∀ wd, Tab wd → Calls Tryz.prog 164 #[vO a p] wd (RetN wd a.fix)) := fun wd h => asNumP a p wd (fun q e => by subst e; exact hp) h
 clear ht hp
 generalize a.fix = x at A1 hb ⊢
 obtain ⟨x0, x1, x2, x3, x4, x5, e⟩ := cells7 a p
 unfold vO at A1
 rw [e] at A1
 unfold vO
 rw [e]
 clear e
 go_enter Tryz.func134, Tryz.ntmps134
 go_wp2_with fail
 have T0 := TwoB.new w #[x0, x1, x2, x3, x4, x5, p] #[.int .i64 0, .string ⟨#[]⟩, .string ⟨#[]⟩, .string ⟨#[]⟩, .string ⟨#[]⟩, .string ⟨#[]⟩, .slice none 0 0] rfl
 generalize (w.alloc (.cells #[x0, x1, x2, x3, x4, x5, p] 27)).alloc (.cells #[.int .i64 0, .string ⟨#[]⟩, .string ⟨#[]⟩, .string ⟨#[]⟩, .string ⟨#[]⟩, .string ⟨#[]⟩, .slice none 0 0] 27) = W at T0 ⊢
 refine (A1.out _ (HT.out.below T0.bel)).mono ?_
 rintro e w1 ⟨rfl, hb1⟩
 have T1 := qh9 (T0.below hb1)
 have HZ := qh9 T1.out.b0
 clear T0 hb1 A1 HT
 go_wp2_with (refine storeN rfl (.tmp 1) (.tmp 4) rfl w.heap.size x rfl rfl _ _ HZ.out rfl ?_)
 have T2 := qh9 (T1.out.set #[.int .i64 1, .string (nt x), .string (dt x), .string ⟨#[]⟩, .string ⟨#[]⟩, .string ⟨#[]⟩, .slice none 0 0])
 clear HZ T1
 generalize w1.setRow w.heap.size #[.int .i64 1, .string (nt x), .string (dt x), .string ⟨#[]⟩, .string ⟨#[]⟩, .string ⟨#[]⟩, .slice none 0 0] = wc at T2 ⊢
 obtain ⟨⟨_, c1, c2, _, _, _, _⟩, _⟩ := row7 T2.out.b0
 have b1 := bd_nt hb
 have b2 := bd_dt hb
 have s1 : (BA (text (- val (LA (nt x))))).size ≤ 3000 := by
  rw [val_nt, BA_size]
  refine Nat.le_trans (text_length (k := d) ?_) (by omega)
  rw [Int.natAbs_neg]
  exact hb.1
 have RN : Hid (∀ W, Calls Tryz.prog 165 #[.string (BA (text (- val (LA (nt x))))), .string (dt x)] W (RetN W (-x))) := fun W => by
  have h := ratN (BA (text (- val (LA (nt x))))) (dt x) W (by omega) (by omega)
  have e : quo (LA (BA (text (- val (LA (nt x)))))) (LA (dt x)) = -x := by
   show quo _ (LA (BA (text (x.den : Int)))) = _
   rw [val_nt, quo_text, q_neg]
  rw [e] at h
  exact h
 clear hb s1
 have hB0 : Below wc.heap.size wc wc.drew := (Below.refl _ _).drew
 have n1 : ¬ w.heap.size + 1 = w.heap.size := by omega
 generalize nt x = nx at *
 generalize dt x = dx at *
 go_wp2_with fail
 go_region_held3 (fun W' => W'.cell? ⟨w.heap.size, 1, none⟩ = some (.string nx) ∧ W'.cell? ⟨w.heap.size, 2, none⟩ = some (.string dx)) (go_keep)
  (first
    | (go_at_call 168; refine (negate_any _ _ (by omega)).mono ?_; rintro e w3 ⟨rfl, hb3⟩; have hB3 := chain2 ‹Below wc.heap.size wc _› hb3 (Nat.le_refl _); obtain ⟨⟨_, c1, c2, _, _, _, _⟩, _⟩ := row7 (T2.out.below hB3).b0)
    | (go_at_call 165; refine (RN.out _).mono ?_; rintro e w4 ⟨rfl, hb4⟩; have hB4 := chain2 ‹Below wc.heap.size wc _› hb4 (Nat.le_refl _); obtain ⟨⟨_, c1, c2, _, _, _, _⟩, _⟩ := row7 (T2.out.below hB4).b0; obtain ⟨z, hz, hz2⟩ := (T2.out.below hB4).b1; obtain ⟨z0, z1, z2, z3, z4, z5, z6, ⟨q0, q1, q2, q3, q4, q5, q6⟩, f2⟩ := row7z hz hz2; clear hz hz2; unfold vQ))
 all_goals go_wp2
 all_goals exact TwoB.ret (T2.out.below ‹Below wc.heap.size wc _›) _ rfl rfl

structure BoxB (w W : World) (x y : Array Value) : Prop where
 b0 : W.heap[w.heap.size]? = some (.cells x 27 (0, 0))
 b1 : W.heap[w.heap.size + 1]? = some (.cells y 27 (0, 0))
 bel : Below w.heap.size w W
 size : w.heap.size + 2 ≤ W.heap.size
theorem BoxB.new (w : World) (x y : Array Value) : BoxB w ((w.alloc (.cells x 27)).alloc (.cells y 27)) x y :=
 ⟨heap_alloc2_old w _ _, heap_alloc2_new w _ _, Below.alloc (Below.alloc (Below.refl _ _) (Nat.le_refl _) _) (by simp) _, by simp⟩
theorem BoxB.below {w W W' : World} {x y : Array Value} (h : BoxB w W x y) (hb : Below W.heap.size W W') : BoxB w W' x y := by
 have := h.size
 exact ⟨(hb.block _ (by omega)).trans h.b0, (hb.block _ (by omega)).trans h.b1, h.bel.trans (hb.mono (by omega)), Nat.le_trans h.size hb.size⟩

theorem lessP (d : Nat) (hd : d ≤ 1000) (a a' : Ob) (p p' : Value) (w : World) (S : Nat → Prop) (hp : Pair w S a p) (hp' : Pair w S a' p') (hb : Bd d a.fix) (hb' : Bd d a'.fix) (ht : Tab w) :
 Calls Tryz.prog 138 #[vO a p, vO a' p'] w (RetB w (decide (ordQ a.fix a'.fix < 0))) := by
 have HT := qh9 ht
 have A1 : Hid (∀ wd, Tab wd → Calls Tryz.prog 164 #[vO a p] wd (RetN wd a.fix)) := fun wd h => asNumP a p wd (fun q e => by subst e; exact hp) h
 have A2 : Hid (∀ wd, Tab wd → Calls Tryz.prog 164 #[vO a' p'] wd (RetN wd a'.fix)) := fun wd h => asNumP a' p' wd (fun q e => by subst e; exact hp') h
 have CN : Hid (∀ wd, Calls Tryz.prog 170 #[vQ a.fix, vQ a'.fix] wd (RetI wd (ordQ a.fix a'.fix))) := fun wd => cmpNumP d hd _ _ wd hb hb'
 clear ht hp hp' hb hb'
 generalize a.fix = x at A1 CN ⊢
 generalize a'.fix = y at A2 CN ⊢
 generalize ordQ x y = r at CN ⊢
 obtain ⟨x0, x1, x2, x3, x4, x5, e⟩ := cells7 a p
 obtain ⟨y0, y1, y2, y3, y4, y5, e'⟩ := cells7 a' p'
 unfold vO at A1 A2
 rw [e] at A1
 rw [e'] at A2
 unfold vO
 rw [e, e']
 clear e e'
 go_enter Tryz.func138, Tryz.ntmps138
 go_wp2_with fail
 have T0 := BoxB.new w #[x0, x1, x2, x3, x4, x5, p] #[y0, y1, y2, y3, y4, y5, p']
 generalize (w.alloc (.cells #[x0, x1, x2, x3, x4, x5, p] 27)).alloc (.cells #[y0, y1, y2, y3, y4, y5, p'] 27) = W at T0 ⊢
 have hB0 : Below W.heap.size W W.drew := (Below.refl _ _).drew
 obtain ⟨⟨c0, c1, c2, c3, c4, c5, c6⟩, _⟩ := row7 T0.b0
 obtain ⟨⟨d0, d1, d2, d3, d4, d5, d6⟩, _⟩ := row7 T0.b1
 have HB : Hid (∀ W', Below W.heap.size W W' → Tab W') := fun W' h => HT.out.below (T0.below h).bel
 have HT0 := qh9 T0
 clear T0 HT
 go_region_held3 (fun W' => (W'.cell? ⟨w.heap.size, 0, none⟩ = some x0 ∧ W'.cell? ⟨w.heap.size, 1, none⟩ = some x1 ∧ W'.cell? ⟨w.heap.size, 2, none⟩ = some x2 ∧ W'.cell? ⟨w.heap.size, 3, none⟩ = some x3 ∧ W'.cell? ⟨w.heap.size, 4, none⟩ = some x4 ∧ W'.cell? ⟨w.heap.size, 5, none⟩ = some x5 ∧ W'.cell? ⟨w.heap.size, 6, none⟩ = some p) ∧
  (W'.cell? ⟨w.heap.size + 1, 0, none⟩ = some y0 ∧ W'.cell? ⟨w.heap.size + 1, 1, none⟩ = some y1 ∧ W'.cell? ⟨w.heap.size + 1, 2, none⟩ = some y2 ∧ W'.cell? ⟨w.heap.size + 1, 3, none⟩ = some y3 ∧ W'.cell? ⟨w.heap.size + 1, 4, none⟩ = some y4 ∧ W'.cell? ⟨w.heap.size + 1, 5, none⟩ = some y5 ∧ W'.cell? ⟨w.heap.size + 1, 6, none⟩ = some p')) (first | exact ⟨(row7 (HT0.out.below ‹Below W.heap.size W _›).b0).1, (row7 (HT0.out.below ‹Below W.heap.size W _›).b1).1⟩ | go_keep)
  (first
    | (go_at_call_of 164 (Value.agg #[x0, x1, x2, x3, x4, x5, p]); refine (A1.out _ (HB.out _ ‹Below W.heap.size W _›)).mono ?_; rintro e w3 ⟨rfl, hb3⟩; have hB3 := chain2 ‹Below W.heap.size W _› hb3 (Nat.le_refl _); clear hb3)
    | (go_at_call_of 164 (Value.agg #[y0, y1, y2, y3, y4, y5, p']); refine (A2.out _ (HB.out _ ‹Below W.heap.size W _›)).mono ?_; rintro e w4 ⟨rfl, hb4⟩; have hB4 := chain2 ‹Below W.heap.size W _› hb4 (Nat.le_refl _); clear hb4)
    | (go_at_call 170; refine (CN.out _).mono ?_; rintro e w5 ⟨rfl, hb5⟩; have hB5 := chain2 ‹Below W.heap.size W _› hb5 (Nat.le_refl _); clear hb5))
 all_goals go_wp2
 all_goals go_ret
 all_goals exact ⟨rfl, (HT0.out.below ‹Below W.heap.size W _›).bel⟩
set_option maxHeartbeats 1000000 in
theorem isLetterP (c : Int) (h1 : 97 ≤ c) (h2 : c ≤ 122) (w : World) : Calls Tryz.prog 151 #[.int .u8 c] w fun e w' => e = .returned (.bool true) ∧ w = w' := by
 go_enter Tryz.func151, Tryz.ntmps151
 go_wp2
 go_ret
 exact ⟨rfl, rfl⟩
set_option maxHeartbeats 1000000 in
theorem isNameP (s : ByteArray) (h1 : 1 ≤ s.size) (h2 : s.size ≤ 40) (w : World) : Calls Tryz.prog 112 #[.string s] w fun e w' => e = .returned (.bool true) ∧ w = w' := by
 have h3 : (1 : Int) ≤ (s.size : Int) := by omega
 have h4 : (s.size : Int) ≤ 40 := by omega
 go_enter Tryz.func112, Tryz.ntmps112
 go_wp2
 go_ret
 exact ⟨rfl, rfl⟩
set_option maxHeartbeats 4000000 in
set_option maxRecDepth 100000 in
theorem isPackageP (w : World) : Calls Tryz.prog 111 #[.string (BA lispB)] w fun e w' => e = .returned (.bool true) ∧ w = w' := by
 show Calls _ _ #[.string ⟨#[108, 105, 115, 112]⟩] _ _
 go_enter Tryz.func111, Tryz.ntmps111
 go_wp2_with fail
 refine (isNameP ⟨#[108, 105, 115, 112]⟩ (by decide) (by decide) _).mono ?_
 rintro e w' ⟨rfl, rfl⟩
 go_wp2_with fail
 refine (isLetterP 108 (by decide) (by decide) _).mono ?_
 rintro e w' ⟨rfl, rfl⟩
 go_wp2_with fail
 go_loop [15] (fun v => ∃ i : Nat, i ≤ 4 ∧ v = .int .i64 i) (fun v => 4 - (intOf v).toNat)
 case atStart => exact ⟨0, by omega, rfl⟩
 case round =>
  obtain ⟨i, hi, rfl⟩ := hrel
  have h5 : i = 0 ∨ i = 1 ∨ i = 2 ∨ i = 3 ∨ i = 4 := by omega
  rcases h5 with rfl | rfl | rfl | rfl | rfl
  · go_wp2_with fail
    refine (isLetterP 108 (by decide) (by decide) _).mono ?_
    rintro e w' ⟨rfl, rfl⟩
    go_wp2
    go_round
    case rel => exact ⟨1, by omega, rfl⟩
    case measure => simp [intOf]
  · go_wp2_with fail
    refine (isLetterP 105 (by decide) (by decide) _).mono ?_
    rintro e w' ⟨rfl, rfl⟩
    go_wp2
    go_round
    case rel => exact ⟨2, by omega, rfl⟩
    case measure => simp [intOf]
  · go_wp2_with fail
    refine (isLetterP 115 (by decide) (by decide) _).mono ?_
    rintro e w' ⟨rfl, rfl⟩
    go_wp2
    go_round
    case rel => exact ⟨3, by omega, rfl⟩
    case measure => simp [intOf]
  · go_wp2_with fail
    refine (isLetterP 112 (by decide) (by decide) _).mono ?_
    rintro e w' ⟨rfl, rfl⟩
    go_wp2
    go_round
    case rel => exact ⟨4, by omega, rfl⟩
    case measure => simp [intOf]
  · go_wp2
    go_ret
    exact ⟨rfl, rfl⟩
set_option maxHeartbeats 4000000 in
set_option maxRecDepth 100000 in
theorem isPackageU (w : World) : Calls Tryz.prog 111 #[.string (BA userB)] w fun e w' => e = .returned (.bool true) ∧ w = w' := by
 show Calls _ _ #[.string ⟨#[117, 115, 101, 114]⟩] _ _
 go_enter Tryz.func111, Tryz.ntmps111
 go_wp2_with fail
 refine (isNameP ⟨#[117, 115, 101, 114]⟩ (by decide) (by decide) _).mono ?_
 rintro e w' ⟨rfl, rfl⟩
 go_wp2_with fail
 refine (isLetterP 117 (by decide) (by decide) _).mono ?_
 rintro e w' ⟨rfl, rfl⟩
 go_wp2_with fail
 go_loop [15] (fun v => ∃ i : Nat, i ≤ 4 ∧ v = .int .i64 i) (fun v => 4 - (intOf v).toNat)
 case atStart => exact ⟨0, by omega, rfl⟩
 case round =>
  obtain ⟨i, hi, rfl⟩ := hrel
  have h5 : i = 0 ∨ i = 1 ∨ i = 2 ∨ i = 3 ∨ i = 4 := by omega
  rcases h5 with rfl | rfl | rfl | rfl | rfl
  · go_wp2_with fail
    refine (isLetterP 117 (by decide) (by decide) _).mono ?_
    rintro e w' ⟨rfl, rfl⟩
    go_wp2
    go_round
    case rel => exact ⟨1, by omega, rfl⟩
    case measure => simp [intOf]
  · go_wp2_with fail
    refine (isLetterP 115 (by decide) (by decide) _).mono ?_
    rintro e w' ⟨rfl, rfl⟩
    go_wp2
    go_round
    case rel => exact ⟨2, by omega, rfl⟩
    case measure => simp [intOf]
  · go_wp2_with fail
    refine (isLetterP 101 (by decide) (by decide) _).mono ?_
    rintro e w' ⟨rfl, rfl⟩
    go_wp2
    go_round
    case rel => exact ⟨3, by omega, rfl⟩
    case measure => simp [intOf]
  · go_wp2_with fail
    refine (isLetterP 114 (by decide) (by decide) _).mono ?_
    rintro e w' ⟨rfl, rfl⟩
    go_wp2
    go_round
    case rel => exact ⟨4, by omega, rfl⟩
    case measure => simp [intOf]
  · go_wp2
    go_ret
    exact ⟨rfl, rfl⟩
set_option maxHeartbeats 1000000 in
theorem isShortP (x : Int) (h : x.natAbs < 10 ^ 90) (w : World) : Calls Tryz.prog 148 #[.string (BA (text x))] w fun e w' => e = .returned (.bool true) ∧ w = w' := by
 have hl := text_length (x := x) (k := 90) h
 have hs : (BA (text x)).size ≤ 92 := by rw [BA_size]; exact hl
 have hv : valid (LA (BA (text x))) = true := by rw [LA_BA]; exact valid_text x
 have hd : ((body (LA (BA (text x)))).length : Int) ≤ 100 := by
  unfold body
  rw [hv, LA_BA]
  have := strip_length (text x)
  simp only [if_true]
  omega
 have V : Hid (∀ w, Calls Tryz.prog 177 #[.string (BA (text x))] w fun e w' => e = .returned (.bool true) ∧ w = w') := fun w => by
  have := valid_any (BA (text x)) w (by unfold maxLen; omega)
  rw [hv] at this
  exact this
 have D : Hid (∀ w, Calls Tryz.prog 178 #[.string (BA (text x))] w fun e w' => e = .returned (.int .i64 ((body (LA (BA (text x)))).length : Nat)) ∧ w = w') := fun w => digits_any _ w (by omega)
 clear h hl hv
 generalize BA (text x) = s at hs hd V D ⊢
 generalize (body (LA s)).length = n at hd D
 go_enter Tryz.func148, Tryz.ntmps148
 go_wp2_with fail
 refine (V.out _).mono ?_
 rintro e w' ⟨rfl, rfl⟩
 go_wp2_with fail
 refine (D.out _).mono ?_
 rintro e w' ⟨rfl, rfl⟩
 go_wp2
 go_ret
 exact ⟨rfl, rfl⟩
set_option maxHeartbeats 1000000 in
theorem isFractionP (x : Int) (h : x.natAbs < 10 ^ 90) (w : World) : Calls Tryz.prog 110 #[.string (BA (text x)), .string ⟨#[49]⟩] w fun e w' => e = .returned (.bool true) ∧ w = w' := by
 have C1 := fun w => isShortP x h w
 have C2 : ∀ w, Calls Tryz.prog 148 #[.string ⟨#[49]⟩] w fun e w' => e = .returned (.bool true) ∧ w = w' := fun w => isShortP 1 (by decide) w
 replace C1 := qh9 C1
 replace C2 := qh9 C2
 clear h
 generalize BA (text x) = s at C1 ⊢
 go_enter Tryz.func110, Tryz.ntmps110
 go_wp2_with fail
 refine (C1.out _).mono ?_
 rintro e w' ⟨rfl, rfl⟩
 go_wp2_with fail
 refine (C2.out _).mono ?_
 rintro e w' ⟨rfl, rfl⟩
 go_wp2
 go_ret
 exact ⟨rfl, rfl⟩
theorem val_zero1 : val (LA ⟨#[48]⟩) = 0 := by decide
set_option maxHeartbeats 1000000 in
theorem isFracQ (q : Rat) (h : Bd 90 q) (w : World) : Calls Tryz.prog 110 #[.string (nt q), .string (dt q)] w (RetB w true) := by
 by_cases hd : q.den = 1
 · have e : dt q = ⟨#[49]⟩ := by unfold dt; rw [hd]; decide
   rw [e]
   exact (isFractionP q.num h.1 w).mono fun e w' hh => ⟨hh.1, hh.2 ▸ Below.refl _ _⟩
 · have s1 := bd_nt h
   have s2 := bd_dt h
   have C1 : Hid (∀ w, Calls Tryz.prog 148 #[.string (nt q)] w fun e w' => e = .returned (.bool true) ∧ w = w') := fun w => isShortP q.num h.1 w
   have C2 : Hid (∀ w, Calls Tryz.prog 148 #[.string (dt q)] w fun e w' => e = .returned (.bool true) ∧ w = w') := fun w => isShortP (q.den : Int) (by rw [Int.natAbs_natCast]; exact h.2) w
   have C3 : Hid (∀ w, Calls Tryz.prog 149 #[.string (dt q), .string ⟨#[48]⟩] w fun e w' => e = .returned (.int .i64 1) ∧ w = w') := fun w => by
    have h3 := compare_any (dt q) ⟨#[48]⟩ w (by omega) (by decide)
    rw [val_dt, val_zero1] at h3
    have : ordI (q.den : Int) 0 = 1 := by
     have := q.den_pos
     unfold ordI
     rw [if_neg (by omega), if_pos (by omega)]
    rw [this] at h3
    exact h3
   have C4 : Hid (∀ w, Calls Tryz.prog 150 #[.string (nt q), .string (dt q)] w fun e w' => e = .returned (.string ⟨#[49]⟩) ∧ Below w.heap.size w w') := fun w => by
    have h4 := gcd_any (nt q) (dt q) w (by omega) (by omega)
    rw [← val_natAbs, ← val_natAbs, val_nt, val_dt, Int.natAbs_natCast, q.reduced.gcd_eq_one] at h4
    exact h4
   have hn : ((dt q).toList == [49]) = false := by
    rw [beq_eq_false_iff_ne]
    intro e
    apply hd
    have e2 : LA (dt q) = [49] := by rw [← e, Lib.toList_data]; rfl
    have := val_dt q
    rw [e2] at this
    have h1 : val [49] = 1 := by decide
    omega
   clear h hd s1 s2
   generalize nt q = nq at *
   generalize dt q = dq at *
   go_enter Tryz.func110, Tryz.ntmps110
   go_wp2_with fail
   refine (C1.out _).mono ?_
   rintro e w' ⟨rfl, rfl⟩
   go_wp2_with fail
   refine (C2.out _).mono ?_
   rintro e w' ⟨rfl, rfl⟩
   go_wp2_with fail
   refine (C3.out _).mono ?_
   rintro e w' ⟨rfl, rfl⟩
   go_wp2_with fail
   refine (C4.out _).mono ?_
   rintro e w' ⟨rfl, hb⟩
   have HB := qh9 hb
   clear hb
   go_wp2
   go_ret
   exact ⟨rfl, HB.out⟩
theorem eqS_self (s1 s2 s3 s4 s5 : ByteArray) : eqS s1 s2 s3 s4 s5 s1 s2 s3 s4 s5 = true := by unfold eqS; simp
set_option maxHeartbeats 4000000 in
set_option maxRecDepth 100000 in
theorem hasOnlyP (b k : Nat) (w : World) (x : Int) (s1 s2 s3 s4 s5 : ByteArray) (A : Option Addr) (n c : Nat)
 (l0 : w.cell? ⟨b, k, none⟩ = some (.int .i64 x)) (l1 : w.cell? ⟨b, k + 1, none⟩ = some (.string s1)) (l2 : w.cell? ⟨b, k + 2, none⟩ = some (.string s2)) (l3 : w.cell? ⟨b, k + 3, none⟩ = some (.string s3)) (l4 : w.cell? ⟨b, k + 4, none⟩ = some (.string s4)) (l5 : w.cell? ⟨b, k + 5, none⟩ = some (.string s5)) (l6 : w.cell? ⟨b, k + 6, none⟩ = some (.slice A n c)) :
 Calls Tryz.prog 109 #[.pointer (some ⟨b, k, none⟩), .agg #[.int .i64 0, .string s1, .string s2, .string s3, .string s4, .string s5, .slice A n c]] w (RetB w true) := by
 have hlt := World.block_lt_of_cell? w _ l0
 have hne : ¬ b = w.heap.size := by have : b < w.heap.size := hlt; omega
 have hb0 := Below.alloc (Below.refl w.heap.size w) (Nat.le_refl _) (.cells #[.int .i64 x, .string s1, .string s2, .string s3, .string s4, .string s5, .slice A n c] 27)
 have hg0 := heap_alloc_new w (.cells #[.int .i64 x, .string s1, .string s2, .string s3, .string s4, .string s5, .slice A n c] 27)
 go_enter Tryz.func109, Tryz.ntmps109
 go_wp2_with fail
 have k0 := (hb0.cell (p := ⟨b, k, none⟩) hlt).trans l0
 have k1 := (hb0.cell (p := ⟨b, k + 1, none⟩) hlt).trans l1
 have k2 := (hb0.cell (p := ⟨b, k + 2, none⟩) hlt).trans l2
 have k3 := (hb0.cell (p := ⟨b, k + 3, none⟩) hlt).trans l3
 have k4 := (hb0.cell (p := ⟨b, k + 4, none⟩) hlt).trans l4
 have k5 := (hb0.cell (p := ⟨b, k + 5, none⟩) hlt).trans l5
 have k6 := (hb0.cell (p := ⟨b, k + 6, none⟩) hlt).trans l6
 generalize w.alloc (.cells #[.int .i64 x, .string s1, .string s2, .string s3, .string s4, .string s5, .slice A n c] 27) = W at hb0 hg0 k0 k1 k2 k3 k4 k5 k6 ⊢
 obtain ⟨⟨g0, g1, g2, g3, g4, g5, g6⟩, _⟩ := row7 hg0
 have C : Hid (∀ m, Calls Tryz.prog 147 #[.pointer (some ⟨b, k, none⟩), .pointer (some ⟨w.heap.size, 0, none⟩)] (W.drewN m) (QuietV (W.drewN m) (.bool true))) := fun m => by
  have h := sameRaw b k w.heap.size 0 (W.drewN m) x x s1 s2 s3 s4 s5 s1 s2 s3 s4 s5 k0 k1 k2 k3 k4 k5 g0 g1 g2 g3 g4 g5
  rw [eqS_self] at h
  simpa using h
 have HB := qh9 hb0
 clear l0 l1 l2 l3 l4 l5 l6 k0 k1 k2 k3 k4 k5 g0 g1 g2 g3 g4 g5 hg0 hb0
 go_quiet ((go_at_call 147; exact Calls.quiet_of (C.out _)))
 go_wp2
 go_ret
 exact ⟨rfl, HB.out.trans (⟨rfl, rfl, rfl, Nat.le_refl _, fun _ _ => rfl⟩ : Below w.heap.size W (W.drewN nq))⟩

set_option maxHeartbeats 4000000 in
set_option maxRecDepth 100000 in
theorem wellP : ∀ (a : Ob) (b k : Nat) (p : Value) (w : World) (S : Nat → Prop), a.bd 90 → In S w → At w S a b k p →
 Calls Tryz.prog 56 #[.pointer (some ⟨b, k, none⟩)] w (RetB w true) := by
 intro a
 induction a with
 | num q =>
  intro b k p w S hwf hS h
  obtain ⟨x0, x1, x2, x3, x4, x5, e, l0, l1, l2, l3, l4, l5, l6⟩ := h.cells
  obtain rfl := h.2.2.flat rfl
  have hlt : b < w.heap.size := hS b h.1.1
  rw [cellsO_f] at e
  simp only [List.cons.injEq, and_true] at e
  obtain ⟨rfl, rfl, rfl, rfl, rfl, rfl⟩ := e
  have hF : Hid (∀ w, Calls Tryz.prog 110 #[.string (nt q), .string (dt q)] w (RetB w true)) := fun w => isFracQ q hwf w
  have HO : Hid (∀ wd, Below w.heap.size w wd → Calls Tryz.prog 109 #[.pointer (some ⟨b, k, none⟩), .agg #[.int .i64 0, .string (nt q), .string (dt q), .string ⟨#[]⟩, .string ⟨#[]⟩, .string ⟨#[]⟩, .slice none 0 0]] wd (RetB wd true)) := fun wd hb =>
   hasOnlyP b k wd 1 (nt q) (dt q) ⟨#[]⟩ ⟨#[]⟩ ⟨#[]⟩ none 0 0 ((hb.cell (p := ⟨b, k, none⟩) hlt).trans l0) ((hb.cell (p := ⟨b, k + 1, none⟩) hlt).trans l1) ((hb.cell (p := ⟨b, k + 2, none⟩) hlt).trans l2) ((hb.cell (p := ⟨b, k + 3, none⟩) hlt).trans l3) ((hb.cell (p := ⟨b, k + 4, none⟩) hlt).trans l4) ((hb.cell (p := ⟨b, k + 5, none⟩) hlt).trans l5) ((hb.cell (p := ⟨b, k + 6, none⟩) hlt).trans l6)
  have HC : Hid (∀ wd, Below w.heap.size w wd → wd.cell? ⟨b, k + 1, none⟩ = some (.string (nt q)) ∧ wd.cell? ⟨b, k + 2, none⟩ = some (.string (dt q))) := fun wd hb => ⟨(hb.cell (p := ⟨b, k + 1, none⟩) hlt).trans l1, (hb.cell (p := ⟨b, k + 2, none⟩) hlt).trans l2⟩
  have hB0 : Below w.heap.size w w.drew := (Below.refl _ _).drew
  change w.cell? ⟨b, k, none⟩ = some (.int .i64 1) at l0
  change w.cell? ⟨b, k + 1, none⟩ = some (.string (nt q)) at l1
  change w.cell? ⟨b, k + 2, none⟩ = some (.string (dt q)) at l2
  clear l3 l4 l5 l6 h hwf
  generalize nt q = nq at *
  generalize dt q = dq at *
  go_enter Tryz.func56, Tryz.ntmps56
  go_wp2_with fail
  go_region_held3 (fun W' => W'.cell? ⟨b, k + 1, none⟩ = some (.string nq) ∧ W'.cell? ⟨b, k + 2, none⟩ = some (.string dq)) (go_keep)
   (first
     | (go_at_call 109; refine (HO.out _ ‹Below w.heap.size w _›).mono ?_; rintro e w3 ⟨rfl, hb3⟩; have hB3 := chain2 ‹Below w.heap.size w _› hb3 (Nat.le_refl _); obtain ⟨l1, l2⟩ := HC.out _ hB3; clear hb3)
     | (go_at_call 110; refine (hF.out _).mono ?_; rintro e w4 ⟨rfl, hb4⟩; have hB4 := chain2 ‹Below w.heap.size w _› hb4 (Nat.le_refl _); obtain ⟨l1, l2⟩ := HC.out _ hB4; clear hb4))
  all_goals go_wp2
  all_goals go_ret
  all_goals exact ⟨rfl, ‹Below w.heap.size w _›⟩
 | str s =>
  intro b k p w S hwf hS h
  obtain ⟨x0, x1, x2, x3, x4, x5, e, l0, l1, l2, l3, l4, l5, l6⟩ := h.cells
  obtain rfl := h.2.2.flat rfl
  have hlt : b < w.heap.size := hS b h.1.1
  rw [cellsO_f] at e
  simp only [List.cons.injEq, and_true] at e
  obtain ⟨rfl, rfl, rfl, rfl, rfl, rfl⟩ := e
  have hsz : ((BA s).size : Int) ≤ 200 := by rw [BA_size]; have : s.length ≤ 200 := hwf; omega
  change w.cell? ⟨b, k, none⟩ = some (.int .i64 3) at l0
  change w.cell? ⟨b, k + 5, none⟩ = some (.string (BA s)) at l5
  have HO := qh9 (hasOnlyP b k w 3 ⟨#[]⟩ ⟨#[]⟩ ⟨#[]⟩ ⟨#[]⟩ (BA s) none 0 0 l0 l1 l2 l3 l4 l5 l6)
  have HC : Hid (∀ wd, Below w.heap.size w wd → wd.cell? ⟨b, k + 5, none⟩ = some (.string (BA s))) := fun wd hb => (hb.cell (p := ⟨b, k + 5, none⟩) hlt).trans l5
  clear l1 l2 l3 l4 l6 h hwf
  generalize BA s = t at *
  go_enter Tryz.func56, Tryz.ntmps56
  go_wp2_with fail
  refine HO.out.mono ?_
  rintro e w1 ⟨rfl, hb1⟩
  have j5 := HC.out _ hb1
  have HB := qh9 hb1
  clear hb1 l5 l0
  go_wp2
  go_ret
  exact ⟨rfl, HB.out⟩
 | sym s n =>
  intro b k p w S hwf hS h
  obtain ⟨x0, x1, x2, x3, x4, x5, e, l0, l1, l2, l3, l4, l5, l6⟩ := h.cells
  obtain rfl := h.2.2.flat rfl
  have hlt : b < w.heap.size := hS b h.1.1
  rw [cellsO_f] at e
  simp only [List.cons.injEq, and_true] at e
  obtain ⟨rfl, rfl, rfl, rfl, rfl, rfl⟩ := e
  obtain ⟨hpk, hn1, hn2⟩ := hwf
  have hN := fun w => isNameP (BA n) (by rw [BA_size]; exact hn1) (by rw [BA_size]; exact hn2) w
  replace hN := qh9 hN
  have hP : Hid (∀ w, Calls Tryz.prog 111 #[.string (BA s)] w fun e w' => e = .returned (.bool true) ∧ w = w') := by
   rcases hpk with rfl | rfl
   · exact isPackageP
   · exact isPackageU
  change w.cell? ⟨b, k, none⟩ = some (.int .i64 2) at l0
  change w.cell? ⟨b, k + 3, none⟩ = some (.string (BA s)) at l3
  change w.cell? ⟨b, k + 4, none⟩ = some (.string (BA n)) at l4
  have HO := qh9 (hasOnlyP b k w 2 ⟨#[]⟩ ⟨#[]⟩ (BA s) (BA n) ⟨#[]⟩ none 0 0 l0 l1 l2 l3 l4 l5 l6)
  have HC : Hid (∀ wd, Below w.heap.size w wd → wd.cell? ⟨b, k + 3, none⟩ = some (.string (BA s)) ∧ wd.cell? ⟨b, k + 4, none⟩ = some (.string (BA n))) := fun wd hb => ⟨(hb.cell (p := ⟨b, k + 3, none⟩) hlt).trans l3, (hb.cell (p := ⟨b, k + 4, none⟩) hlt).trans l4⟩
  clear l1 l2 l5 l6 h hn1 hn2 hpk
  generalize BA s = t at *
  generalize BA n = t' at *
  go_enter Tryz.func56, Tryz.ntmps56
  go_wp2_with fail
  refine HO.out.mono ?_
  rintro e w1 ⟨rfl, hb1⟩
  obtain ⟨j3, j4⟩ := HC.out _ hb1
  have HB := qh9 hb1
  clear hb1 l0 l3 l4
  go_wp2_with fail
  refine (hP.out _).mono ?_
  rintro e w2 ⟨rfl, rfl⟩
  go_wp2_with fail
  refine (hN.out _).mono ?_
  rintro e w2 ⟨rfl, rfl⟩
  go_wp2
  go_ret
  exact ⟨rfl, HB.out⟩
 | cons a d iha ihd =>
  intro b k p w S hwf hS h
  obtain ⟨x0, x1, x2, x3, x4, x5, e, l0, l1, l2, l3, l4, l5, l6⟩ := h.cells
  obtain ⟨b', o', c', pa, pd, rfl, hc, hA, hD⟩ := h.2.2.parts
  have hlt : b < w.heap.size := hS b h.1.1
  rw [cellsO_f] at e
  simp only [List.cons.injEq, and_true] at e
  obtain ⟨rfl, rfl, rfl, rfl, rfl, rfl⟩ := e
  have CA : Hid (∀ wd, Below w.heap.size w wd → Calls Tryz.prog 56 #[.pointer (some ⟨b', o', none⟩)] wd (RetB wd true)) := fun wd hb => iha b' o' pa wd S hwf.1 (hS.later hb.size) (hA.below hS hb)
  have CD : Hid (∀ wd, Below w.heap.size w wd → Calls Tryz.prog 56 #[.pointer (some ⟨b', o' + 7, none⟩)] wd (RetB wd true)) := fun wd hb => ihd b' (o' + 7) pd wd S hwf.2 (hS.later hb.size) (hD.below hS hb)
  change w.cell? ⟨b, k, none⟩ = some (.int .i64 4) at l0
  have HO := qh9 (hasOnlyP b k w 4 ⟨#[]⟩ ⟨#[]⟩ ⟨#[]⟩ ⟨#[]⟩ ⟨#[]⟩ (some ⟨b', o', none⟩) 2 c' l0 l1 l2 l3 l4 l5 l6)
  have HC : Hid (∀ wd, Below w.heap.size w wd → wd.cell? ⟨b, k + 6, none⟩ = some (.slice (some ⟨b', o', none⟩) 2 c')) := fun wd hb => (hb.cell (p := ⟨b, k + 6, none⟩) hlt).trans l6
  clear l1 l2 l3 l4 l5 h hwf iha ihd hA hD
  go_enter Tryz.func56, Tryz.ntmps56
  go_wp2_with fail
  refine HO.out.mono ?_
  rintro e w1 ⟨rfl, hb1⟩
  have j6 := HC.out _ hb1
  have HB := qh9 hb1
  clear hb1 l0 l6
  go_wp2_with fail
  refine (CA.out _ HB.out).mono ?_
  rintro e w2 ⟨rfl, hb2⟩
  have HB2 := qc9 HB hb2
  have j7 := HC.out _ HB2.out
  clear hb2 j6
  go_wp2_with fail
  refine (CD.out _ HB2.out).mono ?_
  rintro e w3 ⟨rfl, hb3⟩
  have HB3 := qc9 HB2 hb3
  clear hb3 j7
  go_wp2
  go_ret
  exact ⟨rfl, HB3.out⟩

set_option maxHeartbeats 1000000 in
set_option maxRecDepth 100000 in
theorem validP (a : Ob) (p : Value) (w : World) (S : Nat → Prop) (hwf : a.bd 90) (hn : a.nodes ≤ 3000) (hS : In S w) (h : Pair w S a p) :
 Calls Tryz.prog 38 #[vO a p] w (RetB w true) := by
 obtain ⟨x0, x1, x2, x3, x4, x5, e⟩ := cells7 a p
 have hb : Below w.heap.size w (w.alloc (.cells #[x0, x1, x2, x3, x4, x5, p] 27)) := Below.alloc (Below.refl _ _) (Nat.le_refl _) _
 have hg := heap_alloc_new w (.cells #[x0, x1, x2, x3, x4, x5, p] 27)
 have hA : At (w.alloc (.cells #[x0, x1, x2, x3, x4, x5, p] 27)) (fun b => S b ∨ b = w.heap.size) a w.heap.size 0 p := by
  refine ⟨⟨.inr rfl, _, _, hg⟩, fun j u hj => ?_, (h.below hS hb).more fun _ h => .inl h⟩
  rw [Nat.zero_add, cell_of_row _ _ _ _ _ _ hg, ← hj, e]
  simp
 have hS' : In (fun b => S b ∨ b = w.heap.size) (w.alloc (.cells #[x0, x1, x2, x3, x4, x5, p] 27)) := fun b hb => by
  rcases hb with hb | rfl
  · have := hS b hb; simp; omega
  · simp
 have N := nodesP a p _ S (hS.later hb.size) (h.below hS hb) hn
 unfold vO at N
 rw [e] at N
 replace N := qh9 N
 have V : Hid (∀ wd, Below (w.heap.size + 1) (w.alloc (.cells #[x0, x1, x2, x3, x4, x5, p] 27)) wd → Calls Tryz.prog 56 #[.pointer (some ⟨w.heap.size, 0, none⟩)] wd (RetB wd true)) := fun wd hb' =>
  wellP a w.heap.size 0 p wd _ hwf (hS'.later hb'.size) (hA.below (B := w.heap.size + 1) (fun b hb => by have := hS' b hb; simpa using this) hb')
 unfold vO
 rw [e]
 have hz : (w.alloc (.cells #[x0, x1, x2, x3, x4, x5, p] 27)).heap.size = w.heap.size + 1 := by simp
 have hnn : (a.nodes : Int) ≤ 3000 := by omega
 clear e hA hS' h hS hg hwf
 go_enter Tryz.func38, Tryz.ntmps38
 go_wp2_with fail
 refine N.out.mono ?_
 rintro e w1 ⟨rfl, hb1⟩
 rw [hz] at hb1
 have V1 := qh9 (V.out _ hb1)
 have HB := qh9 (hb.trans (hb1.mono (by omega)))
 clear hb1 hb V N hz
 go_wp2_with fail
 refine V1.out.mono ?_
 rintro e w2 ⟨rfl, hb2⟩
 have HB2 := qh9 (HB.out.trans (hb2.mono HB.out.size))
 clear hb2
 go_wp2
 go_ret
 exact ⟨rfl, HB2.out⟩
set_option maxHeartbeats 1000000 in
set_option maxRecDepth 100000 in
theorem fixR (a : Ob) (p : Value) (w : World) (hp : ∀ q, a = .num q → p = .slice none 0 0) (ht : Tab w) :
 Calls Tryz.prog 62 #[vO a p] w (RetN w a.fix) := by
 have HT := qh9 ht
 clear ht
 have hz : Hid (∀ w, Tab w → Calls Tryz.prog 10 #[.int .i64 0] w (RetN w 0)) := fun w ht =>
  (intO 0 w (fun _ => False) (fun _ h => h.elim) (i64_small (by omega)) ht).mono fun _ _ h => RetO.num h
 by_cases hk : (fO a).1 = 1
 · cases a with
   | num q =>
    obtain rfl := hp q rfl
    rw [vQ_eq]
    show Calls _ _ _ _ (RetN w q)
    unfold vQ
    clear hk hp hz
    go_enter Tryz.func62, Tryz.ntmps62
    go_wp2_with fail
    exact retN rfl rfl (heap_alloc2_new w _ _) rfl (Below.alloc (Below.alloc (Below.refl _ _) (Nat.le_refl _) _) (by simp) _)
   | _ => simp [fO] at hk
 · have hf : a.fix = 0 := by cases a <;> first | rfl | (exact absurd rfl hk)
   rw [hf]
   have e := cellsO_f a p
   unfold vO
   rw [e]
   have hn : ((fO a).1 == 1) = false := by rw [beq_eq_false_iff_ne]; exact hk
   clear e hf hk hp
   generalize (fO a).1 = k at hn ⊢
   generalize (fO a).2 = y at ⊢
   obtain ⟨s1, s2, s3, s4, s5⟩ := y
   go_enter Tryz.func62, Tryz.ntmps62
   go_wp2_with fail
   have hb0 : Below w.heap.size w ((w.alloc (.cells #[.int .i64 k, .string s1, .string s2, .string s3, .string s4, .string s5, p] 27)).alloc (.cells #[.int .i64 0, .string ⟨#[]⟩, .string ⟨#[]⟩, .string ⟨#[]⟩, .string ⟨#[]⟩, .string ⟨#[]⟩, .slice none 0 0] 27)) := Below.alloc (Below.alloc (Below.refl _ _) (Nat.le_refl _) _) (by simp) _
   have hg0 := heap_alloc2_new w (.cells #[.int .i64 k, .string s1, .string s2, .string s3, .string s4, .string s5, p] 27) (.cells #[.int .i64 0, .string ⟨#[]⟩, .string ⟨#[]⟩, .string ⟨#[]⟩, .string ⟨#[]⟩, .string ⟨#[]⟩, .slice none 0 0] 27)
   refine (hz.out _ (HT.out.below hb0)).mono ?_
   rintro e w1 ⟨rfl, hb1⟩
   have hg1 := qh9 ((hb1.block (w.heap.size + 1) (by simp)).trans hg0)
   have hbw := qh9 (hb0.trans (hb1.mono hb0.size))
   clear hb0 hb1 hg0
   go_wp2_with (refine storeN rfl (.tmp 2) (.tmp 7) rfl (w.heap.size + 1) 0 rfl rfl _ _ hg1.out rfl ?_)
   exact retN (q := 2) (g := w.heap.size + 1) rfl rfl (setRow_heap _ _ _ _ _ _ hg1.out) rfl (below_setRowO hbw.out (by omega) _)
set_option maxHeartbeats 1000000 in
set_option maxRecDepth 100000 in
theorem isIntegerRawR (k : Int) (s1 s2 s3 s4 s5 : ByteArray) (p : Value) (w : World) :
 Calls Tryz.prog 30 #[.agg #[.int .i64 k, .string s1, .string s2, .string s3, .string s4, .string s5, p]] w (RetB w (k == 1 && (s2.toList == [49]))) := by
 cases h1 : (k == 1) with
 | false =>
  go_enter Tryz.func30, Tryz.ntmps30
  go_wp2
  go_ret
  exact ⟨rfl, Below.alloc (Below.refl _ _) (Nat.le_refl _) _⟩
 | true =>
  cases h2 : (s2.toList == [49]) with
  | false =>
   go_enter Tryz.func30, Tryz.ntmps30
   go_wp2
   go_ret
   exact ⟨rfl, Below.alloc (Below.refl _ _) (Nat.le_refl _) _⟩
  | true =>
   go_enter Tryz.func30, Tryz.ntmps30
   go_wp2
   go_ret
   exact ⟨rfl, Below.alloc (Below.refl _ _) (Nat.le_refl _) _⟩

theorem isIntegerR (o : Ob) (p : Value) (w : World) : Calls Tryz.prog 30 #[vO o p] w (RetB w o.isInt) := by
 obtain ⟨k, s1, s2, s3, s4, s5, e, _, e2⟩ := cells_flat o p
 have e3 : o.isInt = (k == 1 && (s2.toList == [49])) := by rw [e2]; cases o <;> rfl
 unfold vO
 rw [e, e3]
 exact isIntegerRawR k s1 s2 s3 s4 s5 p w
set_option maxHeartbeats 1000000 in
set_option maxRecDepth 100000 in
theorem isConsR (a : Ob) (p : Value) (w : World) (S : Nat → Prop) (h : Pair w S a p) : Calls Tryz.prog 63 #[vO a p] w (RetB w a.isCons) := by
 have e := cellsO_f a p
 unfold vO
 rw [e]
 cases hc : a.isCons with
 | true =>
  cases a with
  | cons x y =>
   obtain ⟨b, o, c, pa, pd, rfl, h2, _, _⟩ := h.parts
   show Calls _ _ #[.agg #[.int .i64 4, .string ⟨#[]⟩, .string ⟨#[]⟩, .string ⟨#[]⟩, .string ⟨#[]⟩, .string ⟨#[]⟩, .slice (some ⟨b, o, none⟩) 2 c]] _ _
   clear e hc h
   go_enter Tryz.func63, Tryz.ntmps63
   go_wp2
   go_ret
   exact ⟨rfl, Below.alloc (Below.refl _ _) (Nat.le_refl _) _⟩
  | _ => simp [Ob.isCons] at hc
 | false =>
  have hk : ((fO a).1 == 4) = false := by cases a <;> first | rfl | simp [Ob.isCons] at hc
  clear e hc h
  generalize (fO a).1 = k at hk ⊢
  generalize (fO a).2 = y
  obtain ⟨s1, s2, s3, s4, s5⟩ := y
  go_enter Tryz.func63, Tryz.ntmps63
  go_wp2
  go_ret
  exact ⟨rfl, Below.alloc (Below.refl _ _) (Nat.le_refl _) _⟩
set_option maxHeartbeats 1000000 in
set_option maxRecDepth 100000 in
theorem rankR (a : Ob) (p : Value) (w : World) : Calls Tryz.prog 158 #[vO a p] w (RetI w a.rank) := by
 unfold vO
 cases a with
 | num q =>
  show Calls _ _ #[.agg #[.int .i64 1, .string (nt q), .string (dt q), .string ⟨#[]⟩, .string ⟨#[]⟩, .string ⟨#[]⟩, p]] _ _
  go_enter Tryz.func158, Tryz.ntmps158
  go_wp2
  go_ret
  exact ⟨rfl, Below.alloc (Below.refl _ _) (Nat.le_refl _) _⟩
 | str s =>
  show Calls _ _ #[.agg #[.int .i64 3, .string ⟨#[]⟩, .string ⟨#[]⟩, .string ⟨#[]⟩, .string ⟨#[]⟩, .string (BA s), p]] _ _
  go_enter Tryz.func158, Tryz.ntmps158
  go_wp2
  go_ret
  exact ⟨rfl, Below.alloc (Below.refl _ _) (Nat.le_refl _) _⟩
 | sym s n =>
  show Calls _ _ #[.agg #[.int .i64 2, .string ⟨#[]⟩, .string ⟨#[]⟩, .string (BA s), .string (BA n), .string ⟨#[]⟩, p]] _ _
  go_enter Tryz.func158, Tryz.ntmps158
  go_wp2
  go_ret
  exact ⟨rfl, Below.alloc (Below.refl _ _) (Nat.le_refl _) _⟩
 | cons x y =>
  show Calls _ _ #[.agg #[.int .i64 4, .string ⟨#[]⟩, .string ⟨#[]⟩, .string ⟨#[]⟩, .string ⟨#[]⟩, .string ⟨#[]⟩, p]] _ _
  go_enter Tryz.func158, Tryz.ntmps158
  go_wp2
  go_ret
  exact ⟨rfl, Below.alloc (Below.refl _ _) (Nat.le_refl _) _⟩
set_option maxHeartbeats 1000000 in
set_option maxRecDepth 100000 in
theorem bytesR (s t : ByteArray) (w : World) : Calls Tryz.prog 160 #[.string s, .string t] w fun e w' => e = .returned (.int .i64 (ordB (LA s) (LA t))) ∧ w = w' := by
 have h1 := less_eq (LA s) (LA t)
 have h2 := less_eq (LA t) (LA s)
 have ha := ordB_anti (LA s) (LA t)
 rcases ordB_range (LA s) (LA t) with hr | hr | hr
 all_goals have hr0 := hr
 · rw [hr] at h1 ⊢
   have h1' : Op.bytesLess s.toList t.toList = true := by rw [Lib.toList_data, Lib.toList_data]; change Op.bytesLess (LA s) (LA t) = true; rw [h1]; rfl
   clear h1 h2 ha hr hr0
   go_enter Tryz.func160, Tryz.ntmps160
   go_wp2
   go_ret
   exact ⟨rfl, rfl⟩
 · rw [hr] at h1 ha ⊢
   rw [ha] at h2
   have h1' : Op.bytesLess s.toList t.toList = false := by rw [Lib.toList_data, Lib.toList_data]; change Op.bytesLess (LA s) (LA t) = false; rw [h1]; rfl
   have h2' : (s.toList == t.toList) = true := by
    rw [Lib.toList_data, Lib.toList_data]
    exact beq_iff_eq.2 ((ordB_zero (LA s) (LA t)).1 hr0)
   clear h1 h2 ha hr hr0
   go_enter Tryz.func160, Tryz.ntmps160
   go_wp2
   go_ret
   exact ⟨rfl, rfl⟩
 · rw [hr] at h1 ha ⊢
   rw [ha] at h2
   have h1' : Op.bytesLess s.toList t.toList = false := by rw [Lib.toList_data, Lib.toList_data]; change Op.bytesLess (LA s) (LA t) = false; rw [h1]; rfl
   have h2' : (s.toList == t.toList) = false := by
    rw [Lib.toList_data, Lib.toList_data, beq_eq_false_iff_ne]
    intro e
    have e0 := (ordB_zero (LA s) (LA t)).2 e
    omega
   clear h1 h2 ha hr hr0
   go_enter Tryz.func160, Tryz.ntmps160
   go_wp2
   go_ret
   exact ⟨rfl, rfl⟩
set_option maxHeartbeats 1000000 in
set_option maxRecDepth 100000 in
theorem cmpSymR (s t s' t' : ByteArray) (w : World) : Calls Tryz.prog 161 #[.agg #[.string s, .string t], .agg #[.string s', .string t']] w (RetI w (ordS (LA s) (LA t) (LA s') (LA t'))) := by
 have hb : Below w.heap.size w ((w.alloc (.cells #[.string s, .string t] 24)).alloc (.cells #[.string s', .string t'] 24)) := Below.alloc (Below.alloc (Below.refl _ _) (Nat.le_refl _) _) (by simp) _
 cases hd : (t.toList == t'.toList) with
 | true =>
  have e : LA t = LA t' := by
   have := eq_of_beq hd
   rwa [Lib.toList_data, Lib.toList_data] at this
  have hr : Hid (ordB (LA s) (LA s') = ordS (LA s) (LA t) (LA s') (LA t')) := by
   show _ = _
   unfold ordS next
   rw [if_pos ((ordB_zero _ _).2 e)]
  have hn : (t.toList != t'.toList) = false := by rw [bne, hd]; rfl
  clear e
  go_enter Tryz.func161, Tryz.ntmps161
  go_wp2_with fail
  refine (bytesR s s' _).mono ?_
  rintro e w' ⟨rfl, rfl⟩
  have HB := qh9 hb
  clear hb
  go_wp2
  go_ret
  exact ⟨ret_int hr.out, HB.out⟩
 | false =>
  have e : LA t ≠ LA t' := fun e => by
   have : (t.toList == t'.toList) = true := by rw [Lib.toList_data, Lib.toList_data]; exact beq_iff_eq.2 e
   rw [hd] at this; cases this
  have hr : Hid (ordB (LA t) (LA t') = ordS (LA s) (LA t) (LA s') (LA t')) := by
   show _ = _
   unfold ordS next
   rw [if_neg (fun h => e ((ordB_zero _ _).1 h))]
  have hn : (t.toList != t'.toList) = true := by rw [bne, hd]; rfl
  clear e
  go_enter Tryz.func161, Tryz.ntmps161
  go_wp2_with fail
  refine (bytesR t t' _).mono ?_
  rintro e w' ⟨rfl, rfl⟩
  have HB := qh9 hb
  clear hb
  go_wp2
  go_ret
  exact ⟨ret_int hr.out, HB.out⟩
set_option maxHeartbeats 8000000 in
set_option maxRecDepth 100000 in
theorem cmpR_ne (a a' : Ob) (p p' : Value) (w : World) (hr : a.rank ≠ a'.rank) :
 Calls Tryz.prog 123 #[vO a p, vO a' p'] w (RetI w (ordO a a')) := by
 obtain ⟨x0, x1, x2, x3, x4, x5, e⟩ := cells7 a p
 obtain ⟨y0, y1, y2, y3, y4, y5, e'⟩ := cells7 a' p'
 have R1 : Hid (∀ wd, Calls Tryz.prog 158 #[.agg #[x0, x1, x2, x3, x4, x5, p]] wd (RetI wd a.rank)) := fun wd => by
  have h := rankR a p wd; unfold vO at h; rw [e] at h; exact h
 have R2 : Hid (∀ wd, Calls Tryz.prog 158 #[.agg #[y0, y1, y2, y3, y4, y5, p']] wd (RetI wd a'.rank)) := fun wd => by
  have h := rankR a' p' wd; unfold vO at h; rw [e'] at h; exact h
 have hn : (a.rank != a'.rank) = true := by rw [bne_iff_ne]; exact hr
 have HR := qh9 hr
 have HO : Hid ((a.rank < a'.rank → ordO a a' = -1) ∧ (¬ a.rank < a'.rank → ordO a a' = 1)) := ⟨fun h => ordO_less h, fun h => ordO_more (by have := HR.out; omega)⟩
 unfold vO
 rw [e, e']
 clear e e' hr HR
 generalize a.rank = ra at *
 generalize a'.rank = rb at *
 go_enter Tryz.func123, Tryz.ntmps123
 go_wp2_with fail
 have T0 := BoxB.new w #[x0, x1, x2, x3, x4, x5, p] #[y0, y1, y2, y3, y4, y5, p']
 generalize (w.alloc (.cells #[x0, x1, x2, x3, x4, x5, p] 27)).alloc (.cells #[y0, y1, y2, y3, y4, y5, p'] 27) = W at T0 ⊢
 have hB0 : Below W.heap.size W W.drew := (Below.refl _ _).drew
 obtain ⟨⟨c0, c1, c2, c3, c4, c5, c6⟩, _⟩ := row7 T0.b0
 obtain ⟨⟨d0, d1, d2, d3, d4, d5, d6⟩, _⟩ := row7 T0.b1
 have HT0 := qh9 T0
 clear T0
 go_region_held3 (fun W' => (W'.cell? ⟨w.heap.size, 0, none⟩ = some x0 ∧ W'.cell? ⟨w.heap.size, 1, none⟩ = some x1 ∧ W'.cell? ⟨w.heap.size, 2, none⟩ = some x2 ∧ W'.cell? ⟨w.heap.size, 3, none⟩ = some x3 ∧ W'.cell? ⟨w.heap.size, 4, none⟩ = some x4 ∧ W'.cell? ⟨w.heap.size, 5, none⟩ = some x5 ∧ W'.cell? ⟨w.heap.size, 6, none⟩ = some p) ∧ (W'.cell? ⟨w.heap.size + 1, 0, none⟩ = some y0 ∧ W'.cell? ⟨w.heap.size + 1, 1, none⟩ = some y1 ∧ W'.cell? ⟨w.heap.size + 1, 2, none⟩ = some y2 ∧ W'.cell? ⟨w.heap.size + 1, 3, none⟩ = some y3 ∧ W'.cell? ⟨w.heap.size + 1, 4, none⟩ = some y4 ∧ W'.cell? ⟨w.heap.size + 1, 5, none⟩ = some y5 ∧ W'.cell? ⟨w.heap.size + 1, 6, none⟩ = some p')) (first | exact ⟨(row7 (HT0.out.below ‹Below W.heap.size W _›).b0).1, (row7 (HT0.out.below ‹Below W.heap.size W _›).b1).1⟩ | go_keep)
  (first
    | (go_at_call_of 158 (Value.agg #[x0, x1, x2, x3, x4, x5, p]); refine (R1.out _).mono ?_; rintro e w3 ⟨rfl, hb3⟩; have hB3 := chain2 ‹Below W.heap.size W _› hb3 (Nat.le_refl _); clear hb3)
    | (go_at_call_of 158 (Value.agg #[y0, y1, y2, y3, y4, y5, p']); refine (R2.out _).mono ?_; rintro e w4 ⟨rfl, hb4⟩; have hB4 := chain2 ‹Below W.heap.size W _› hb4 (Nat.le_refl _); clear hb4))
 have hL := ‹Below W.heap.size W _›
 obtain ⟨⟨k0, k1, k2, k3, k4, k5, k6⟩, _⟩ := row7 (HT0.out.below ‹Below W.heap.size W w4›).b0
 obtain ⟨⟨l0, l1, l2, l3, l4, l5, l6⟩, _⟩ := row7 (HT0.out.below ‹Below W.heap.size W w4›).b1
 have hB5 : Below W.heap.size W w4.drew := (‹Below W.heap.size W w4› : Below W.heap.size W w4).drew
 go_wp2_with fail
 clear hL
 by_cases hlt : ra < rb
 · have ho := qh9 (HO.out.1 (by omega))
   go_region_held3 (fun W' => (W'.cell? ⟨w.heap.size, 0, none⟩ = some x0 ∧ W'.cell? ⟨w.heap.size, 1, none⟩ = some x1 ∧ W'.cell? ⟨w.heap.size, 2, none⟩ = some x2 ∧ W'.cell? ⟨w.heap.size, 3, none⟩ = some x3 ∧ W'.cell? ⟨w.heap.size, 4, none⟩ = some x4 ∧ W'.cell? ⟨w.heap.size, 5, none⟩ = some x5 ∧ W'.cell? ⟨w.heap.size, 6, none⟩ = some p) ∧ (W'.cell? ⟨w.heap.size + 1, 0, none⟩ = some y0 ∧ W'.cell? ⟨w.heap.size + 1, 1, none⟩ = some y1 ∧ W'.cell? ⟨w.heap.size + 1, 2, none⟩ = some y2 ∧ W'.cell? ⟨w.heap.size + 1, 3, none⟩ = some y3 ∧ W'.cell? ⟨w.heap.size + 1, 4, none⟩ = some y4 ∧ W'.cell? ⟨w.heap.size + 1, 5, none⟩ = some y5 ∧ W'.cell? ⟨w.heap.size + 1, 6, none⟩ = some p')) (first | exact ⟨(row7 (HT0.out.below ‹Below W.heap.size W _›).b0).1, (row7 (HT0.out.below ‹Below W.heap.size W _›).b1).1⟩ | go_keep)
    (first
    | (go_at_call_of 158 (Value.agg #[x0, x1, x2, x3, x4, x5, p]); refine (R1.out _).mono ?_; rintro e w3 ⟨rfl, hb3⟩; have hB3 := chain2 ‹Below W.heap.size W _› hb3 (Nat.le_refl _); clear hb3)
    | (go_at_call_of 158 (Value.agg #[y0, y1, y2, y3, y4, y5, p']); refine (R2.out _).mono ?_; rintro e w4 ⟨rfl, hb4⟩; have hB4 := chain2 ‹Below W.heap.size W _› hb4 (Nat.le_refl _); clear hb4))
   go_wp2
   go_ret
   exact ⟨ret_int ho.out.symm, (HT0.out.below ‹Below W.heap.size W _›).bel⟩
 · have ho := qh9 (HO.out.2 (by omega))
   go_region_held3 (fun W' => (W'.cell? ⟨w.heap.size, 0, none⟩ = some x0 ∧ W'.cell? ⟨w.heap.size, 1, none⟩ = some x1 ∧ W'.cell? ⟨w.heap.size, 2, none⟩ = some x2 ∧ W'.cell? ⟨w.heap.size, 3, none⟩ = some x3 ∧ W'.cell? ⟨w.heap.size, 4, none⟩ = some x4 ∧ W'.cell? ⟨w.heap.size, 5, none⟩ = some x5 ∧ W'.cell? ⟨w.heap.size, 6, none⟩ = some p) ∧ (W'.cell? ⟨w.heap.size + 1, 0, none⟩ = some y0 ∧ W'.cell? ⟨w.heap.size + 1, 1, none⟩ = some y1 ∧ W'.cell? ⟨w.heap.size + 1, 2, none⟩ = some y2 ∧ W'.cell? ⟨w.heap.size + 1, 3, none⟩ = some y3 ∧ W'.cell? ⟨w.heap.size + 1, 4, none⟩ = some y4 ∧ W'.cell? ⟨w.heap.size + 1, 5, none⟩ = some y5 ∧ W'.cell? ⟨w.heap.size + 1, 6, none⟩ = some p')) (first | exact ⟨(row7 (HT0.out.below ‹Below W.heap.size W _›).b0).1, (row7 (HT0.out.below ‹Below W.heap.size W _›).b1).1⟩ | go_keep)
    (first
    | (go_at_call_of 158 (Value.agg #[x0, x1, x2, x3, x4, x5, p]); refine (R1.out _).mono ?_; rintro e w3 ⟨rfl, hb3⟩; have hB3 := chain2 ‹Below W.heap.size W _› hb3 (Nat.le_refl _); clear hb3)
    | (go_at_call_of 158 (Value.agg #[y0, y1, y2, y3, y4, y5, p']); refine (R2.out _).mono ?_; rintro e w4 ⟨rfl, hb4⟩; have hB4 := chain2 ‹Below W.heap.size W _› hb4 (Nat.le_refl _); clear hb4))
   go_wp2
   go_ret
   exact ⟨ret_int ho.out.symm, (HT0.out.below ‹Below W.heap.size W _›).bel⟩
set_option maxHeartbeats 8000000
set_option maxRecDepth 100000

theorem cmpR_str (s t : List UInt8) (w : World) :
 Calls Tryz.prog 123 #[.agg #[.int .i64 3, .string ⟨#[]⟩, .string ⟨#[]⟩, .string ⟨#[]⟩, .string ⟨#[]⟩, .string (BA s), .slice none 0 0], .agg #[.int .i64 3, .string ⟨#[]⟩, .string ⟨#[]⟩, .string ⟨#[]⟩, .string ⟨#[]⟩, .string (BA t), .slice none 0 0]] w (RetI w (ordB s t)) := by
 have R1 : Hid (∀ wd, Calls Tryz.prog 158 #[.agg #[.int .i64 3, .string ⟨#[]⟩, .string ⟨#[]⟩, .string ⟨#[]⟩, .string ⟨#[]⟩, .string (BA s), .slice none 0 0]] wd (RetI wd 2)) := fun wd => rankR (.str s) (.slice none 0 0) wd
 have R2 : Hid (∀ wd, Calls Tryz.prog 158 #[.agg #[.int .i64 3, .string ⟨#[]⟩, .string ⟨#[]⟩, .string ⟨#[]⟩, .string ⟨#[]⟩, .string (BA t), .slice none 0 0]] wd (RetI wd 2)) := fun wd => rankR (.str t) (.slice none 0 0) wd
 have CB : Hid (∀ wd, Calls Tryz.prog 160 #[.string (BA s), .string (BA t)] wd fun e w' => e = .returned (.int .i64 (ordB s t)) ∧ wd = w') := fun wd => by
  have h := bytesR (BA s) (BA t) wd; rw [LA_BA, LA_BA] at h; exact h
 generalize BA s = bs at R1 R2 CB ⊢
 generalize BA t = bt at R1 R2 CB ⊢
 go_enter Tryz.func123, Tryz.ntmps123
 go_wp2_with fail
 have T0 := BoxB.new w #[.int .i64 3, .string ⟨#[]⟩, .string ⟨#[]⟩, .string ⟨#[]⟩, .string ⟨#[]⟩, .string bs, .slice none 0 0] #[.int .i64 3, .string ⟨#[]⟩, .string ⟨#[]⟩, .string ⟨#[]⟩, .string ⟨#[]⟩, .string bt, .slice none 0 0]
 generalize (w.alloc (.cells #[.int .i64 3, .string ⟨#[]⟩, .string ⟨#[]⟩, .string ⟨#[]⟩, .string ⟨#[]⟩, .string bs, .slice none 0 0] 27)).alloc (.cells #[.int .i64 3, .string ⟨#[]⟩, .string ⟨#[]⟩, .string ⟨#[]⟩, .string ⟨#[]⟩, .string bt, .slice none 0 0] 27) = W at T0 ⊢
 have hB0 : Below W.heap.size W W.drew := (Below.refl _ _).drew
 obtain ⟨⟨c0, c1, c2, c3, c4, c5, c6⟩, _⟩ := row7 T0.b0
 obtain ⟨⟨d0, d1, d2, d3, d4, d5, d6⟩, _⟩ := row7 T0.b1
 have HT0 := qh9 T0
 clear T0
 go_region_held3 (fun W' => (W'.cell? ⟨w.heap.size, 0, none⟩ = some (.int .i64 3) ∧ W'.cell? ⟨w.heap.size, 1, none⟩ = some (.string ⟨#[]⟩) ∧ W'.cell? ⟨w.heap.size, 2, none⟩ = some (.string ⟨#[]⟩) ∧ W'.cell? ⟨w.heap.size, 3, none⟩ = some (.string ⟨#[]⟩) ∧ W'.cell? ⟨w.heap.size, 4, none⟩ = some (.string ⟨#[]⟩) ∧ W'.cell? ⟨w.heap.size, 5, none⟩ = some (.string bs) ∧ W'.cell? ⟨w.heap.size, 6, none⟩ = some (.slice none 0 0)) ∧ (W'.cell? ⟨w.heap.size + 1, 0, none⟩ = some (.int .i64 3) ∧ W'.cell? ⟨w.heap.size + 1, 1, none⟩ = some (.string ⟨#[]⟩) ∧ W'.cell? ⟨w.heap.size + 1, 2, none⟩ = some (.string ⟨#[]⟩) ∧ W'.cell? ⟨w.heap.size + 1, 3, none⟩ = some (.string ⟨#[]⟩) ∧ W'.cell? ⟨w.heap.size + 1, 4, none⟩ = some (.string ⟨#[]⟩) ∧ W'.cell? ⟨w.heap.size + 1, 5, none⟩ = some (.string bt) ∧ W'.cell? ⟨w.heap.size + 1, 6, none⟩ = some (.slice none 0 0))) (first | exact ⟨(row7 (HT0.out.below ‹Below W.heap.size W _›).b0).1, (row7 (HT0.out.below ‹Below W.heap.size W _›).b1).1⟩ | go_keep)
  (first
    | (go_at_call_of 158 (Value.agg #[.int .i64 3, .string ⟨#[]⟩, .string ⟨#[]⟩, .string ⟨#[]⟩, .string ⟨#[]⟩, .string bs, .slice none 0 0]); refine (R1.out _).mono ?_; rintro e w3 ⟨rfl, hb3⟩; have hB3 := chain2 ‹Below W.heap.size W _› hb3 (Nat.le_refl _); clear hb3)
    | (go_at_call_of 158 (Value.agg #[.int .i64 3, .string ⟨#[]⟩, .string ⟨#[]⟩, .string ⟨#[]⟩, .string ⟨#[]⟩, .string bt, .slice none 0 0]); refine (R2.out _).mono ?_; rintro e w4 ⟨rfl, hb4⟩; have hB4 := chain2 ‹Below W.heap.size W _› hb4 (Nat.le_refl _); clear hb4))
 clear c0 c1 c2 c3 c4 c5 c6 d0 d1 d2 d3 d4 d5 d6
 obtain ⟨⟨c0, c1, c2, c3, c4, c5, c6⟩, _⟩ := row7 (HT0.out.below ‹Below W.heap.size W w4›).b0
 obtain ⟨⟨d0, d1, d2, d3, d4, d5, d6⟩, _⟩ := row7 (HT0.out.below ‹Below W.heap.size W w4›).b1
 go_wp2_with fail
 refine (R1.out _).mono ?_
 rintro e w5 ⟨rfl, hb5⟩
 have hB5 := chain2 ‹Below W.heap.size W w4› hb5 (Nat.le_refl _)
 clear hb5 c0 c1 c2 c3 c4 c5 c6 d0 d1 d2 d3 d4 d5 d6
 obtain ⟨⟨c0, c1, c2, c3, c4, c5, c6⟩, _⟩ := row7 (HT0.out.below ‹Below W.heap.size W w5›).b0
 obtain ⟨⟨d0, d1, d2, d3, d4, d5, d6⟩, _⟩ := row7 (HT0.out.below ‹Below W.heap.size W w5›).b1
 go_wp2_with fail
 refine (CB.out _).mono ?_
 rintro e w6 ⟨rfl, rfl⟩
 go_wp2
 go_ret
 exact ⟨rfl, (HT0.out.below ‹Below W.heap.size W w5›).bel⟩
theorem cmpR_sym (s n t m : List UInt8) (w : World) :
 Calls Tryz.prog 123 #[.agg #[.int .i64 2, .string ⟨#[]⟩, .string ⟨#[]⟩, .string (BA s), .string (BA n), .string ⟨#[]⟩, .slice none 0 0], .agg #[.int .i64 2, .string ⟨#[]⟩, .string ⟨#[]⟩, .string (BA t), .string (BA m), .string ⟨#[]⟩, .slice none 0 0]] w (RetI w (ordS s n t m)) := by
 have R1 : Hid (∀ wd, Calls Tryz.prog 158 #[.agg #[.int .i64 2, .string ⟨#[]⟩, .string ⟨#[]⟩, .string (BA s), .string (BA n), .string ⟨#[]⟩, .slice none 0 0]] wd (RetI wd 3)) := fun wd => rankR (.sym s n) (.slice none 0 0) wd
 have R2 : Hid (∀ wd, Calls Tryz.prog 158 #[.agg #[.int .i64 2, .string ⟨#[]⟩, .string ⟨#[]⟩, .string (BA t), .string (BA m), .string ⟨#[]⟩, .slice none 0 0]] wd (RetI wd 3)) := fun wd => rankR (.sym t m) (.slice none 0 0) wd
 have CB : Hid (∀ wd, Calls Tryz.prog 161 #[.agg #[.string (BA s), .string (BA n)], .agg #[.string (BA t), .string (BA m)]] wd (RetI wd (ordS s n t m))) := fun wd => by
  have h := cmpSymR (BA s) (BA n) (BA t) (BA m) wd; rw [LA_BA, LA_BA, LA_BA, LA_BA] at h; exact h
 generalize BA s = bs at R1 R2 CB ⊢
 generalize BA t = bt at R1 R2 CB ⊢
 generalize BA n = bn at R1 R2 CB ⊢
 generalize BA m = bm at R1 R2 CB ⊢
 go_enter Tryz.func123, Tryz.ntmps123
 go_wp2_with fail
 have T0 := BoxB.new w #[.int .i64 2, .string ⟨#[]⟩, .string ⟨#[]⟩, .string bs, .string bn, .string ⟨#[]⟩, .slice none 0 0] #[.int .i64 2, .string ⟨#[]⟩, .string ⟨#[]⟩, .string bt, .string bm, .string ⟨#[]⟩, .slice none 0 0]
 generalize (w.alloc (.cells #[.int .i64 2, .string ⟨#[]⟩, .string ⟨#[]⟩, .string bs, .string bn, .string ⟨#[]⟩, .slice none 0 0] 27)).alloc (.cells #[.int .i64 2, .string ⟨#[]⟩, .string ⟨#[]⟩, .string bt, .string bm, .string ⟨#[]⟩, .slice none 0 0] 27) = W at T0 ⊢
 have hB0 : Below W.heap.size W W.drew := (Below.refl _ _).drew
 obtain ⟨⟨c0, c1, c2, c3, c4, c5, c6⟩, _⟩ := row7 T0.b0
 obtain ⟨⟨d0, d1, d2, d3, d4, d5, d6⟩, _⟩ := row7 T0.b1
 have HT0 := qh9 T0
 clear T0
 go_region_held3 (fun W' => (W'.cell? ⟨w.heap.size, 0, none⟩ = some (.int .i64 2) ∧ W'.cell? ⟨w.heap.size, 1, none⟩ = some (.string ⟨#[]⟩) ∧ W'.cell? ⟨w.heap.size, 2, none⟩ = some (.string ⟨#[]⟩) ∧ W'.cell? ⟨w.heap.size, 3, none⟩ = some (.string bs) ∧ W'.cell? ⟨w.heap.size, 4, none⟩ = some (.string bn) ∧ W'.cell? ⟨w.heap.size, 5, none⟩ = some (.string ⟨#[]⟩) ∧ W'.cell? ⟨w.heap.size, 6, none⟩ = some (.slice none 0 0)) ∧ (W'.cell? ⟨w.heap.size + 1, 0, none⟩ = some (.int .i64 2) ∧ W'.cell? ⟨w.heap.size + 1, 1, none⟩ = some (.string ⟨#[]⟩) ∧ W'.cell? ⟨w.heap.size + 1, 2, none⟩ = some (.string ⟨#[]⟩) ∧ W'.cell? ⟨w.heap.size + 1, 3, none⟩ = some (.string bt) ∧ W'.cell? ⟨w.heap.size + 1, 4, none⟩ = some (.string bm) ∧ W'.cell? ⟨w.heap.size + 1, 5, none⟩ = some (.string ⟨#[]⟩) ∧ W'.cell? ⟨w.heap.size + 1, 6, none⟩ = some (.slice none 0 0))) (first | exact ⟨(row7 (HT0.out.below ‹Below W.heap.size W _›).b0).1, (row7 (HT0.out.below ‹Below W.heap.size W _›).b1).1⟩ | go_keep)
  (first
    | (go_at_call_of 158 (Value.agg #[.int .i64 2, .string ⟨#[]⟩, .string ⟨#[]⟩, .string bs, .string bn, .string ⟨#[]⟩, .slice none 0 0]); refine (R1.out _).mono ?_; rintro e w3 ⟨rfl, hb3⟩; have hB3 := chain2 ‹Below W.heap.size W _› hb3 (Nat.le_refl _); clear hb3)
    | (go_at_call_of 158 (Value.agg #[.int .i64 2, .string ⟨#[]⟩, .string ⟨#[]⟩, .string bt, .string bm, .string ⟨#[]⟩, .slice none 0 0]); refine (R2.out _).mono ?_; rintro e w4 ⟨rfl, hb4⟩; have hB4 := chain2 ‹Below W.heap.size W _› hb4 (Nat.le_refl _); clear hb4))
 clear c0 c1 c2 c3 c4 c5 c6 d0 d1 d2 d3 d4 d5 d6
 obtain ⟨⟨c0, c1, c2, c3, c4, c5, c6⟩, _⟩ := row7 (HT0.out.below ‹Below W.heap.size W w4›).b0
 obtain ⟨⟨d0, d1, d2, d3, d4, d5, d6⟩, _⟩ := row7 (HT0.out.below ‹Below W.heap.size W w4›).b1
 go_wp2_with fail
 refine (R1.out _).mono ?_
 rintro e w5 ⟨rfl, hb5⟩
 have hB5 := chain2 ‹Below W.heap.size W w4› hb5 (Nat.le_refl _)
 clear hb5 c0 c1 c2 c3 c4 c5 c6 d0 d1 d2 d3 d4 d5 d6
 obtain ⟨⟨c0, c1, c2, c3, c4, c5, c6⟩, _⟩ := row7 (HT0.out.below ‹Below W.heap.size W w5›).b0
 obtain ⟨⟨d0, d1, d2, d3, d4, d5, d6⟩, _⟩ := row7 (HT0.out.below ‹Below W.heap.size W w5›).b1
 go_wp2_with fail
 refine (CB.out _).mono ?_
 rintro e w6 ⟨rfl, hb6⟩
 have hB6 := chain2 hB5 hb6 (Nat.le_refl _)
 clear hb6
 go_wp2
 go_ret
 exact ⟨rfl, (HT0.out.below ‹Below W.heap.size W w6›).bel⟩
set_option maxHeartbeats 8000000 in
set_option maxRecDepth 100000 in
theorem cmpR_num (d : Nat) (hd : d ≤ 1000) (x y : Rat) (hx : Bd d x) (hy : Bd d y) (w : World) :
 Calls Tryz.prog 123 #[.agg #[.int .i64 1, .string (nt x), .string (dt x), .string ⟨#[]⟩, .string ⟨#[]⟩, .string ⟨#[]⟩, .slice none 0 0], .agg #[.int .i64 1, .string (nt y), .string (dt y), .string ⟨#[]⟩, .string ⟨#[]⟩, .string ⟨#[]⟩, .slice none 0 0]] w (RetI w (ordQ x y)) := by
 have R1 : Hid (∀ wd, Calls Tryz.prog 158 #[.agg #[.int .i64 1, .string (nt x), .string (dt x), .string ⟨#[]⟩, .string ⟨#[]⟩, .string ⟨#[]⟩, .slice none 0 0]] wd (RetI wd 1)) := fun wd => rankR (.num x) (.slice none 0 0) wd
 have R2 : Hid (∀ wd, Calls Tryz.prog 158 #[.agg #[.int .i64 1, .string (nt y), .string (dt y), .string ⟨#[]⟩, .string ⟨#[]⟩, .string ⟨#[]⟩, .slice none 0 0]] wd (RetI wd 1)) := fun wd => rankR (.num y) (.slice none 0 0) wd
 have b1 := bd_nt hx
 have b2 := bd_dt hx
 have b3 := bd_nt hy
 have b4 := bd_dt hy
 have s1 : (BA (text (val (LA (nt x)) * val (LA (dt y))))).size ≤ 3000 := by
  rw [val_nt, val_dt, BA_size]
  refine Nat.le_trans (text_length (k := d + d) ?_) (by omega)
  rw [Int.natAbs_mul]
  exact lt_pow_mul hx.1 hy.2
 have s2 : (BA (text (val (LA (nt y)) * val (LA (dt x))))).size ≤ 3000 := by
  rw [val_nt, val_dt, BA_size]
  refine Nat.le_trans (text_length (k := d + d) ?_) (by omega)
  rw [Int.natAbs_mul]
  exact lt_pow_mul hy.1 hx.2
 have CB : Hid (∀ wd, Calls Tryz.prog 159 #[.string (BA (text (val (LA (nt x)) * val (LA (dt y))))), .string (BA (text (val (LA (nt y)) * val (LA (dt x)))))] wd (RetI wd (ordQ x y))) := fun wd => by
  have h := compareR (BA (text (val (LA (nt x)) * val (LA (dt y))))) (BA (text (val (LA (nt y)) * val (LA (dt x))))) wd (by omega) (by omega)
  rw [LA_BA, LA_BA, val_text, val_text] at h
  have e : ordI (val (LA (nt x)) * val (LA (dt y))) (val (LA (nt y)) * val (LA (dt x))) = ordQ x y := by rw [val_nt, val_dt, val_nt, val_dt, ordQ_eq]
  rw [e] at h
  exact h
 clear hx hy s1 s2
 generalize ordQ x y = r at CB ⊢
 generalize nt x = nx at b1 R1 CB ⊢
 generalize dt x = dx at b2 R1 CB ⊢
 generalize nt y = ny at b3 R2 CB ⊢
 generalize dt y = dy at b4 R2 CB ⊢
 go_enter Tryz.func123, Tryz.ntmps123
 go_wp2_with fail
 have T0 := BoxB.new w #[.int .i64 1, .string nx, .string dx, .string ⟨#[]⟩, .string ⟨#[]⟩, .string ⟨#[]⟩, .slice none 0 0] #[.int .i64 1, .string ny, .string dy, .string ⟨#[]⟩, .string ⟨#[]⟩, .string ⟨#[]⟩, .slice none 0 0]
 generalize (w.alloc (.cells #[.int .i64 1, .string nx, .string dx, .string ⟨#[]⟩, .string ⟨#[]⟩, .string ⟨#[]⟩, .slice none 0 0] 27)).alloc (.cells #[.int .i64 1, .string ny, .string dy, .string ⟨#[]⟩, .string ⟨#[]⟩, .string ⟨#[]⟩, .slice none 0 0] 27) = W at T0 ⊢
 have hB0 : Below W.heap.size W W.drew := (Below.refl _ _).drew
 obtain ⟨⟨c0, c1, c2, c3, c4, c5, c6⟩, _⟩ := row7 T0.b0
 obtain ⟨⟨d0, d1, d2, d3, d4, d5, d6⟩, _⟩ := row7 T0.b1
 have HT0 := qh9 T0
 clear T0
 go_region_held3 (fun W' => (W'.cell? ⟨w.heap.size, 0, none⟩ = some (.int .i64 1) ∧ W'.cell? ⟨w.heap.size, 1, none⟩ = some (.string nx) ∧ W'.cell? ⟨w.heap.size, 2, none⟩ = some (.string dx) ∧ W'.cell? ⟨w.heap.size, 3, none⟩ = some (.string ⟨#[]⟩) ∧ W'.cell? ⟨w.heap.size, 4, none⟩ = some (.string ⟨#[]⟩) ∧ W'.cell? ⟨w.heap.size, 5, none⟩ = some (.string ⟨#[]⟩) ∧ W'.cell? ⟨w.heap.size, 6, none⟩ = some (.slice none 0 0)) ∧ (W'.cell? ⟨w.heap.size + 1, 0, none⟩ = some (.int .i64 1) ∧ W'.cell? ⟨w.heap.size + 1, 1, none⟩ = some (.string ny) ∧ W'.cell? ⟨w.heap.size + 1, 2, none⟩ = some (.string dy) ∧ W'.cell? ⟨w.heap.size + 1, 3, none⟩ = some (.string ⟨#[]⟩) ∧ W'.cell? ⟨w.heap.size + 1, 4, none⟩ = some (.string ⟨#[]⟩) ∧ W'.cell? ⟨w.heap.size + 1, 5, none⟩ = some (.string ⟨#[]⟩) ∧ W'.cell? ⟨w.heap.size + 1, 6, none⟩ = some (.slice none 0 0))) (first | exact ⟨(row7 (HT0.out.below ‹Below W.heap.size W _›).b0).1, (row7 (HT0.out.below ‹Below W.heap.size W _›).b1).1⟩ | go_keep)
  (first
    | (go_at_call_of 158 (Value.agg #[.int .i64 1, .string nx, .string dx, .string ⟨#[]⟩, .string ⟨#[]⟩, .string ⟨#[]⟩, .slice none 0 0]); refine (R1.out _).mono ?_; rintro e w3 ⟨rfl, hb3⟩; have hB3 := chain2 ‹Below W.heap.size W _› hb3 (Nat.le_refl _); clear hb3)
    | (go_at_call_of 158 (Value.agg #[.int .i64 1, .string ny, .string dy, .string ⟨#[]⟩, .string ⟨#[]⟩, .string ⟨#[]⟩, .slice none 0 0]); refine (R2.out _).mono ?_; rintro e w4 ⟨rfl, hb4⟩; have hB4 := chain2 ‹Below W.heap.size W _› hb4 (Nat.le_refl _); clear hb4))
 clear c0 c1 c2 c3 c4 c5 c6 d0 d1 d2 d3 d4 d5 d6
 obtain ⟨⟨c0, c1, c2, c3, c4, c5, c6⟩, _⟩ := row7 (HT0.out.below ‹Below W.heap.size W w4›).b0
 obtain ⟨⟨d0, d1, d2, d3, d4, d5, d6⟩, _⟩ := row7 (HT0.out.below ‹Below W.heap.size W w4›).b1
 go_wp2_with fail
 refine (R1.out _).mono ?_
 rintro e w5 ⟨rfl, hb5⟩
 have hB5 := chain2 ‹Below W.heap.size W w4› hb5 (Nat.le_refl _)
 clear hb5 c0 c1 c2 c3 c4 c5 c6 d0 d1 d2 d3 d4 d5 d6
 obtain ⟨⟨c0, c1, c2, c3, c4, c5, c6⟩, _⟩ := row7 (HT0.out.below ‹Below W.heap.size W w5›).b0
 obtain ⟨⟨d0, d1, d2, d3, d4, d5, d6⟩, _⟩ := row7 (HT0.out.below ‹Below W.heap.size W w5›).b1
 go_wp2_with fail
 have hB6 : Below W.heap.size W w5.drew := (‹Below W.heap.size W w5› : Below W.heap.size W w5).drew
 go_region_held3 (fun W' => W'.cell? ⟨w.heap.size, 1, none⟩ = some (.string nx) ∧ W'.cell? ⟨w.heap.size, 2, none⟩ = some (.string dx) ∧ W'.cell? ⟨w.heap.size + 1, 1, none⟩ = some (.string ny) ∧ W'.cell? ⟨w.heap.size + 1, 2, none⟩ = some (.string dy)) (first | exact ⟨(row7 (HT0.out.below ‹Below W.heap.size W _›).b0).1.2.1, (row7 (HT0.out.below ‹Below W.heap.size W _›).b0).1.2.2.1, (row7 (HT0.out.below ‹Below W.heap.size W _›).b1).1.2.1, (row7 (HT0.out.below ‹Below W.heap.size W _›).b1).1.2.2.1⟩ | go_keep)
  (first
    | (go_at_call 122; refine (multiplyR _ _ _ (by omega) (by omega)).mono ?_; rintro e w6 ⟨rfl, hb6⟩; have hB7 := chain2 ‹Below W.heap.size W _› hb6 (Nat.le_refl _); clear hb6)
    | (go_at_call 159; refine (CB.out _).mono ?_; rintro e w7 ⟨rfl, hb7⟩; have hB8 := chain2 ‹Below W.heap.size W _› hb7 (Nat.le_refl _); clear hb7))
 go_wp2
 go_ret
 exact ⟨rfl, (HT0.out.below ‹Below W.heap.size W w7›).bel⟩
set_option maxHeartbeats 1000000 in
set_option maxRecDepth 100000 in
theorem isCons4 (A : Option Addr) (c : Nat) (w : World) : Calls Tryz.prog 63 #[.agg #[.int .i64 4, .string ⟨#[]⟩, .string ⟨#[]⟩, .string ⟨#[]⟩, .string ⟨#[]⟩, .string ⟨#[]⟩, .slice A 2 c]] w (RetB w true) := by
 go_enter Tryz.func63, Tryz.ntmps63
 go_wp2
 go_ret
 exact ⟨rfl, Below.alloc (Below.refl _ _) (Nat.le_refl _) _⟩
set_option maxHeartbeats 8000000 in
set_option maxRecDepth 100000 in
theorem cmpR_cons (b o c b' o' c' : Nat) (x0 x1 x2 x3 x4 x5 x6 y0 y1 y2 y3 y4 y5 y6 z0 z1 z2 z3 z4 z5 z6 t0 t1 t2 t3 t4 t5 t6 : Value) (r0 r1 : Int) (hc : 2 ≤ c) (hc' : 2 ≤ c')  (w : World)
 (hbl : b < w.heap.size) (hbl' : b' < w.heap.size)
 (hx : ∀ j u, #[x0, x1, x2, x3, x4, x5, x6, y0, y1, y2, y3, y4, y5, y6][j]? = some u → w.cell? ⟨b, o + j, none⟩ = some u)
 (hz : ∀ j u, #[z0, z1, z2, z3, z4, z5, z6, t0, t1, t2, t3, t4, t5, t6][j]? = some u → w.cell? ⟨b', o' + j, none⟩ = some u)
 (ih0 : ∀ w', Below w.heap.size w w' → Calls Tryz.prog 123 #[.agg #[x0, x1, x2, x3, x4, x5, x6], .agg #[z0, z1, z2, z3, z4, z5, z6]] w' (RetI w' r0))
 (ih1 : ∀ w', Below w.heap.size w w' → Calls Tryz.prog 123 #[.agg #[y0, y1, y2, y3, y4, y5, y6], .agg #[t0, t1, t2, t3, t4, t5, t6]] w' (RetI w' r1)) :
 Calls Tryz.prog 123 #[.agg #[.int .i64 4, .string ⟨#[]⟩, .string ⟨#[]⟩, .string ⟨#[]⟩, .string ⟨#[]⟩, .string ⟨#[]⟩, .slice (some ⟨b, o, none⟩) 2 c], .agg #[.int .i64 4, .string ⟨#[]⟩, .string ⟨#[]⟩, .string ⟨#[]⟩, .string ⟨#[]⟩, .string ⟨#[]⟩, .slice (some ⟨b', o', none⟩) 2 c']] w (RetI w (next r0 r1)) := by
 have R1 : Hid (∀ wd, Calls Tryz.prog 158 #[.agg #[.int .i64 4, .string ⟨#[]⟩, .string ⟨#[]⟩, .string ⟨#[]⟩, .string ⟨#[]⟩, .string ⟨#[]⟩, .slice (some ⟨b, o, none⟩) 2 c]] wd (RetI wd 4)) := fun wd => rankR (.cons .nil .nil) (.slice (some ⟨b, o, none⟩) 2 c) wd
 have R2 : Hid (∀ wd, Calls Tryz.prog 158 #[.agg #[.int .i64 4, .string ⟨#[]⟩, .string ⟨#[]⟩, .string ⟨#[]⟩, .string ⟨#[]⟩, .string ⟨#[]⟩, .slice (some ⟨b', o', none⟩) 2 c']] wd (RetI wd 4)) := fun wd => rankR (.cons .nil .nil) (.slice (some ⟨b', o', none⟩) 2 c') wd
 have IC1 := fun wd => isCons4 (some ⟨b, o, none⟩) c wd
 have IC2 := fun wd => isCons4 (some ⟨b', o', none⟩) c' wd
 replace IC1 := qh9 IC1
 replace IC2 := qh9 IC2
 have HX := qh9 hx
 have HZ := qh9 hz
 have I0 := qh9 ih0
 have I1 := qh9 ih1
 clear hx hz ih0 ih1
 go_enter Tryz.func123, Tryz.ntmps123
 go_wp2_with fail
 have T0 := BoxB.new w #[.int .i64 4, .string ⟨#[]⟩, .string ⟨#[]⟩, .string ⟨#[]⟩, .string ⟨#[]⟩, .string ⟨#[]⟩, .slice (some ⟨b, o, none⟩) 2 c] #[.int .i64 4, .string ⟨#[]⟩, .string ⟨#[]⟩, .string ⟨#[]⟩, .string ⟨#[]⟩, .string ⟨#[]⟩, .slice (some ⟨b', o', none⟩) 2 c']
 generalize (w.alloc (.cells #[.int .i64 4, .string ⟨#[]⟩, .string ⟨#[]⟩, .string ⟨#[]⟩, .string ⟨#[]⟩, .string ⟨#[]⟩, .slice (some ⟨b, o, none⟩) 2 c] 27)).alloc (.cells #[.int .i64 4, .string ⟨#[]⟩, .string ⟨#[]⟩, .string ⟨#[]⟩, .string ⟨#[]⟩, .string ⟨#[]⟩, .slice (some ⟨b', o', none⟩) 2 c'] 27) = W at T0 ⊢
 have hB0 : Below W.heap.size W W.drew := (Below.refl _ _).drew
 obtain ⟨⟨c0, c1, c2, c3, c4, c5, c6⟩, _⟩ := row7 T0.b0
 obtain ⟨⟨d0, d1, d2, d3, d4, d5, d6⟩, _⟩ := row7 T0.b1
 have HT0 := qh9 T0
 clear T0
 go_region_held3 (fun W' => (W'.cell? ⟨w.heap.size, 0, none⟩ = some (.int .i64 4) ∧ W'.cell? ⟨w.heap.size, 1, none⟩ = some (.string ⟨#[]⟩) ∧ W'.cell? ⟨w.heap.size, 2, none⟩ = some (.string ⟨#[]⟩) ∧ W'.cell? ⟨w.heap.size, 3, none⟩ = some (.string ⟨#[]⟩) ∧ W'.cell? ⟨w.heap.size, 4, none⟩ = some (.string ⟨#[]⟩) ∧ W'.cell? ⟨w.heap.size, 5, none⟩ = some (.string ⟨#[]⟩) ∧ W'.cell? ⟨w.heap.size, 6, none⟩ = some (.slice (some ⟨b, o, none⟩) 2 c)) ∧ (W'.cell? ⟨w.heap.size + 1, 0, none⟩ = some (.int .i64 4) ∧ W'.cell? ⟨w.heap.size + 1, 1, none⟩ = some (.string ⟨#[]⟩) ∧ W'.cell? ⟨w.heap.size + 1, 2, none⟩ = some (.string ⟨#[]⟩) ∧ W'.cell? ⟨w.heap.size + 1, 3, none⟩ = some (.string ⟨#[]⟩) ∧ W'.cell? ⟨w.heap.size + 1, 4, none⟩ = some (.string ⟨#[]⟩) ∧ W'.cell? ⟨w.heap.size + 1, 5, none⟩ = some (.string ⟨#[]⟩) ∧ W'.cell? ⟨w.heap.size + 1, 6, none⟩ = some (.slice (some ⟨b', o', none⟩) 2 c'))) (first | exact ⟨(row7 (HT0.out.below ‹Below W.heap.size W _›).b0).1, (row7 (HT0.out.below ‹Below W.heap.size W _›).b1).1⟩ | go_keep)
  (first
    | (go_at_call_of 158 (Value.agg #[.int .i64 4, .string ⟨#[]⟩, .string ⟨#[]⟩, .string ⟨#[]⟩, .string ⟨#[]⟩, .string ⟨#[]⟩, .slice (some ⟨b, o, none⟩) 2 c]); refine (R1.out _).mono ?_; rintro e w3 ⟨rfl, hb3⟩; have hB3 := chain2 ‹Below W.heap.size W _› hb3 (Nat.le_refl _); clear hb3)
    | (go_at_call_of 158 (Value.agg #[.int .i64 4, .string ⟨#[]⟩, .string ⟨#[]⟩, .string ⟨#[]⟩, .string ⟨#[]⟩, .string ⟨#[]⟩, .slice (some ⟨b', o', none⟩) 2 c']); refine (R2.out _).mono ?_; rintro e w4 ⟨rfl, hb4⟩; have hB4 := chain2 ‹Below W.heap.size W _› hb4 (Nat.le_refl _); clear hb4))
 clear c0 c1 c2 c3 c4 c5 c6 d0 d1 d2 d3 d4 d5 d6
 obtain ⟨⟨c0, c1, c2, c3, c4, c5, c6⟩, _⟩ := row7 (HT0.out.below ‹Below W.heap.size W w4›).b0
 obtain ⟨⟨d0, d1, d2, d3, d4, d5, d6⟩, _⟩ := row7 (HT0.out.below ‹Below W.heap.size W w4›).b1
 go_wp2_with fail
 refine (R1.out _).mono ?_
 rintro e w5 ⟨rfl, hb5⟩
 have hB5 := chain2 ‹Below W.heap.size W w4› hb5 (Nat.le_refl _)
 clear hb5 c0 c1 c2 c3 c4 c5 c6 d0 d1 d2 d3 d4 d5 d6
 obtain ⟨⟨c0, c1, c2, c3, c4, c5, c6⟩, _⟩ := row7 (HT0.out.below ‹Below W.heap.size W w5›).b0
 obtain ⟨⟨d0, d1, d2, d3, d4, d5, d6⟩, _⟩ := row7 (HT0.out.below ‹Below W.heap.size W w5›).b1
 go_wp2_with fail
 refine (IC1.out _).mono ?_
 rintro e w6 ⟨rfl, hb6⟩
 have hB6 := chain2 hB5 hb6 (Nat.le_refl _)
 clear hb6 c0 c1 c2 c3 c4 c5 c6 d0 d1 d2 d3 d4 d5 d6
 obtain ⟨⟨c0, c1, c2, c3, c4, c5, c6⟩, _⟩ := row7 (HT0.out.below hB6).b0
 obtain ⟨⟨d0, d1, d2, d3, d4, d5, d6⟩, _⟩ := row7 (HT0.out.below hB6).b1
 go_wp2_with fail
 refine (IC2.out _).mono ?_
 rintro e w7 ⟨rfl, hb7⟩
 have hB7 := chain2 hB6 hb7 (Nat.le_refl _)
 clear hb7 c0 c1 c2 c3 c4 c5 c6 d0 d1 d2 d3 d4 d5 d6
 obtain ⟨⟨c0, c1, c2, c3, c4, c5, c6⟩, _⟩ := row7 (HT0.out.below hB7).b0
 obtain ⟨⟨d0, d1, d2, d3, d4, d5, d6⟩, _⟩ := row7 (HT0.out.below hB7).b1
 have hq := (HT0.out.below hB7).bel
 have k0 := (hq.cell (p := ⟨b, o + 0, none⟩) hbl).trans (HX.out 0 _ rfl)
 have k1 := (hq.cell (p := ⟨b, o + 1, none⟩) hbl).trans (HX.out 1 _ rfl)
 have k2 := (hq.cell (p := ⟨b, o + 2, none⟩) hbl).trans (HX.out 2 _ rfl)
 have k3 := (hq.cell (p := ⟨b, o + 3, none⟩) hbl).trans (HX.out 3 _ rfl)
 have k4 := (hq.cell (p := ⟨b, o + 4, none⟩) hbl).trans (HX.out 4 _ rfl)
 have k5 := (hq.cell (p := ⟨b, o + 5, none⟩) hbl).trans (HX.out 5 _ rfl)
 have k6 := (hq.cell (p := ⟨b, o + 6, none⟩) hbl).trans (HX.out 6 _ rfl)
 have m0 := (hq.cell (p := ⟨b', o' + 0, none⟩) hbl').trans (HZ.out 0 _ rfl)
 have m1 := (hq.cell (p := ⟨b', o' + 1, none⟩) hbl').trans (HZ.out 1 _ rfl)
 have m2 := (hq.cell (p := ⟨b', o' + 2, none⟩) hbl').trans (HZ.out 2 _ rfl)
 have m3 := (hq.cell (p := ⟨b', o' + 3, none⟩) hbl').trans (HZ.out 3 _ rfl)
 have m4 := (hq.cell (p := ⟨b', o' + 4, none⟩) hbl').trans (HZ.out 4 _ rfl)
 have m5 := (hq.cell (p := ⟨b', o' + 5, none⟩) hbl').trans (HZ.out 5 _ rfl)
 have m6 := (hq.cell (p := ⟨b', o' + 6, none⟩) hbl').trans (HZ.out 6 _ rfl)
 rw [Nat.add_zero] at k0 m0
 have HB7 := qh9 hB7
 clear hB0 hB5 hB6 hq
 go_wp2_with fail
 go_still_tail 8, (by kernel_rfl)
 change wpList _ _ _ _ _ w7.drew
 have hB8 : Hid (Below W.heap.size W w7.drew) := HB7.out.drew
 clear HB7 hB7 c0 c1 c2 c3 c4 c5 c6 d0 d1 d2 d3 d4 d5 d6 k0 k1 k2 k3 k4 k5 k6 m0 m1 m2 m3 m4 m5 m6
 generalize w7.drew = w8 at hB8 ⊢
 go_wp2_with fail
 refine (I0.out _ (HT0.out.below hB8.out).bel).mono ?_
 rintro e w9 ⟨rfl, hb9⟩
 have hB9 := qc9 hB8 hb9
 clear hb9 hB8
 by_cases h0 : r0 = 0
 · have hn : (r0 != 0) = false := by rw [h0]; rfl
   have hr : Hid (r1 = next r0 r1) := by show _ = _; unfold next; rw [if_pos h0]
   clear h0
   obtain ⟨⟨c0, c1, c2, c3, c4, c5, c6⟩, _⟩ := row7 (HT0.out.below hB9.out).b0
   obtain ⟨⟨d0, d1, d2, d3, d4, d5, d6⟩, _⟩ := row7 (HT0.out.below hB9.out).b1
   have hq := (HT0.out.below hB9.out).bel
   have k0 := (hq.cell (p := ⟨b, o + 7, none⟩) hbl).trans (HX.out 7 _ rfl)
   have k1 := (hq.cell (p := ⟨b, o + 8, none⟩) hbl).trans (HX.out 8 _ rfl)
   have k2 := (hq.cell (p := ⟨b, o + 9, none⟩) hbl).trans (HX.out 9 _ rfl)
   have k3 := (hq.cell (p := ⟨b, o + 10, none⟩) hbl).trans (HX.out 10 _ rfl)
   have k4 := (hq.cell (p := ⟨b, o + 11, none⟩) hbl).trans (HX.out 11 _ rfl)
   have k5 := (hq.cell (p := ⟨b, o + 12, none⟩) hbl).trans (HX.out 12 _ rfl)
   have k6 := (hq.cell (p := ⟨b, o + 13, none⟩) hbl).trans (HX.out 13 _ rfl)
   have m0 := (hq.cell (p := ⟨b', o' + 7, none⟩) hbl').trans (HZ.out 7 _ rfl)
   have m1 := (hq.cell (p := ⟨b', o' + 8, none⟩) hbl').trans (HZ.out 8 _ rfl)
   have m2 := (hq.cell (p := ⟨b', o' + 9, none⟩) hbl').trans (HZ.out 9 _ rfl)
   have m3 := (hq.cell (p := ⟨b', o' + 10, none⟩) hbl').trans (HZ.out 10 _ rfl)
   have m4 := (hq.cell (p := ⟨b', o' + 11, none⟩) hbl').trans (HZ.out 11 _ rfl)
   have m5 := (hq.cell (p := ⟨b', o' + 12, none⟩) hbl').trans (HZ.out 12 _ rfl)
   have m6 := (hq.cell (p := ⟨b', o' + 13, none⟩) hbl').trans (HZ.out 13 _ rfl)
   clear hq
   go_wp2_with fail
   go_still_tail 8, (by kernel_rfl)
   change wpList _ _ _ _ _ w9.drew
   have hB10 : Hid (Below W.heap.size W w9.drew) := hB9.out.drew
   clear hB9 c0 c1 c2 c3 c4 c5 c6 d0 d1 d2 d3 d4 d5 d6 k0 k1 k2 k3 k4 k5 k6 m0 m1 m2 m3 m4 m5 m6
   generalize w9.drew = w10 at hB10 ⊢
   go_wp2_with fail
   refine (I1.out _ (HT0.out.below hB10.out).bel).mono ?_
   rintro e w11 ⟨rfl, hb11⟩
   have hB11 := qc9 hB10 hb11
   clear hb11 hB10
   go_wp2
   go_ret
   exact ⟨ret_int hr.out, (HT0.out.below hB11.out).bel⟩
 · have hn : (r0 != 0) = true := by rw [bne_iff_ne]; exact h0
   have hr : Hid (r0 = next r0 r1) := by show _ = _; unfold next; rw [if_neg h0]
   clear h0
   go_wp2
   go_ret
   exact ⟨ret_int hr.out, (HT0.out.below hB9.out).bel⟩

theorem compareO (d : Nat) (hd : d ≤ 1000) : ∀ (a a' : Ob) (p p' : Value) (w : World) (S : Nat → Prop), In S w → Pair w S a p → Pair w S a' p' → a.bd d → a'.bd d →
 Calls Tryz.prog 123 #[vO a p, vO a' p'] w (RetI w (ordO a a')) := by
 intro a
 induction a with
 | num x =>
  intro a' p p' w S hS h h' hb hb'
  cases a' with
  | num y =>
   obtain rfl := h.flat rfl
   obtain rfl := h'.flat rfl
   exact cmpR_num d hd x y hb hb' w
  | _ => exact cmpR_ne _ _ _ _ w (by simp [Ob.rank])
 | str s =>
  intro a' p p' w S hS h h' hb hb'
  cases a' with
  | str t =>
   obtain rfl := h.flat rfl
   obtain rfl := h'.flat rfl
   exact cmpR_str s t w
  | _ => exact cmpR_ne _ _ _ _ w (by simp [Ob.rank])
 | sym s n =>
  intro a' p p' w S hS h h' hb hb'
  cases a' with
  | sym t m =>
   obtain rfl := h.flat rfl
   obtain rfl := h'.flat rfl
   exact cmpR_sym s n t m w
  | _ => exact cmpR_ne _ _ _ _ w (by simp [Ob.rank])
 | cons a e iha ihe =>
  intro a' p p' w S hS h h' hb hb'
  cases a' with
  | cons a2 e2 =>
   obtain ⟨g, o, c, qa, qd, rfl, hc, hg, hx, h1, h2⟩ := h
   obtain ⟨g', o', c', qa', qd', rfl, hc', hg', hx', h1', h2'⟩ := h'
   have k1 := fun w' (hw : Below w.heap.size w w') => iha a2 qa qa' w' S (hS.later hw.size) (h1.below hS hw) (h1'.below hS hw) hb.1 hb'.1
   have k2 := fun w' (hw : Below w.heap.size w w') => ihe e2 qd qd' w' S (hS.later hw.size) (h2.below hS hw) (h2'.below hS hw) hb.2 hb'.2
   unfold vO at k1 k2
   obtain ⟨x0, x1, x2, x3, x4, x5, ea⟩ := cells7 a qa
   obtain ⟨y0, y1, y2, y3, y4, y5, ed⟩ := cells7 e qd
   obtain ⟨z0, z1, z2, z3, z4, z5, ea'⟩ := cells7 a2 qa'
   obtain ⟨t0, t1, t2, t3, t4, t5, ed'⟩ := cells7 e2 qd'
   rw [ea, ed] at hx
   rw [ea', ed'] at hx'
   rw [ea, ea'] at k1
   rw [ed, ed'] at k2
   exact cmpR_cons g o c g' o' c' x0 x1 x2 x3 x4 x5 qa y0 y1 y2 y3 y4 y5 qd z0 z1 z2 z3 z4 z5 qa' t0 t1 t2 t3 t4 t5 qd' _ _ hc hc' w (hS g hg.1) (hS g' hg'.1)
    (fun j u h => hx j u (by simpa using h)) (fun j u h => hx' j u (by simpa using h)) k1 k2
  | _ => exact cmpR_ne _ _ _ _ w (by simp [Ob.rank])
set_option maxHeartbeats 8000000 in
set_option maxRecDepth 100000 in
theorem lessR (d : Nat) (hd : d ≤ 1000) (a a' : Ob) (p p' : Value) (w : World) (S : Nat → Prop) (hp : Pair w S a p) (hp' : Pair w S a' p') (hb : Bd d a.fix) (hb' : Bd d a'.fix) (ht : Tab w) :
 Calls Tryz.prog 72 #[vO a p, vO a' p'] w (RetB w (decide (ordQ a.fix a'.fix < 0))) := by
 have HT := qh9 ht
 have A1 : Hid (∀ wd, Tab wd → Calls Tryz.prog 62 #[vO a p] wd (RetN wd a.fix)) := fun wd h => fixR a p wd (fun q e => by subst e; exact hp) h
 have A2 : Hid (∀ wd, Tab wd → Calls Tryz.prog 62 #[vO a' p'] wd (RetN wd a'.fix)) := fun wd h => fixR a' p' wd (fun q e => by subst e; exact hp') h
 have CN : Hid (∀ wd, Calls Tryz.prog 123 #[vQ a.fix, vQ a'.fix] wd (RetI wd (ordQ a.fix a'.fix))) := fun wd => compareO d hd (.num a.fix) (.num a'.fix) (.slice none 0 0) (.slice none 0 0) wd (fun _ => False) (fun _ h => h.elim) rfl rfl hb hb'
 clear ht hp hp' hb hb'
 generalize a.fix = x at A1 CN ⊢
 generalize a'.fix = y at A2 CN ⊢
 generalize ordQ x y = r at CN ⊢
 obtain ⟨x0, x1, x2, x3, x4, x5, e⟩ := cells7 a p
 obtain ⟨y0, y1, y2, y3, y4, y5, e'⟩ := cells7 a' p'
 unfold vO at A1 A2
 rw [e] at A1
 rw [e'] at A2
 unfold vO
 rw [e, e']
 clear e e'
 go_enter Tryz.func72, Tryz.ntmps72
 go_wp2_with fail
 have T0 := BoxB.new w #[x0, x1, x2, x3, x4, x5, p] #[y0, y1, y2, y3, y4, y5, p']
 generalize (w.alloc (.cells #[x0, x1, x2, x3, x4, x5, p] 27)).alloc (.cells #[y0, y1, y2, y3, y4, y5, p'] 27) = W at T0 ⊢
 have hB0 : Below W.heap.size W W.drew := (Below.refl _ _).drew
 obtain ⟨⟨c0, c1, c2, c3, c4, c5, c6⟩, _⟩ := row7 T0.b0
 obtain ⟨⟨d0, d1, d2, d3, d4, d5, d6⟩, _⟩ := row7 T0.b1
 have HB : Hid (∀ W', Below W.heap.size W W' → Tab W') := fun W' h => HT.out.below (T0.below h).bel
 have HT0 := qh9 T0
 clear T0 HT
 go_region_held3 (fun W' => (W'.cell? ⟨w.heap.size, 0, none⟩ = some x0 ∧ W'.cell? ⟨w.heap.size, 1, none⟩ = some x1 ∧ W'.cell? ⟨w.heap.size, 2, none⟩ = some x2 ∧ W'.cell? ⟨w.heap.size, 3, none⟩ = some x3 ∧ W'.cell? ⟨w.heap.size, 4, none⟩ = some x4 ∧ W'.cell? ⟨w.heap.size, 5, none⟩ = some x5 ∧ W'.cell? ⟨w.heap.size, 6, none⟩ = some p) ∧
  (W'.cell? ⟨w.heap.size + 1, 0, none⟩ = some y0 ∧ W'.cell? ⟨w.heap.size + 1, 1, none⟩ = some y1 ∧ W'.cell? ⟨w.heap.size + 1, 2, none⟩ = some y2 ∧ W'.cell? ⟨w.heap.size + 1, 3, none⟩ = some y3 ∧ W'.cell? ⟨w.heap.size + 1, 4, none⟩ = some y4 ∧ W'.cell? ⟨w.heap.size + 1, 5, none⟩ = some y5 ∧ W'.cell? ⟨w.heap.size + 1, 6, none⟩ = some p')) (first | exact ⟨(row7 (HT0.out.below ‹Below W.heap.size W _›).b0).1, (row7 (HT0.out.below ‹Below W.heap.size W _›).b1).1⟩ | go_keep)
  (first
    | (go_at_call_of 62 (Value.agg #[x0, x1, x2, x3, x4, x5, p]); refine (A1.out _ (HB.out _ ‹Below W.heap.size W _›)).mono ?_; rintro e w3 ⟨rfl, hb3⟩; have hB3 := chain2 ‹Below W.heap.size W _› hb3 (Nat.le_refl _); clear hb3)
    | (go_at_call_of 62 (Value.agg #[y0, y1, y2, y3, y4, y5, p']); refine (A2.out _ (HB.out _ ‹Below W.heap.size W _›)).mono ?_; rintro e w4 ⟨rfl, hb4⟩; have hB4 := chain2 ‹Below W.heap.size W _› hb4 (Nat.le_refl _); clear hb4)
    | (go_at_call 123; refine (CN.out _).mono ?_; rintro e w5 ⟨rfl, hb5⟩; have hB5 := chain2 ‹Below W.heap.size W _› hb5 (Nat.le_refl _); clear hb5))
 all_goals go_wp2
 all_goals go_ret
 all_goals exact ⟨rfl, (HT0.out.below ‹Below W.heap.size W _›).bel⟩
mutual
def Rw.cnt : Rw → Nat
 | .mk _ _ _ l => 1 + Rw.cnts l
def Rw.cnts : List Rw → Nat
 | [] => 0
 | r :: rs => r.cnt + Rw.cnts rs
end
mutual
def Rw.ok : Rw → Prop
 | .mk _ _ s l => s.size ≤ 12 ∧ l.length ≤ 6 ∧ Rw.oks l
def Rw.oks : List Rw → Prop
 | [] => True
 | r :: rs => r.ok ∧ Rw.oks rs
end
theorem Rw.cnt_pos : ∀ r : Rw, 1 ≤ r.cnt
 | .mk _ _ _ _ => by unfold Rw.cnt; omega
def NoB (b : Nat) : Prop := False
theorem NoB.in (w : World) : In NoB w := fun _ h => h.elim
def OkO (m : Nat) (o : Ob) : Prop := o.bd 10 ∧ o.nodes ≤ m
def RetX (w : World) (m : Nat) (e : Ending) (w' : World) : Prop := ∃ o p, e = .returned (vO o p) ∧ Pair w' (Upto w w' NoB) o p ∧ Below w.heap.size w w' ∧ OkO m o
theorem RetO.x {w w' : World} {o : Ob} {e : Ending} {m : Nat} (h : RetO w NoB o e w') (hm : OkO m o) : RetX w m e w' := by
 obtain ⟨p, h1, h2, h3⟩ := h
 exact ⟨o, p, h1, h2, h3, hm⟩

structure MkW (w W : World) (raw : Array Value) : Prop where
 bel : Below w.heap.size w W
 b0 : W.heap[w.heap.size]? = some (.cells raw 49 (0, 0))
 b1 : W.heap[w.heap.size + 1]? = some (.cells #[.int .i64 0, .string ⟨#[]⟩, .string ⟨#[]⟩, .string ⟨#[]⟩, .string ⟨#[]⟩, .string ⟨#[]⟩, .slice none 0 0] 27 (0, 0))
 sz : W.heap.size = w.heap.size + 2
theorem MkW.new (w : World) (raw : Array Value) : MkW w ((w.alloc (.cells raw 49)).alloc (.cells #[.int .i64 0, .string ⟨#[]⟩, .string ⟨#[]⟩, .string ⟨#[]⟩, .string ⟨#[]⟩, .string ⟨#[]⟩, .slice none 0 0] 27)) raw :=
 ⟨Below.alloc (Below.alloc (Below.refl _ _) (Nat.le_refl _) _) (by simp) _, heap_alloc2_old w _ _, heap_alloc2_new w _ _, by simp⟩
theorem MkW.cell {w W : World} {raw : Array Value} (h : MkW w W raw) (i : Nat) : W.cell? ⟨w.heap.size, i, none⟩ = raw[i]? := cell_of_row _ _ _ _ _ _ h.b0
theorem MkW.below {w W W' : World} {raw : Array Value} (h : MkW w W raw) (hb : Below W.heap.size W W') : Below w.heap.size w W' ∧ W'.heap[w.heap.size]? = some (.cells raw 49 (0, 0)) ∧
 W'.heap[w.heap.size + 1]? = some (.cells #[.int .i64 0, .string ⟨#[]⟩, .string ⟨#[]⟩, .string ⟨#[]⟩, .string ⟨#[]⟩, .string ⟨#[]⟩, .slice none 0 0] 27 (0, 0)) := by
 have := h.sz
 exact ⟨h.bel.trans (hb.mono (by omega)), (hb.block _ (by omega)).trans h.b0, (hb.block _ (by omega)).trans h.b1⟩
end Go.Proofs.YtbffnoodpoagcaaGreatDoor
